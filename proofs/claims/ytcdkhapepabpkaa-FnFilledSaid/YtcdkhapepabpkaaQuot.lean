/- Rounded quotients in whole numbers: what the rest of a division towards 0 says of the others.
   Conditions: the divisor is positive. -/
import Derived.Test.YtcdkhapepabpkaaChecked
set_option maxRecDepth 100000
namespace Go.Proofs.Ytcdkhapepabpkaa.Quot

theorem parts {a b : Int} (hb : 0 < b) : (a.tdiv b = a / b ∧ a.tmod b = a % b ∧ (0 ≤ a ∨ a % b = 0)) ∨ (a.tdiv b = a / b + 1 ∧ a.tmod b = a % b - b ∧ a < 0 ∧ a % b ≠ 0) := by
  have h1 := Int.tdiv_eq_ediv (a := a) (b := b)
  have h2 := Int.tmod_eq_emod (a := a) (b := b)
  by_cases h : 0 ≤ a ∨ b ∣ a
  · rw [if_pos h] at h1 h2
    refine .inl ⟨by omega, by omega, ?_⟩
    rcases h with h | h
    · exact .inl h
    · exact .inr (Int.emod_eq_zero_of_dvd h)
  · rw [if_neg h] at h1 h2
    rw [Int.sign_eq_one_of_pos hb] at h1
    refine .inr ⟨by omega, by omega, by omega, fun e => h (.inr (Int.dvd_of_emod_eq_zero e))⟩

/-- Rounding down, by the rest alone. -/
theorem floor_rest {a b : Int} (hb : 0 < b) : (if a.tmod b < 0 then a.tdiv b - 1 else a.tdiv b) = a / b := by
  have h0 := Int.emod_nonneg a (show b ≠ 0 by omega)
  have h1 := Int.emod_lt_of_pos a hb
  rcases parts (a := a) hb with ⟨e1, e2, _⟩ | ⟨e1, e2, _, hn⟩
  · rw [e1, e2, if_neg (by omega)]
  · rw [e1, e2, if_pos (by omega)]; omega

theorem tdiv_range {a b : Int} (hb : 0 < b) (h0 : -9223372036854775808 ≤ a) (h1 : a ≤ 9223372036854775807) : -9223372036854775808 ≤ a.tdiv b ∧ a.tdiv b ≤ 9223372036854775807 := by
  rcases Int.lt_or_le a 0 with h | h
  · have e : a.tdiv b = -((-a).tdiv b) := by rw [Int.neg_tdiv, Int.neg_neg]
    rw [Int.tdiv_eq_ediv_of_nonneg (a := -a) (by omega)] at e
    have h2 := Int.ediv_nonneg (show 0 ≤ -a by omega) (show 0 ≤ b by omega)
    have h3 := Int.ediv_le_self b (show 0 ≤ -a by omega)
    omega
  · rw [Int.tdiv_eq_ediv_of_nonneg h]
    have h2 := Int.ediv_nonneg h (show 0 ≤ b by omega)
    have h3 := Int.ediv_le_self b h
    omega
theorem tdiv_small {a b : Int} (hb : 0 < b) (h0 : -1000000000000000 ≤ a) (h1 : a ≤ 1000000000000000) : -4611686018427387904 < a.tdiv b ∧ a.tdiv b ≤ 4611686018427387903 := by
  rcases Int.lt_or_le a 0 with h | h
  · have e : a.tdiv b = -((-a).tdiv b) := by rw [Int.neg_tdiv, Int.neg_neg]
    rw [Int.tdiv_eq_ediv_of_nonneg (a := -a) (by omega)] at e
    have h2 := Int.ediv_nonneg (show 0 ≤ -a by omega) (show 0 ≤ b by omega)
    have h3 := Int.ediv_le_self b (show 0 ≤ -a by omega)
    omega
  · rw [Int.tdiv_eq_ediv_of_nonneg h]
    have h2 := Int.ediv_nonneg h (show 0 ≤ b by omega)
    have h3 := Int.ediv_le_self b h
    omega
/-- Where a rest is left below 0, the quotient is not the least int. -/
theorem tdiv_room {a b : Int} (hb : 0 < b) (h0 : -9223372036854775808 ≤ a) (hr : a.tmod b < 0) : -9223372036854775808 < a.tdiv b := by
  have e := Int.mul_tdiv_add_tmod a b
  have h : a < 0 := by
    rcases Int.lt_or_le a 0 with h | h
    · exact h
    · have := Int.tmod_nonneg b h; omega
  have hq : a.tdiv b ≤ 0 := by
    have e1 : a.tdiv b = -((-a).tdiv b) := by rw [Int.neg_tdiv, Int.neg_neg]
    rw [Int.tdiv_eq_ediv_of_nonneg (a := -a) (by omega)] at e1
    have h2 := Int.ediv_nonneg (show 0 ≤ -a by omega) (show 0 ≤ b by omega)
    omega
  have : b * a.tdiv b ≤ 1 * a.tdiv b := Int.mul_le_mul_of_nonpos_right (by omega) hq
  omega
theorem tmod_range {a b : Int} (hb : 0 < b) : -b < a.tmod b ∧ a.tmod b < b := by
  have h0 := Int.emod_nonneg a (show b ≠ 0 by omega)
  have h1 := Int.emod_lt_of_pos a hb
  rcases parts (a := a) hb with ⟨_, e2, _⟩ | ⟨_, e2, _, hn⟩ <;> rw [e2] <;> omega

theorem tmod_sign {a b : Int} (hb : 0 < b) (h : a < 0) : a.tmod b ≤ 0 := by
  have h1 := Int.emod_lt_of_pos a hb
  rcases parts (a := a) hb with ⟨_, e2, h2⟩ | ⟨_, e2, _, hn⟩ <;> rw [e2] <;> omega

/-- The nearest integer, by the rest. -/
theorem near_rest {a b : Int} (hb : 0 < b) : (if b ≤ 2 * a.tmod b then a.tdiv b + 1 else if 2 * a.tmod b < -b then a.tdiv b - 1 else a.tdiv b) = (2 * a + b) / (2 * b) := by
  have e := Int.mul_tdiv_add_tmod a b
  have hr := tmod_range (a := a) hb
  have key : ∀ q r : Int, b * q + r = a → ∀ k : Int, 0 ≤ 2 * r + b - 2 * b * k → 2 * r + b - 2 * b * k < 2 * b → (2 * a + b) / (2 * b) = q + k := by
    intro q r hq k h0 h1
    have e1 : 2 * a + b = (2 * r + b - 2 * b * k) + (2 * b) * (q + k) := by rw [← hq, Int.mul_add (2 * b) q k, Int.mul_add 2 (b * q) r, Int.mul_assoc 2 b q]; omega
    rw [e1, Int.add_mul_ediv_left _ _ (show (2 * b) ≠ 0 by omega), Int.ediv_eq_zero_of_lt h0 h1]; omega
  by_cases h1 : b ≤ 2 * a.tmod b
  · rw [if_pos h1, key _ _ e 1 (by omega) (by omega)]
  · rw [if_neg h1]
    by_cases h2 : 2 * a.tmod b < -b
    · rw [if_pos h2, key _ _ e (-1) (by omega) (by omega)]; omega
    · rw [if_neg h2, key _ _ e 0 (by omega) (by omega)]; omega
end Go.Proofs.Ytcdkhapepabpkaa.Quot
