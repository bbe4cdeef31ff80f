/- What the three roundings of a small division keep.
   Conditions: as stated. -/
import Derived.Test.YtpcmmkamonmhfaaQuot
namespace Go.Proofs.Ytpcmmkamonmhfaa.Quot

/-- What the three roundings of a small division keep. -/
theorem laws {a b : Int} (a0 : -5000 ≤ a) (a1 : a ≤ 4999) (b0 : 1 ≤ b) (b1 : b ≤ 500) :
    ∃ f t n : Int, a / b = f ∧ a.tdiv b = t ∧ (2 * a + b) / (2 * b) = n ∧ (-a).tdiv b = -t ∧ -5000 ≤ f ∧ f ≤ 5000 ∧ -5001 ≤ t ∧ t ≤ 5001 ∧ -5001 ≤ n ∧ n ≤ 5001 ∧
      f * b ≤ a ∧ a < (f + 1) * b ∧ (f + 1) * b = f * b + b ∧ (0 ≤ a → t = f) ∧ 2 * (n * b) ≤ 2 * a + b ∧ 2 * a < 2 * (n * b) + b := by
  have hb : 0 < b := by omega
  refine ⟨_, _, _, rfl, rfl, rfl, Int.neg_tdiv a b, ?_, ?_, ?_, ?_, ?_, ?_, Int.ediv_mul_le a (by omega), Int.lt_ediv_add_one_mul_self a hb, by rw [Int.add_mul, Int.one_mul], fun h => Int.tdiv_eq_ediv_of_nonneg h, ?_, ?_⟩
  · exact Int.le_ediv_of_mul_le hb (by omega)
  · exact Int.ediv_le_of_le_mul hb (by omega)
  · have : -5000 ≤ a / b := Int.le_ediv_of_mul_le hb (by omega)
    rcases parts (a := a) hb with ⟨e, _⟩ | ⟨e, _⟩ <;> omega
  · have : a / b ≤ 5000 := Int.ediv_le_of_le_mul hb (by omega)
    rcases parts (a := a) hb with ⟨e, _⟩ | ⟨e, _⟩ <;> omega
  · exact Int.le_ediv_of_mul_le (by omega) (by omega)
  · exact Int.ediv_le_of_le_mul (by omega) (by omega)
  · have h := Int.ediv_mul_le (2 * a + b) (show 2 * b ≠ 0 by omega)
    rw [Int.mul_left_comm] at h
    exact h
  · have h := Int.lt_ediv_add_one_mul_self (2 * a + b) (show 0 < 2 * b by omega)
    rw [Int.add_mul, Int.one_mul, Int.mul_left_comm] at h
    omega
end Go.Proofs.Ytpcmmkamonmhfaa.Quot

