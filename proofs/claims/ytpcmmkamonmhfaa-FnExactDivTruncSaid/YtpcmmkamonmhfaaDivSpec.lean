/- The reference model's DivFloor, DivTrunc, DivNear, as contracts.
   Conditions: the numbers are ints. -/
import Derived.Test.YtpcmmkamonmhfaaDivs
namespace Go.Proofs.Ytpcmmkamonmhfaa.Draw
open Go.ChangeShapes Go.WideShapes Go.ChangeAt Go.RowKit

theorem spec_floor (a b : Int) (ha : -9223372036854775808 ≤ a ∧ a ≤ 9223372036854775807) (hb : b ≤ 9223372036854775807) (w : World) :
    Calls Try.prog 19 #[.int .i64 a, .int .i64 b] w fun e w' => e = .returned (.int .i64 (if b ≤ 0 then 0 else a / b)) ∧ w' = w := by
  by_cases h0 : b ≤ 0
  · rw [if_pos h0]
    go_enter Try.func19, Try.ntmps19
    go_wp2
    go_ret
    exact ⟨rfl, rfl⟩
  · rw [if_neg h0]
    have hp : 0 < b := by omega
    have hne : ¬ b = 0 := by omega
    have hq := Quot.tdiv_range (a := a) hp (by omega) (by omega)
    have hr := Quot.tmod_range (a := a) hp
    have hw1 : IntKind.i64.wrap (a.tdiv b) = a.tdiv b := by rw [IntKind.wrap_i64]; omega
    have hw2 : IntKind.i64.wrap (a.tmod b) = a.tmod b := by rw [IntKind.wrap_i64]; omega
    have hf := Quot.floor_rest (a := a) hp
    by_cases h1 : a < 0
    · by_cases h2 : a.tmod b = 0
      · rw [if_neg (by omega)] at hf
        rw [← hf]
        clear hf hr
        go_enter Try.func19, Try.ntmps19
        go_wp2
        go_ret
        exact ⟨rfl, rfl⟩
      · have h3 : a.tmod b < 0 := by
          have := Quot.tmod_sign (a := a) hp h1
          omega
        have h4 := Quot.tdiv_room (a := a) hp (by omega) h3
        rw [if_pos h3] at hf
        rw [← hf]
        clear hf hr
        go_enter Try.func19, Try.ntmps19
        go_wp2
        go_ret
        exact ⟨rfl, rfl⟩
    · have h3 : ¬ a.tmod b < 0 := by
        have := Int.tmod_nonneg b (show 0 ≤ a by omega)
        omega
      rw [if_neg h3] at hf
      rw [← hf]
      clear hf hr
      go_enter Try.func19, Try.ntmps19
      go_wp2
      go_ret
      exact ⟨rfl, rfl⟩

theorem spec_trunc (a b : Int) (ha : -9223372036854775808 ≤ a ∧ a ≤ 9223372036854775807) (w : World) :
    Calls Try.prog 20 #[.int .i64 a, .int .i64 b] w fun e w' => e = .returned (.int .i64 (if b ≤ 0 then 0 else a.tdiv b)) ∧ w' = w := by
  by_cases h0 : b ≤ 0
  · rw [if_pos h0]
    go_enter Try.func20, Try.ntmps20
    go_wp2
    go_ret
    exact ⟨rfl, rfl⟩
  · rw [if_neg h0]
    have hp : 0 < b := by omega
    have hne : ¬ b = 0 := by omega
    have hq := Quot.tdiv_range (a := a) hp (by omega) (by omega)
    have hw1 : IntKind.i64.wrap (a.tdiv b) = a.tdiv b := by rw [IntKind.wrap_i64]; omega
    go_enter Try.func20, Try.ntmps20
    go_wp2
    go_ret
    exact ⟨rfl, rfl⟩

theorem in_is (n lo hi : Int) (w : World) :
    Calls Try.prog 29 #[.int .i64 n, .int .i64 lo, .int .i64 hi] w fun e w' => e = .returned (.bool (decide (lo ≤ n ∧ n ≤ hi))) ∧ w' = w := by
  by_cases h1 : lo ≤ n
  · by_cases h2 : n ≤ hi
    · rw [decide_eq_true (by omega : lo ≤ n ∧ n ≤ hi)]
      go_enter Try.func29, Try.ntmps29
      go_wp2
      go_ret
      exact ⟨rfl, rfl⟩
    · rw [decide_eq_false (by omega : ¬ (lo ≤ n ∧ n ≤ hi))]
      go_enter Try.func29, Try.ntmps29
      go_wp2
      go_ret
      exact ⟨rfl, rfl⟩
  · rw [decide_eq_false (by omega : ¬ (lo ≤ n ∧ n ≤ hi))]
    go_enter Try.func29, Try.ntmps29
    go_wp2
    go_ret
    exact ⟨rfl, rfl⟩

theorem spec_near (a b : Int) (w : World) :
    Calls Try.prog 21 #[.int .i64 a, .int .i64 b] w fun e w' => e = .returned (.int .i64 (near a b)) ∧ w' = w := by
  unfold near
  by_cases h1 : 1 ≤ b ∧ b ≤ 2147483647
  · by_cases h2 : -1000000000000000 ≤ a ∧ a ≤ 1000000000000000
    · rw [if_pos ⟨h1.1, h1.2, h2.1, h2.2⟩]
      obtain ⟨h11, h12⟩ := h1
      obtain ⟨h21, h22⟩ := h2
      go_enter Try.func21, Try.ntmps21
      go_wp2_with fail
      refine (in_is _ _ _ _).mono ?_; rintro e w1 ⟨rfl, rfl⟩
      rw [decide_eq_true (by omega)]
      go_wp2_with fail
      refine (in_is _ _ _ _).mono ?_; rintro e w1 ⟨rfl, rfl⟩
      rw [decide_eq_true (by omega)]
      go_wp2_with fail
      refine (spec_floor (2 * a + b) (2 * b) (by omega) (by omega) _).mono ?_; rintro e w1 ⟨rfl, rfl⟩
      rw [if_neg (by omega)]
      go_wp2_with fail
      go_ret
      exact ⟨rfl, rfl⟩
    · rw [if_neg (by omega)]
      obtain ⟨h11, h12⟩ := h1
      go_enter Try.func21, Try.ntmps21
      go_wp2_with fail
      refine (in_is _ _ _ _).mono ?_; rintro e w1 ⟨rfl, rfl⟩
      rw [decide_eq_true (by omega)]
      go_wp2_with fail
      refine (in_is _ _ _ _).mono ?_; rintro e w1 ⟨rfl, rfl⟩
      rw [decide_eq_false (by omega)]
      go_wp2_with fail
      go_ret
      exact ⟨rfl, rfl⟩
  · rw [if_neg (by omega)]
    go_enter Try.func21, Try.ntmps21
    go_wp2_with fail
    refine (in_is _ _ _ _).mono ?_; rintro e w1 ⟨rfl, rfl⟩
    rw [decide_eq_false (by omega)]
    go_wp2_with fail
    go_ret
    exact ⟨rfl, rfl⟩
end Go.Proofs.Ytpcmmkamonmhfaa.Draw
