/- The program's DivFloor, DivTrunc, DivNear, as contracts.
   Conditions: the numbers are ints. -/
import Derived.Test.YtpcmmkamonmhfaaDiv
namespace Go.Proofs.Ytpcmmkamonmhfaa.Draw
open Go.ChangeShapes Go.WideShapes Go.ChangeAt Go.RowKit

theorem floor_is (a b : Int) (ha : -9223372036854775808 ≤ a ∧ a ≤ 9223372036854775807) (hb : b ≤ 9223372036854775807) (w : World) :
    Calls Try.prog 13 #[.int .i64 a, .int .i64 b] w fun e w' => e = .returned (.int .i64 (if b ≤ 0 then 0 else a / b)) ∧ w.grownBy w' Option.none := by
  go_enter Try.func13, Try.ntmps13
  go_wp2_with fail
  refine (divide_down a b ha hb w).mono ?_; rintro e w1 ⟨rfl, hg⟩
  go_wp2_with fail
  all_goals go_ret
  all_goals exact ⟨rfl, hg⟩

theorem trunc_is (a b : Int) (ha : -9223372036854775808 ≤ a ∧ a ≤ 9223372036854775807) (hb : b ≤ 9223372036854775807) (w : World) :
    Calls Try.prog 14 #[.int .i64 a, .int .i64 b] w fun e w' => e = .returned (.int .i64 (if b ≤ 0 then 0 else a.tdiv b)) ∧ w.grownBy w' Option.none := by
  go_enter Try.func14, Try.ntmps14
  go_wp2_with fail
  refine (divide_zero a b ha hb w).mono ?_; rintro e w1 ⟨rfl, hg⟩
  go_wp2_with fail
  all_goals go_ret
  all_goals exact ⟨rfl, hg⟩

/-- The limits of DivNear, and its answer. -/
def near (a b : Int) : Int := if 1 ≤ b ∧ b ≤ 2147483647 ∧ -1000000000000000 ≤ a ∧ a ≤ 1000000000000000 then (2 * a + b) / (2 * b) else 0

theorem nears_is (a b : Int) (w : World) :
    Calls Try.prog 15 #[.int .i64 a, .int .i64 b] w fun e w' => e = .returned (.int .i64 (near a b)) ∧ w.grownBy w' Option.none := by
  unfold near
  by_cases h1 : 2147483647 < b
  · rw [if_neg (by omega)]
    go_enter Try.func15, Try.ntmps15
    go_wp2_with fail
    go_ret
    exact ⟨rfl, grown_refl _ _⟩
  · by_cases h2 : a < -1000000000000000
    · rw [if_neg (by omega)]
      go_enter Try.func15, Try.ntmps15
      go_wp2_with fail
      go_ret
      exact ⟨rfl, grown_refl _ _⟩
    · by_cases h3 : 1000000000000000 < a
      · rw [if_neg (by omega)]
        go_enter Try.func15, Try.ntmps15
        go_wp2_with fail
        go_ret
        exact ⟨rfl, grown_refl _ _⟩
      · have e : (if 1 ≤ b ∧ b ≤ 2147483647 ∧ -1000000000000000 ≤ a ∧ a ≤ 1000000000000000 then (2 * a + b) / (2 * b) else 0) = if b ≤ 0 then 0 else (2 * a + b) / (2 * b) := by
          by_cases h : b ≤ 0
          · rw [if_neg (by omega), if_pos h]
          · rw [if_pos (by omega), if_neg h]
        rw [e]
        clear e
        go_enter Try.func15, Try.ntmps15
        go_wp2_with fail
        refine (divide_near a b (by omega) (by omega) w).mono ?_; rintro e w1 ⟨rfl, hg⟩
        go_wp2_with fail
        all_goals go_ret
        all_goals exact ⟨rfl, hg⟩
end Go.Proofs.Ytpcmmkamonmhfaa.Draw
