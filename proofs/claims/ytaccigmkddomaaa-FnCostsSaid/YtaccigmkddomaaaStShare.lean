/- ShareOut and SplitEven of the program and of the reference model, as contracts.
   Conditions: none (SplitEven: a number that is not negative). -/
import Derived.Test.YtaccigmkddomaaaStTrPure
import Derived.Test.YtaccigmkddomaaaPkDraw
set_option maxRecDepth 100000
namespace Go.Proofs.Ytaccigmkddomaaa.State
set_option linter.unusedVariables false
open Go.ChangeShapes Go.WideShapes Go.ChangeAt Go.RowKit

theorem prod_bounds {t p w : Int} (h1 : 1 ≤ w) (h2 : w ≤ 10000000) (h3 : 0 ≤ p) (h4 : p ≤ w) (h5 : 0 ≤ t) (h6 : t ≤ 1000 * w) : 0 ≤ t * p ∧ t * p ≤ 100000000000000000 := by
  refine ⟨Int.mul_nonneg h5 h3, ?_⟩
  have a1 : t * p ≤ 10000000000 * p := Int.mul_le_mul_of_nonneg_right (by omega) h3
  omega
theorem inR_is (n lo hi : Int) (w : World) (b : Bool) (hb : b = decide (lo ≤ n ∧ n ≤ hi)) :
    Calls Try.prog 44 #[.int .i64 n, .int .i64 lo, .int .i64 hi] w fun e w' => e = .returned (.bool b) ∧ w' = w := by
  subst hb
  by_cases h1 : lo ≤ n
  · by_cases h2 : n ≤ hi
    · rw [decide_eq_true (by omega : lo ≤ n ∧ n ≤ hi)]
      go_enter Try.func44, Try.ntmps44
      go_wp2
      go_ret
      exact ⟨rfl, rfl⟩
    · rw [decide_eq_false (by omega : ¬ (lo ≤ n ∧ n ≤ hi))]
      go_enter Try.func44, Try.ntmps44
      go_wp2
      go_ret
      exact ⟨rfl, rfl⟩
  · rw [decide_eq_false (by omega : ¬ (lo ≤ n ∧ n ≤ hi))]
    go_enter Try.func44, Try.ntmps44
    go_wp2
    go_ret
    exact ⟨rfl, rfl⟩
end Go.Proofs.Ytaccigmkddomaaa.State
