/- The program's DivFloor, DivTrunc, DivNear, as contracts.
   Conditions: the numbers are ints. -/
import Derived.Test.YtcdkhapepabpkaaDiv
set_option maxRecDepth 100000
namespace Go.Proofs.Ytcdkhapepabpkaa.Draw
open Go.ChangeShapes Go.WideShapes Go.ChangeAt Go.RowKit

theorem floor_is (a b : Int) (ha : -9223372036854775808 ≤ a ∧ a ≤ 9223372036854775807) (hb : b ≤ 9223372036854775807) (w : World) :
    Calls Try.prog 45 #[.int .i64 a, .int .i64 b] w fun e w' => e = .returned (.int .i64 (if b ≤ 0 then 0 else a / b)) ∧ w.grownBy w' Option.none := by
  go_enter Try.func45, Try.ntmps45
  go_wp2_with fail
  refine (divide_down a b ha hb w).mono ?_; rintro e w1 ⟨rfl, hg⟩
  go_wp2_with fail
  all_goals go_ret
  all_goals exact ⟨rfl, hg⟩

/-- The limits of DivNear, and its answer. -/
def near (a b : Int) : Int := if 1 ≤ b ∧ b ≤ 2147483647 ∧ -1000000000000000 ≤ a ∧ a ≤ 1000000000000000 then (2 * a + b) / (2 * b) else 0

end Go.Proofs.Ytcdkhapepabpkaa.Draw
