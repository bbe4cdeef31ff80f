/- States: what a function that makes a state answers, as the exact laws want it.
   Conditions: none. -/
import Derived.Test.YtaccigmkddomaaaStLaw
set_option maxRecDepth 100000
namespace Go.Proofs.Ytaccigmkddomaaa.State
open Go.ChangeShapes Go.WideShapes Go.ChangeAt Go.RowKit Go.Proofs.Ytaccigmkddomaaa.Cell Go.Proofs.Ytaccigmkddomaaa.Mesh Go.Proofs.Ytaccigmkddomaaa.Law Go.Proofs.Ytaccigmkddomaaa.Ints

/-- A state in memory of the call's own. -/
def GivesS (R : Int) (n1 n2 n3 n4 : Nat) (xs : List C3) (ms ts bs : List Int) (w : World) (e : Ending) (w' : World) : Prop :=
  ∃ a1 c1 a2 c2 a3 c3 a4 c4, e = .returned (.agg #[.int .i64 R, .slice a1 n1 c1, .slice a2 n2 c2, .slice a3 n3 c3, .slice a4 n4 c4]) ∧ OwnS w' w.heap.size (.slice a1 n1 c1) (.slice a2 n2 c2) (.slice a3 n3 c3) (.slice a4 n4 c4) n1 n2 n3 n4 xs ms ts bs ∧ w.grownBy w' none
/-- And a bool beside it. -/
def GivesSB (b : Bool) (R : Int) (n1 n2 n3 n4 : Nat) (xs : List C3) (ms ts bs : List Int) (w : World) (e : Ending) (w' : World) : Prop :=
  ∃ a1 c1 a2 c2 a3 c3 a4 c4, e = .returned (.tuple #[.agg #[.int .i64 R, .slice a1 n1 c1, .slice a2 n2 c2, .slice a3 n3 c3, .slice a4 n4 c4], .bool b]) ∧ OwnS w' w.heap.size (.slice a1 n1 c1) (.slice a2 n2 c2) (.slice a3 n3 c3) (.slice a4 n4 c4) n1 n2 n3 n4 xs ms ts bs ∧ w.grownBy w' none
end Go.Proofs.Ytaccigmkddomaaa.State
