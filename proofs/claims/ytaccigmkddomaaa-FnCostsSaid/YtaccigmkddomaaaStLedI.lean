/- Borders and ledgers: the program's booked state: openBooks, hasRoomFor, take, give; ApplyBorder, as contracts: what each answers, in memory of the call's own; nothing that was there is written.
   Conditions: at most 2^20 leaves and numbers. -/
import Derived.Test.YtaccigmkddomaaaStLedK
import Derived.Test.YtaccigmkddomaaaStShare
import Derived.Deep.RegionHeld3
import Derived.Deep.RegionWith
set_option maxRecDepth 100000
namespace Go.Proofs.Ytaccigmkddomaaa.State
open Go.ChangeShapes Go.WideShapes Go.ChangeAt Go.RowKit Go.Joins Go.Proofs.Ytaccigmkddomaaa.Cell Go.Proofs.Ytaccigmkddomaaa.Mesh Go.Proofs.Ytaccigmkddomaaa.Law Go.Proofs.Ytaccigmkddomaaa.Ints Go.Proofs.Ytaccigmkddomaaa.Draws Go.Deep

theorem set_at {gs : List Grp} {k : Nat} {g g' : Grp} (h : gs[k]? = some g) : (gs.set k g')[k]? = some g' := List.getElem?_set_self (List.getElem?_eq_some_iff.1 h).1

/-- A state and a ledger, in memory of the call's own. -/
def GivesSL (R : Int) (n1 n2 n3 n4 : Nat) (xs : List C3) (ms ts bs : List Int) (l0 l1 l2 l3 : Int) (w : World) (e : Ending) (w' : World) : Prop :=
  ∃ a1 c1 a2 c2 a3 c3 a4 c4, e = .returned (.tuple #[.agg #[.int .i64 R, .slice a1 n1 c1, .slice a2 n2 c2, .slice a3 n3 c3, .slice a4 n4 c4], .agg #[.int .i64 l0, .int .i64 l1, .int .i64 l2, .int .i64 l3]]) ∧ OwnS w' w.heap.size (.slice a1 n1 c1) (.slice a2 n2 c2) (.slice a3 n3 c3) (.slice a4 n4 c4) n1 n2 n3 n4 xs ms ts bs ∧ w.grownBy w' none

end Go.Proofs.Ytaccigmkddomaaa.State
