/- States: l08Merge, two leaves put together, of the reference model, as a contract, in memory of its own; nothing that was there is written (written by wip/tools/stspec.py).
   Conditions: a state that is valid but for the balance of its mesh. -/
import Derived.Test.YtfoilfgiablleaaStSpecT
import Derived.Test.YtfoilfgiablleaaStShare
set_option maxRecDepth 100000
namespace Go.Proofs.Ytfoilfgiablleaa.State
open Go.ChangeShapes Go.WideShapes Go.ChangeAt Go.RowKit Go.Joins Go.Proofs.Ytfoilfgiablleaa.Cell Go.Proofs.Ytfoilfgiablleaa.Mesh Go.Proofs.Ytfoilfgiablleaa.Law Go.Proofs.Ytfoilfgiablleaa.Ints Go.Proofs.Ytfoilfgiablleaa.Draws Go.Deep
set_option linter.unusedVariables false

theorem Held.sub {w W : World} {gs gs' : List Grp} (h : Held w W gs) (hs : gs'.Sublist gs) : Held w W gs' :=
  ⟨fun g hg => h.p g (hs.subset hg), fun g hg => h.lo g (hs.subset hg), h.dis.sublist hs, h.gr⟩

end Go.Proofs.Ytfoilfgiablleaa.State
