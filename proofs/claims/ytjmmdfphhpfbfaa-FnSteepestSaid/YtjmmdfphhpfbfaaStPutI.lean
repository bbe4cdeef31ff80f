/- States: contentOf, put and PutCell of the program, as contracts.
   Conditions: at most 2^20 leaves and numbers. -/
import Derived.Test.YtjmmdfphhpfbfaaStClone
import Derived.Test.YtjmmdfphhpfbfaaStI
import Derived.Test.YtjmmdfphhpfbfaaStPutS
import Derived.Test.YtjmmdfphhpfbfaaStFillS
set_option maxRecDepth 100000
namespace Go.Proofs.Ytjmmdfphhpfbfaa.State
open Go.ChangeShapes Go.WideShapes Go.ChangeAt Go.RowKit Go.Joins Go.Proofs.Ytjmmdfphhpfbfaa.Cell Go.Proofs.Ytjmmdfphhpfbfaa.Mesh Go.Proofs.Ytjmmdfphhpfbfaa.Law Go.Proofs.Ytjmmdfphhpfbfaa.Ints Go.Proofs.Ytjmmdfphhpfbfaa.Draws Go.Deep

theorem free2 {b : Nat} {t : TypeId} {vs : Array Value} {W : World} (h : (boxG b t vs).P W) : W.frozen? ⟨b, 0, none⟩ = false ∧ W.frozen? ⟨b, 1, none⟩ = false := ⟨boxG.free h 0, boxG.free h 1⟩

end Go.Proofs.Ytjmmdfphhpfbfaa.State
