/- States: the program's drop and flux of a face, SurfaceOf, FaceFlux, as contracts: what each answers; nothing that was there is written.
   Conditions: at most 2^20 leaves and numbers. -/
import Derived.Test.YtaccigmkddomaaaStFluxI
set_option maxRecDepth 100000
namespace Go.Proofs.Ytaccigmkddomaaa.State
open Go.ChangeShapes Go.WideShapes Go.ChangeAt Go.RowKit Go.Joins Go.Proofs.Ytaccigmkddomaaa.Cell Go.Proofs.Ytaccigmkddomaaa.Mesh Go.Proofs.Ytaccigmkddomaaa.Law Go.Proofs.Ytaccigmkddomaaa.Ints Go.Deep

end Go.Proofs.Ytaccigmkddomaaa.State
