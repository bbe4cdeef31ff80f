/- Meshes: faceLevelOf, FaceLevel and CountFaces of the program, as contracts.
   Conditions: at most 2^20 leaves. -/
import Derived.Test.YtnelgnfahkljmaaMFaceI
set_option maxRecDepth 100000
namespace Go.Proofs.Ytnelgnfahkljmaa.Mesh
open Go.ChangeShapes Go.WideShapes Go.ChangeAt Go.RowKit Go.Proofs.Ytnelgnfahkljmaa.Cell
end Go.Proofs.Ytnelgnfahkljmaa.Mesh
