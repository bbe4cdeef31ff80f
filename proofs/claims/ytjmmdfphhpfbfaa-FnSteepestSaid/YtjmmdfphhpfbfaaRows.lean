/-
  No cell of these rows narrows 'for every input' (looked for: loops, veiled, ifaces, maps, wideKeys, modest, calm, conditions, laid).
  DERIVED. THE GIVEN ROWS OF THIS SEAT. 6 by the template 'for every input the law returns true; each argument reads behind the call as it read before'; 0 by the template 'total and deterministic' (their statements: YtjmmdfphhpfbfaaTotals.lean).
  GIVEN WITH THE SEED: the statements are not yours to turn. If you find one false, say at which input.
  Laid BY PROGRAM, IN A SANDBOX (cutbox-rows.mjs): the forced cells as the released guide's own fill.sh prints them over the translation 7cf43d3ad80a0259… (all of the seat's roots in one cut). By AI agents, Wed Nov 11 2026. No macro, syntax, notation, axiom, sorry.
-/
import Derived.Test.YtjmmdfphhpfbfaaChecked
import GoSem.Claim
import GoSem.ClaimJoined
import GoSem.ClaimMapViews
import Derived.JoinedTies
import Derived.KernelRfl
namespace Go.Proofs.Ytjmmdfphhpfbfaa
/- THE CELL 'sum', in the pinned program and in every row, IS THE sha256 OF THE DUMP (.gsa) THAT YtjmmdfphhpfbfaaProg.lean LOADS. Nothing in Lean hashes anything: it is a label: what it is worth is what the hold of that sum in a sandbox is worth. -/
noncomputable def Try.pinned : Pinned := { name := "ytjmmdfphhpfbfaa", sum := "7cf43d3ad80a02594f12697fd4db0441086f0bfb0629bc94fdb7f37ba55f4c53", checked := Try.checked }
namespace Rows
def none {H : Type} : Left H := { results := [], args := [] }

/-- 'laws.FnFluxes': WHATEVER THE INPUT: true; the input reads as it did. -/
def fnFluxesSpec : ChangeSpec := { name := "fnFluxes", fn := fun _ => fun
  | [d] => { results := [.lit (.bool true)], args := [d] }
  | _ => none }
def fnFluxesRow : OpenClaim := { program := "ytjmmdfphhpfbfaa", sum := "7cf43d3ad80a02594f12697fd4db0441086f0bfb0629bc94fdb7f37ba55f4c53", func := "loop.example/g00982/laws.FnFluxes", spec := "fnFluxes", unfollowed := true, recurses := true, apart := false }
def FnFluxesSaid : Prop := fnFluxesRow.holds Try.pinned (OpenSpec.ofChange fnFluxesSpec)

/-- ITS FALSE NEIGHBOUR: 'it returns false'. Refute it at one input. -/
def fnFluxesWrong : ChangeSpec := { name := "fnFluxes", fn := fun _ => fun
  | [d] => { results := [.lit (.bool false)], args := [d] }
  | _ => none }
def FnFluxesWrongFalsely : Prop := fnFluxesRow.holds Try.pinned (OpenSpec.ofChange fnFluxesWrong)

/-- 'laws.FnSteepest': WHATEVER THE INPUT: true; the input reads as it did. -/
def fnSteepestSpec : ChangeSpec := { name := "fnSteepest", fn := fun _ => fun
  | [d] => { results := [.lit (.bool true)], args := [d] }
  | _ => none }
def fnSteepestRow : OpenClaim := { program := "ytjmmdfphhpfbfaa", sum := "7cf43d3ad80a02594f12697fd4db0441086f0bfb0629bc94fdb7f37ba55f4c53", func := "loop.example/g00982/laws.FnSteepest", spec := "fnSteepest", unfollowed := true, recurses := true, apart := false }
def FnSteepestSaid : Prop := fnSteepestRow.holds Try.pinned (OpenSpec.ofChange fnSteepestSpec)

/-- ITS FALSE NEIGHBOUR: 'it returns false'. Refute it at one input. -/
def fnSteepestWrong : ChangeSpec := { name := "fnSteepest", fn := fun _ => fun
  | [d] => { results := [.lit (.bool false)], args := [d] }
  | _ => none }
def FnSteepestWrongFalsely : Prop := fnSteepestRow.holds Try.pinned (OpenSpec.ofChange fnSteepestWrong)

/-- 'laws.FnExactSurfaceOf': WHATEVER THE INPUT: true; the input reads as it did. -/
def fnExactSurfaceOfSpec : ChangeSpec := { name := "fnExactSurfaceOf", fn := fun _ => fun
  | [d1, d2] => { results := [.lit (.bool true)], args := [d1, d2] }
  | _ => none }
def fnExactSurfaceOfRow : OpenClaim := { program := "ytjmmdfphhpfbfaa", sum := "7cf43d3ad80a02594f12697fd4db0441086f0bfb0629bc94fdb7f37ba55f4c53", func := "loop.example/g00982/laws.FnExactSurfaceOf", spec := "fnExactSurfaceOf", apart := false }
def FnExactSurfaceOfSaid : Prop := fnExactSurfaceOfRow.holds Try.pinned (OpenSpec.ofChange fnExactSurfaceOfSpec)

/-- ITS FALSE NEIGHBOUR: 'it returns false'. Refute it at one input. -/
def fnExactSurfaceOfWrong : ChangeSpec := { name := "fnExactSurfaceOf", fn := fun _ => fun
  | [d1, d2] => { results := [.lit (.bool false)], args := [d1, d2] }
  | _ => none }
def FnExactSurfaceOfWrongFalsely : Prop := fnExactSurfaceOfRow.holds Try.pinned (OpenSpec.ofChange fnExactSurfaceOfWrong)

/-- 'laws.FnExactFaceFlux': WHATEVER THE INPUT: true; the input reads as it did. -/
def fnExactFaceFluxSpec : ChangeSpec := { name := "fnExactFaceFlux", fn := fun _ => fun
  | [d1, d2] => { results := [.lit (.bool true)], args := [d1, d2] }
  | _ => none }
def fnExactFaceFluxRow : OpenClaim := { program := "ytjmmdfphhpfbfaa", sum := "7cf43d3ad80a02594f12697fd4db0441086f0bfb0629bc94fdb7f37ba55f4c53", func := "loop.example/g00982/laws.FnExactFaceFlux", spec := "fnExactFaceFlux", unfollowed := true, recurses := true, apart := false }
def FnExactFaceFluxSaid : Prop := fnExactFaceFluxRow.holds Try.pinned (OpenSpec.ofChange fnExactFaceFluxSpec)

/-- ITS FALSE NEIGHBOUR: 'it returns false'. Refute it at one input. -/
def fnExactFaceFluxWrong : ChangeSpec := { name := "fnExactFaceFlux", fn := fun _ => fun
  | [d1, d2] => { results := [.lit (.bool false)], args := [d1, d2] }
  | _ => none }
def FnExactFaceFluxWrongFalsely : Prop := fnExactFaceFluxRow.holds Try.pinned (OpenSpec.ofChange fnExactFaceFluxWrong)

/-- 'laws.FnExactAllFluxes': WHATEVER THE INPUT: true; the input reads as it did. -/
def fnExactAllFluxesSpec : ChangeSpec := { name := "fnExactAllFluxes", fn := fun _ => fun
  | [d] => { results := [.lit (.bool true)], args := [d] }
  | _ => none }
def fnExactAllFluxesRow : OpenClaim := { program := "ytjmmdfphhpfbfaa", sum := "7cf43d3ad80a02594f12697fd4db0441086f0bfb0629bc94fdb7f37ba55f4c53", func := "loop.example/g00982/laws.FnExactAllFluxes", spec := "fnExactAllFluxes", unfollowed := true, recurses := true, apart := false }
def FnExactAllFluxesSaid : Prop := fnExactAllFluxesRow.holds Try.pinned (OpenSpec.ofChange fnExactAllFluxesSpec)

/-- ITS FALSE NEIGHBOUR: 'it returns false'. Refute it at one input. -/
def fnExactAllFluxesWrong : ChangeSpec := { name := "fnExactAllFluxes", fn := fun _ => fun
  | [d] => { results := [.lit (.bool false)], args := [d] }
  | _ => none }
def FnExactAllFluxesWrongFalsely : Prop := fnExactAllFluxesRow.holds Try.pinned (OpenSpec.ofChange fnExactAllFluxesWrong)

/-- 'laws.FnExactSteepestFace': WHATEVER THE INPUT: true; the input reads as it did. -/
def fnExactSteepestFaceSpec : ChangeSpec := { name := "fnExactSteepestFace", fn := fun _ => fun
  | [d] => { results := [.lit (.bool true)], args := [d] }
  | _ => none }
def fnExactSteepestFaceRow : OpenClaim := { program := "ytjmmdfphhpfbfaa", sum := "7cf43d3ad80a02594f12697fd4db0441086f0bfb0629bc94fdb7f37ba55f4c53", func := "loop.example/g00982/laws.FnExactSteepestFace", spec := "fnExactSteepestFace", unfollowed := true, recurses := true, apart := false }
def FnExactSteepestFaceSaid : Prop := fnExactSteepestFaceRow.holds Try.pinned (OpenSpec.ofChange fnExactSteepestFaceSpec)

/-- ITS FALSE NEIGHBOUR: 'it returns false'. Refute it at one input. -/
def fnExactSteepestFaceWrong : ChangeSpec := { name := "fnExactSteepestFace", fn := fun _ => fun
  | [d] => { results := [.lit (.bool false)], args := [d] }
  | _ => none }
def FnExactSteepestFaceWrongFalsely : Prop := fnExactSteepestFaceRow.holds Try.pinned (OpenSpec.ofChange fnExactSteepestFaceWrong)

/- THE SECOND FORM. 'bulk': how many values and letters a reading holds, each counted each time it is reached (what is shared counts as often as it is met; a slice's spare places count too). A statement '..UptoSaid' is the law's where the arguments, and the package variables that the reading takes, are together of bulk at most 1048576: NARROWER than '..Said'. Prove '..Said' where nothing that the law and all that it calls make is longer than what came in: it says more and counts as full. Else prove '..UptoSaid'. A law counts once. -/
mutual
def uptoBulk {H : Type} : DataW H → Nat
  | .lit (.string bytes) => bytes.length + 1
  | .lit _ => 1
  | .nil => 1
  | .ptr d => uptoBulk d + 1
  | .slice elems spare => uptoBulkAll elems + uptoBulkAll spare + 1
  | .agg parts => uptoBulkAll parts + 1
  | .iface _ d => uptoBulk d + 1
  | .map entries => uptoBulkEntries entries + 1
  | .held _ => 1
def uptoBulkAll {H : Type} : List (DataW H) → Nat
  | [] => 0
  | d :: r => uptoBulk d + uptoBulkAll r
def uptoBulkEntries {H : Type} : List (Lit × DataW H) → Nat
  | [] => 0
  | x :: r => uptoBulkEntry x + uptoBulkEntries r
def uptoBulkEntry {H : Type} : Lit × DataW H → Nat
  | (.string bytes, d) => bytes.length + uptoBulk d + 1
  | (_, d) => uptoBulk d + 1
 end
def uptoSmall : (H : Type) → List (DataW H) → Bool := fun _ ds => decide (uptoBulkAll ds ≤ 1048576)
def OpenSpec.upto (s : _root_.Go.ChangeSpec) : _root_.Go.OpenSpec := { _root_.Go.OpenSpec.ofChange s with cond := some uptoSmall }

/-- 'laws.FnFluxes', WHERE WHAT IT READS IS OF BULK AT MOST 1048576: true; the input reads as it did. -/
def fnFluxesUptoRow : OpenClaim := { program := "ytjmmdfphhpfbfaa", sum := "7cf43d3ad80a02594f12697fd4db0441086f0bfb0629bc94fdb7f37ba55f4c53", func := "loop.example/g00982/laws.FnFluxes", spec := "fnFluxes", unfollowed := true, recurses := true, apart := false, narrowed := true }
def FnFluxesUptoSaid : Prop := fnFluxesUptoRow.holds Try.pinned (OpenSpec.upto fnFluxesSpec)

/-- 'laws.FnSteepest', WHERE WHAT IT READS IS OF BULK AT MOST 1048576: true; the input reads as it did. -/
def fnSteepestUptoRow : OpenClaim := { program := "ytjmmdfphhpfbfaa", sum := "7cf43d3ad80a02594f12697fd4db0441086f0bfb0629bc94fdb7f37ba55f4c53", func := "loop.example/g00982/laws.FnSteepest", spec := "fnSteepest", unfollowed := true, recurses := true, apart := false, narrowed := true }
def FnSteepestUptoSaid : Prop := fnSteepestUptoRow.holds Try.pinned (OpenSpec.upto fnSteepestSpec)

/-- 'laws.FnExactSurfaceOf', WHERE WHAT IT READS IS OF BULK AT MOST 1048576: true; the input reads as it did. -/
def fnExactSurfaceOfUptoRow : OpenClaim := { program := "ytjmmdfphhpfbfaa", sum := "7cf43d3ad80a02594f12697fd4db0441086f0bfb0629bc94fdb7f37ba55f4c53", func := "loop.example/g00982/laws.FnExactSurfaceOf", spec := "fnExactSurfaceOf", apart := false, narrowed := true }
def FnExactSurfaceOfUptoSaid : Prop := fnExactSurfaceOfUptoRow.holds Try.pinned (OpenSpec.upto fnExactSurfaceOfSpec)

/-- 'laws.FnExactFaceFlux', WHERE WHAT IT READS IS OF BULK AT MOST 1048576: true; the input reads as it did. -/
def fnExactFaceFluxUptoRow : OpenClaim := { program := "ytjmmdfphhpfbfaa", sum := "7cf43d3ad80a02594f12697fd4db0441086f0bfb0629bc94fdb7f37ba55f4c53", func := "loop.example/g00982/laws.FnExactFaceFlux", spec := "fnExactFaceFlux", unfollowed := true, recurses := true, apart := false, narrowed := true }
def FnExactFaceFluxUptoSaid : Prop := fnExactFaceFluxUptoRow.holds Try.pinned (OpenSpec.upto fnExactFaceFluxSpec)

/-- 'laws.FnExactAllFluxes', WHERE WHAT IT READS IS OF BULK AT MOST 1048576: true; the input reads as it did. -/
def fnExactAllFluxesUptoRow : OpenClaim := { program := "ytjmmdfphhpfbfaa", sum := "7cf43d3ad80a02594f12697fd4db0441086f0bfb0629bc94fdb7f37ba55f4c53", func := "loop.example/g00982/laws.FnExactAllFluxes", spec := "fnExactAllFluxes", unfollowed := true, recurses := true, apart := false, narrowed := true }
def FnExactAllFluxesUptoSaid : Prop := fnExactAllFluxesUptoRow.holds Try.pinned (OpenSpec.upto fnExactAllFluxesSpec)

/-- 'laws.FnExactSteepestFace', WHERE WHAT IT READS IS OF BULK AT MOST 1048576: true; the input reads as it did. -/
def fnExactSteepestFaceUptoRow : OpenClaim := { program := "ytjmmdfphhpfbfaa", sum := "7cf43d3ad80a02594f12697fd4db0441086f0bfb0629bc94fdb7f37ba55f4c53", func := "loop.example/g00982/laws.FnExactSteepestFace", spec := "fnExactSteepestFace", unfollowed := true, recurses := true, apart := false, narrowed := true }
def FnExactSteepestFaceUptoSaid : Prop := fnExactSteepestFaceUptoRow.holds Try.pinned (OpenSpec.upto fnExactSteepestFaceSpec)

end Rows
end Go.Proofs.Ytjmmdfphhpfbfaa
