/-
  No cell of these rows narrows 'for every input' (looked for: loops, veiled, ifaces, maps, wideKeys, modest, calm, conditions, laid).
  DERIVED. THE GIVEN ROWS OF THIS SEAT. 9 by the template 'for every input the law returns true; each argument reads behind the call as it read before'; 0 by the template 'total and deterministic' (their statements: YtjhfjceieaanhaaTotals.lean).
  GIVEN WITH THE SEED: the statements are not yours to turn. If you find one false, say at which input.
  Laid BY PROGRAM, IN A SANDBOX (cutbox-rows.mjs): the forced cells as the released guide's own fill.sh prints them over the translation 56d9b9db7a155d7c… (all of the seat's roots in one cut). By AI agents, Wed Nov 11 2026. No macro, syntax, notation, axiom, sorry.
-/
import Derived.Test.YtjhfjceieaanhaaChecked
import GoSem.Claim
import GoSem.ClaimJoined
import GoSem.ClaimMapViews
import Derived.JoinedTies
import Derived.KernelRfl
namespace Go.Proofs.Ytjhfjceieaanhaa
/- THE CELL 'sum', in the pinned program and in every row, IS THE sha256 OF THE DUMP (.gsa) THAT YtjhfjceieaanhaaProg.lean LOADS. Nothing in Lean hashes anything: it is a label: what it is worth is what the hold of that sum in a sandbox is worth. -/
noncomputable def Try.pinned : Pinned := { name := "ytjhfjceieaanhaa", sum := "56d9b9db7a155d7c9d12bf57405ee4e3113c84ef2df1612e4b7cfcbdfbd49a1c", checked := Try.checked }
namespace Rows
def none {H : Type} : Left H := { results := [], args := [] }

/-- 'laws.FnCovered': WHATEVER THE INPUT: true; the input reads as it did. -/
def fnCoveredSpec : ChangeSpec := { name := "fnCovered", fn := fun _ => fun
  | [d] => { results := [.lit (.bool true)], args := [d] }
  | _ => none }
def fnCoveredRow : OpenClaim := { program := "ytjhfjceieaanhaa", sum := "56d9b9db7a155d7c9d12bf57405ee4e3113c84ef2df1612e4b7cfcbdfbd49a1c", func := "loop.example/g00982/laws.FnCovered", spec := "fnCovered", recurses := true, apart := false }
def FnCoveredSaid : Prop := fnCoveredRow.holds Try.pinned (OpenSpec.ofChange fnCoveredSpec)

/-- ITS FALSE NEIGHBOUR: 'it returns false'. Refute it at one input. -/
def fnCoveredWrong : ChangeSpec := { name := "fnCovered", fn := fun _ => fun
  | [d] => { results := [.lit (.bool false)], args := [d] }
  | _ => none }
def FnCoveredWrongFalsely : Prop := fnCoveredRow.holds Try.pinned (OpenSpec.ofChange fnCoveredWrong)

/-- 'laws.FnMeshTexts': WHATEVER THE INPUT: true; the input reads as it did. -/
def fnMeshTextsSpec : ChangeSpec := { name := "fnMeshTexts", fn := fun _ => fun
  | [d] => { results := [.lit (.bool true)], args := [d] }
  | _ => none }
def fnMeshTextsRow : OpenClaim := { program := "ytjhfjceieaanhaa", sum := "56d9b9db7a155d7c9d12bf57405ee4e3113c84ef2df1612e4b7cfcbdfbd49a1c", func := "loop.example/g00982/laws.FnMeshTexts", spec := "fnMeshTexts", inPlace := ["internal/bytealg.CountString", "internal/bytealg.IndexByteString", "internal/bytealg.IndexString"], unfollowed := true, recurses := true, named := ["internal/bytealg.MaxLen"], apart := false }
def FnMeshTextsSaid : Prop := fnMeshTextsRow.holds Try.pinned (OpenSpec.ofChange fnMeshTextsSpec)

/-- ITS FALSE NEIGHBOUR: 'it returns false'. Refute it at one input. -/
def fnMeshTextsWrong : ChangeSpec := { name := "fnMeshTexts", fn := fun _ => fun
  | [d] => { results := [.lit (.bool false)], args := [d] }
  | _ => none }
def FnMeshTextsWrongFalsely : Prop := fnMeshTextsRow.holds Try.pinned (OpenSpec.ofChange fnMeshTextsWrong)

/-- 'laws.FnExactMeshNew': WHATEVER THE INPUT: true; the input reads as it did. -/
def fnExactMeshNewSpec : ChangeSpec := { name := "fnExactMeshNew", fn := fun _ => fun
  | [d1, d2] => { results := [.lit (.bool true)], args := [d1, d2] }
  | _ => none }
def fnExactMeshNewRow : OpenClaim := { program := "ytjhfjceieaanhaa", sum := "56d9b9db7a155d7c9d12bf57405ee4e3113c84ef2df1612e4b7cfcbdfbd49a1c", func := "loop.example/g00982/laws.FnExactMeshNew", spec := "fnExactMeshNew", unfollowed := true, recurses := true, apart := false }
def FnExactMeshNewSaid : Prop := fnExactMeshNewRow.holds Try.pinned (OpenSpec.ofChange fnExactMeshNewSpec)

/-- ITS FALSE NEIGHBOUR: 'it returns false'. Refute it at one input. -/
def fnExactMeshNewWrong : ChangeSpec := { name := "fnExactMeshNew", fn := fun _ => fun
  | [d1, d2] => { results := [.lit (.bool false)], args := [d1, d2] }
  | _ => none }
def FnExactMeshNewWrongFalsely : Prop := fnExactMeshNewRow.holds Try.pinned (OpenSpec.ofChange fnExactMeshNewWrong)

/-- 'laws.FnExactMeshOk': WHATEVER THE INPUT: true; the input reads as it did. -/
def fnExactMeshOkSpec : ChangeSpec := { name := "fnExactMeshOk", fn := fun _ => fun
  | [d] => { results := [.lit (.bool true)], args := [d] }
  | _ => none }
def fnExactMeshOkRow : OpenClaim := { program := "ytjhfjceieaanhaa", sum := "56d9b9db7a155d7c9d12bf57405ee4e3113c84ef2df1612e4b7cfcbdfbd49a1c", func := "loop.example/g00982/laws.FnExactMeshOk", spec := "fnExactMeshOk", apart := false }
def FnExactMeshOkSaid : Prop := fnExactMeshOkRow.holds Try.pinned (OpenSpec.ofChange fnExactMeshOkSpec)

/-- ITS FALSE NEIGHBOUR: 'it returns false'. Refute it at one input. -/
def fnExactMeshOkWrong : ChangeSpec := { name := "fnExactMeshOk", fn := fun _ => fun
  | [d] => { results := [.lit (.bool false)], args := [d] }
  | _ => none }
def FnExactMeshOkWrongFalsely : Prop := fnExactMeshOkRow.holds Try.pinned (OpenSpec.ofChange fnExactMeshOkWrong)

/-- 'laws.FnExactLeafAt': WHATEVER THE INPUT: true; the input reads as it did. -/
def fnExactLeafAtSpec : ChangeSpec := { name := "fnExactLeafAt", fn := fun _ => fun
  | [d1, d2] => { results := [.lit (.bool true)], args := [d1, d2] }
  | _ => none }
def fnExactLeafAtRow : OpenClaim := { program := "ytjhfjceieaanhaa", sum := "56d9b9db7a155d7c9d12bf57405ee4e3113c84ef2df1612e4b7cfcbdfbd49a1c", func := "loop.example/g00982/laws.FnExactLeafAt", spec := "fnExactLeafAt", apart := false }
def FnExactLeafAtSaid : Prop := fnExactLeafAtRow.holds Try.pinned (OpenSpec.ofChange fnExactLeafAtSpec)

/-- ITS FALSE NEIGHBOUR: 'it returns false'. Refute it at one input. -/
def fnExactLeafAtWrong : ChangeSpec := { name := "fnExactLeafAt", fn := fun _ => fun
  | [d1, d2] => { results := [.lit (.bool false)], args := [d1, d2] }
  | _ => none }
def FnExactLeafAtWrongFalsely : Prop := fnExactLeafAtRow.holds Try.pinned (OpenSpec.ofChange fnExactLeafAtWrong)

/-- 'laws.FnExactLeafOf': WHATEVER THE INPUT: true; the input reads as it did. -/
def fnExactLeafOfSpec : ChangeSpec := { name := "fnExactLeafOf", fn := fun _ => fun
  | [d1, d2] => { results := [.lit (.bool true)], args := [d1, d2] }
  | _ => none }
def fnExactLeafOfRow : OpenClaim := { program := "ytjhfjceieaanhaa", sum := "56d9b9db7a155d7c9d12bf57405ee4e3113c84ef2df1612e4b7cfcbdfbd49a1c", func := "loop.example/g00982/laws.FnExactLeafOf", spec := "fnExactLeafOf", apart := false }
def FnExactLeafOfSaid : Prop := fnExactLeafOfRow.holds Try.pinned (OpenSpec.ofChange fnExactLeafOfSpec)

/-- ITS FALSE NEIGHBOUR: 'it returns false'. Refute it at one input. -/
def fnExactLeafOfWrong : ChangeSpec := { name := "fnExactLeafOf", fn := fun _ => fun
  | [d1, d2] => { results := [.lit (.bool false)], args := [d1, d2] }
  | _ => none }
def FnExactLeafOfWrongFalsely : Prop := fnExactLeafOfRow.holds Try.pinned (OpenSpec.ofChange fnExactLeafOfWrong)

/-- 'laws.FnExactDeepestLevel': WHATEVER THE INPUT: true; the input reads as it did. -/
def fnExactDeepestLevelSpec : ChangeSpec := { name := "fnExactDeepestLevel", fn := fun _ => fun
  | [d] => { results := [.lit (.bool true)], args := [d] }
  | _ => none }
def fnExactDeepestLevelRow : OpenClaim := { program := "ytjhfjceieaanhaa", sum := "56d9b9db7a155d7c9d12bf57405ee4e3113c84ef2df1612e4b7cfcbdfbd49a1c", func := "loop.example/g00982/laws.FnExactDeepestLevel", spec := "fnExactDeepestLevel", apart := false }
def FnExactDeepestLevelSaid : Prop := fnExactDeepestLevelRow.holds Try.pinned (OpenSpec.ofChange fnExactDeepestLevelSpec)

/-- ITS FALSE NEIGHBOUR: 'it returns false'. Refute it at one input. -/
def fnExactDeepestLevelWrong : ChangeSpec := { name := "fnExactDeepestLevel", fn := fun _ => fun
  | [d] => { results := [.lit (.bool false)], args := [d] }
  | _ => none }
def FnExactDeepestLevelWrongFalsely : Prop := fnExactDeepestLevelRow.holds Try.pinned (OpenSpec.ofChange fnExactDeepestLevelWrong)

/-- 'laws.FnExactFormatMesh': WHATEVER THE INPUT: true; the input reads as it did. -/
def fnExactFormatMeshSpec : ChangeSpec := { name := "fnExactFormatMesh", fn := fun _ => fun
  | [d] => { results := [.lit (.bool true)], args := [d] }
  | _ => none }
def fnExactFormatMeshRow : OpenClaim := { program := "ytjhfjceieaanhaa", sum := "56d9b9db7a155d7c9d12bf57405ee4e3113c84ef2df1612e4b7cfcbdfbd49a1c", func := "loop.example/g00982/laws.FnExactFormatMesh", spec := "fnExactFormatMesh", apart := false }
def FnExactFormatMeshSaid : Prop := fnExactFormatMeshRow.holds Try.pinned (OpenSpec.ofChange fnExactFormatMeshSpec)

/-- ITS FALSE NEIGHBOUR: 'it returns false'. Refute it at one input. -/
def fnExactFormatMeshWrong : ChangeSpec := { name := "fnExactFormatMesh", fn := fun _ => fun
  | [d] => { results := [.lit (.bool false)], args := [d] }
  | _ => none }
def FnExactFormatMeshWrongFalsely : Prop := fnExactFormatMeshRow.holds Try.pinned (OpenSpec.ofChange fnExactFormatMeshWrong)

/-- 'laws.FnExactParseMesh': WHATEVER THE INPUT: true; the input reads as it did. -/
def fnExactParseMeshSpec : ChangeSpec := { name := "fnExactParseMesh", fn := fun _ => fun
  | [d] => { results := [.lit (.bool true)], args := [d] }
  | _ => none }
def fnExactParseMeshRow : OpenClaim := { program := "ytjhfjceieaanhaa", sum := "56d9b9db7a155d7c9d12bf57405ee4e3113c84ef2df1612e4b7cfcbdfbd49a1c", func := "loop.example/g00982/laws.FnExactParseMesh", spec := "fnExactParseMesh", inPlace := ["internal/bytealg.CountString", "internal/bytealg.IndexByteString", "internal/bytealg.IndexString"], unfollowed := true, recurses := true, named := ["internal/bytealg.MaxLen"], apart := false }
def FnExactParseMeshSaid : Prop := fnExactParseMeshRow.holds Try.pinned (OpenSpec.ofChange fnExactParseMeshSpec)

/-- ITS FALSE NEIGHBOUR: 'it returns false'. Refute it at one input. -/
def fnExactParseMeshWrong : ChangeSpec := { name := "fnExactParseMesh", fn := fun _ => fun
  | [d] => { results := [.lit (.bool false)], args := [d] }
  | _ => none }
def FnExactParseMeshWrongFalsely : Prop := fnExactParseMeshRow.holds Try.pinned (OpenSpec.ofChange fnExactParseMeshWrong)

/- THE SECOND FORM. 'bulk': how many values and letters a reading holds, each counted each time it is reached (what is shared counts as often as it is met; a slice's spare places count too). A statement '..UptoSaid' is the law's where the arguments, and the package variables that the reading takes, are together of bulk at most 1048576: NARROWER than '..Said'. Prove '..Said' where nothing that the law and all that it calls make is longer than what came in: it says more and counts as full. Else prove '..UptoSaid'. A law counts once. -/
mutual
def uptoBulk {H : Type} : DataW H → Nat
  | .lit (.string bytes) => bytes.length + 1
  | .lit _ => 1
  | .nil => 1
  | .ptr d => uptoBulk d + 1
  | .slice elems spare => uptoBulkAll elems + uptoBulkAll spare + 1
  | .agg parts => uptoBulkAll parts + 1
  | .iface _ d => uptoBulk d + 1
  | .map entries => uptoBulkEntries entries + 1
  | .held _ => 1
def uptoBulkAll {H : Type} : List (DataW H) → Nat
  | [] => 0
  | d :: r => uptoBulk d + uptoBulkAll r
def uptoBulkEntries {H : Type} : List (Lit × DataW H) → Nat
  | [] => 0
  | x :: r => uptoBulkEntry x + uptoBulkEntries r
def uptoBulkEntry {H : Type} : Lit × DataW H → Nat
  | (.string bytes, d) => bytes.length + uptoBulk d + 1
  | (_, d) => uptoBulk d + 1
 end
def uptoSmall : (H : Type) → List (DataW H) → Bool := fun _ ds => decide (uptoBulkAll ds ≤ 1048576)
def OpenSpec.upto (s : _root_.Go.ChangeSpec) : _root_.Go.OpenSpec := { _root_.Go.OpenSpec.ofChange s with cond := some uptoSmall }

/-- 'laws.FnCovered', WHERE WHAT IT READS IS OF BULK AT MOST 1048576: true; the input reads as it did. -/
def fnCoveredUptoRow : OpenClaim := { program := "ytjhfjceieaanhaa", sum := "56d9b9db7a155d7c9d12bf57405ee4e3113c84ef2df1612e4b7cfcbdfbd49a1c", func := "loop.example/g00982/laws.FnCovered", spec := "fnCovered", recurses := true, apart := false, narrowed := true }
def FnCoveredUptoSaid : Prop := fnCoveredUptoRow.holds Try.pinned (OpenSpec.upto fnCoveredSpec)

/-- 'laws.FnMeshTexts', WHERE WHAT IT READS IS OF BULK AT MOST 1048576: true; the input reads as it did. -/
def fnMeshTextsUptoRow : OpenClaim := { program := "ytjhfjceieaanhaa", sum := "56d9b9db7a155d7c9d12bf57405ee4e3113c84ef2df1612e4b7cfcbdfbd49a1c", func := "loop.example/g00982/laws.FnMeshTexts", spec := "fnMeshTexts", inPlace := ["internal/bytealg.CountString", "internal/bytealg.IndexByteString", "internal/bytealg.IndexString"], unfollowed := true, recurses := true, named := ["internal/bytealg.MaxLen"], apart := false, narrowed := true }
def FnMeshTextsUptoSaid : Prop := fnMeshTextsUptoRow.holds Try.pinned (OpenSpec.upto fnMeshTextsSpec)

/-- 'laws.FnExactMeshNew', WHERE WHAT IT READS IS OF BULK AT MOST 1048576: true; the input reads as it did. -/
def fnExactMeshNewUptoRow : OpenClaim := { program := "ytjhfjceieaanhaa", sum := "56d9b9db7a155d7c9d12bf57405ee4e3113c84ef2df1612e4b7cfcbdfbd49a1c", func := "loop.example/g00982/laws.FnExactMeshNew", spec := "fnExactMeshNew", unfollowed := true, recurses := true, apart := false, narrowed := true }
def FnExactMeshNewUptoSaid : Prop := fnExactMeshNewUptoRow.holds Try.pinned (OpenSpec.upto fnExactMeshNewSpec)

/-- 'laws.FnExactMeshOk', WHERE WHAT IT READS IS OF BULK AT MOST 1048576: true; the input reads as it did. -/
def fnExactMeshOkUptoRow : OpenClaim := { program := "ytjhfjceieaanhaa", sum := "56d9b9db7a155d7c9d12bf57405ee4e3113c84ef2df1612e4b7cfcbdfbd49a1c", func := "loop.example/g00982/laws.FnExactMeshOk", spec := "fnExactMeshOk", apart := false, narrowed := true }
def FnExactMeshOkUptoSaid : Prop := fnExactMeshOkUptoRow.holds Try.pinned (OpenSpec.upto fnExactMeshOkSpec)

/-- 'laws.FnExactLeafAt', WHERE WHAT IT READS IS OF BULK AT MOST 1048576: true; the input reads as it did. -/
def fnExactLeafAtUptoRow : OpenClaim := { program := "ytjhfjceieaanhaa", sum := "56d9b9db7a155d7c9d12bf57405ee4e3113c84ef2df1612e4b7cfcbdfbd49a1c", func := "loop.example/g00982/laws.FnExactLeafAt", spec := "fnExactLeafAt", apart := false, narrowed := true }
def FnExactLeafAtUptoSaid : Prop := fnExactLeafAtUptoRow.holds Try.pinned (OpenSpec.upto fnExactLeafAtSpec)

/-- 'laws.FnExactLeafOf', WHERE WHAT IT READS IS OF BULK AT MOST 1048576: true; the input reads as it did. -/
def fnExactLeafOfUptoRow : OpenClaim := { program := "ytjhfjceieaanhaa", sum := "56d9b9db7a155d7c9d12bf57405ee4e3113c84ef2df1612e4b7cfcbdfbd49a1c", func := "loop.example/g00982/laws.FnExactLeafOf", spec := "fnExactLeafOf", apart := false, narrowed := true }
def FnExactLeafOfUptoSaid : Prop := fnExactLeafOfUptoRow.holds Try.pinned (OpenSpec.upto fnExactLeafOfSpec)

/-- 'laws.FnExactDeepestLevel', WHERE WHAT IT READS IS OF BULK AT MOST 1048576: true; the input reads as it did. -/
def fnExactDeepestLevelUptoRow : OpenClaim := { program := "ytjhfjceieaanhaa", sum := "56d9b9db7a155d7c9d12bf57405ee4e3113c84ef2df1612e4b7cfcbdfbd49a1c", func := "loop.example/g00982/laws.FnExactDeepestLevel", spec := "fnExactDeepestLevel", apart := false, narrowed := true }
def FnExactDeepestLevelUptoSaid : Prop := fnExactDeepestLevelUptoRow.holds Try.pinned (OpenSpec.upto fnExactDeepestLevelSpec)

/-- 'laws.FnExactFormatMesh', WHERE WHAT IT READS IS OF BULK AT MOST 1048576: true; the input reads as it did. -/
def fnExactFormatMeshUptoRow : OpenClaim := { program := "ytjhfjceieaanhaa", sum := "56d9b9db7a155d7c9d12bf57405ee4e3113c84ef2df1612e4b7cfcbdfbd49a1c", func := "loop.example/g00982/laws.FnExactFormatMesh", spec := "fnExactFormatMesh", apart := false, narrowed := true }
def FnExactFormatMeshUptoSaid : Prop := fnExactFormatMeshUptoRow.holds Try.pinned (OpenSpec.upto fnExactFormatMeshSpec)

/-- 'laws.FnExactParseMesh', WHERE WHAT IT READS IS OF BULK AT MOST 1048576: true; the input reads as it did. -/
def fnExactParseMeshUptoRow : OpenClaim := { program := "ytjhfjceieaanhaa", sum := "56d9b9db7a155d7c9d12bf57405ee4e3113c84ef2df1612e4b7cfcbdfbd49a1c", func := "loop.example/g00982/laws.FnExactParseMesh", spec := "fnExactParseMesh", inPlace := ["internal/bytealg.CountString", "internal/bytealg.IndexByteString", "internal/bytealg.IndexString"], unfollowed := true, recurses := true, named := ["internal/bytealg.MaxLen"], apart := false, narrowed := true }
def FnExactParseMeshUptoSaid : Prop := fnExactParseMeshUptoRow.holds Try.pinned (OpenSpec.upto fnExactParseMeshSpec)

end Rows
end Go.Proofs.Ytjhfjceieaanhaa
