/-
  No cell of these rows narrows 'for every input' (looked for: loops, veiled, ifaces, maps, wideKeys, modest, calm, conditions, laid).
  DERIVED. THE GIVEN ROWS OF THIS SEAT. 7 by the template 'for every input the law returns true; each argument reads behind the call as it read before'; 0 by the template 'total and deterministic' (their statements: YtaccigmkddomaaaTotals.lean).
  GIVEN WITH THE SEED: the statements are not yours to turn. If you find one false, say at which input.
  Laid BY PROGRAM, IN A SANDBOX (cutbox-rows.mjs): the forced cells as the released guide's own fill.sh prints them over the translation 59479bc6c2de0544… (all of the seat's roots in one cut). By AI agents, Wed Nov 11 2026. No macro, syntax, notation, axiom, sorry.
-/
import Derived.Test.YtaccigmkddomaaaChecked
import GoSem.Claim
import GoSem.ClaimJoined
import GoSem.ClaimMapViews
import Derived.JoinedTies
import Derived.KernelRfl
namespace Go.Proofs.Ytaccigmkddomaaa
/- THE CELL 'sum', in the pinned program and in every row, IS THE sha256 OF THE DUMP (.gsa) THAT YtaccigmkddomaaaProg.lean LOADS. Nothing in Lean hashes anything: it is a label: what it is worth is what the hold of that sum in a sandbox is worth. -/
noncomputable def Try.pinned : Pinned := { name := "ytaccigmkddomaaa", sum := "59479bc6c2de0544c5b8542a9ed42b52e28d9c51e2bd442425bfc4965cf77c84", checked := Try.checked }
namespace Rows
def none {H : Type} : Left H := { results := [], args := [] }

/-- 'laws.FnWishes': WHATEVER THE INPUT: true; the input reads as it did. -/
def fnWishesSpec : ChangeSpec := { name := "fnWishes", fn := fun _ => fun
  | [d] => { results := [.lit (.bool true)], args := [d] }
  | _ => none }
def fnWishesRow : OpenClaim := { program := "ytaccigmkddomaaa", sum := "59479bc6c2de0544c5b8542a9ed42b52e28d9c51e2bd442425bfc4965cf77c84", func := "loop.example/g00982/laws.FnWishes", spec := "fnWishes", recurses := true, apart := false }
def FnWishesSaid : Prop := fnWishesRow.holds Try.pinned (OpenSpec.ofChange fnWishesSpec)

/-- ITS FALSE NEIGHBOUR: 'it returns false'. Refute it at one input. -/
def fnWishesWrong : ChangeSpec := { name := "fnWishes", fn := fun _ => fun
  | [d] => { results := [.lit (.bool false)], args := [d] }
  | _ => none }
def FnWishesWrongFalsely : Prop := fnWishesRow.holds Try.pinned (OpenSpec.ofChange fnWishesWrong)

/-- 'laws.FnCosts': WHATEVER THE INPUT: true; the input reads as it did. -/
def fnCostsSpec : ChangeSpec := { name := "fnCosts", fn := fun _ => fun
  | [d] => { results := [.lit (.bool true)], args := [d] }
  | _ => none }
def fnCostsRow : OpenClaim := { program := "ytaccigmkddomaaa", sum := "59479bc6c2de0544c5b8542a9ed42b52e28d9c51e2bd442425bfc4965cf77c84", func := "loop.example/g00982/laws.FnCosts", spec := "fnCosts", unfollowed := true, recurses := true, apart := false }
def FnCostsSaid : Prop := fnCostsRow.holds Try.pinned (OpenSpec.ofChange fnCostsSpec)

/-- ITS FALSE NEIGHBOUR: 'it returns false'. Refute it at one input. -/
def fnCostsWrong : ChangeSpec := { name := "fnCosts", fn := fun _ => fun
  | [d] => { results := [.lit (.bool false)], args := [d] }
  | _ => none }
def FnCostsWrongFalsely : Prop := fnCostsRow.holds Try.pinned (OpenSpec.ofChange fnCostsWrong)

/-- 'laws.FnExactJumpAt': WHATEVER THE INPUT: true; the input reads as it did. -/
def fnExactJumpAtSpec : ChangeSpec := { name := "fnExactJumpAt", fn := fun _ => fun
  | [d1, d2] => { results := [.lit (.bool true)], args := [d1, d2] }
  | _ => none }
def fnExactJumpAtRow : OpenClaim := { program := "ytaccigmkddomaaa", sum := "59479bc6c2de0544c5b8542a9ed42b52e28d9c51e2bd442425bfc4965cf77c84", func := "loop.example/g00982/laws.FnExactJumpAt", spec := "fnExactJumpAt", apart := false }
def FnExactJumpAtSaid : Prop := fnExactJumpAtRow.holds Try.pinned (OpenSpec.ofChange fnExactJumpAtSpec)

/-- ITS FALSE NEIGHBOUR: 'it returns false'. Refute it at one input. -/
def fnExactJumpAtWrong : ChangeSpec := { name := "fnExactJumpAt", fn := fun _ => fun
  | [d1, d2] => { results := [.lit (.bool false)], args := [d1, d2] }
  | _ => none }
def FnExactJumpAtWrongFalsely : Prop := fnExactJumpAtRow.holds Try.pinned (OpenSpec.ofChange fnExactJumpAtWrong)

/-- 'laws.FnExactWishes': WHATEVER THE INPUT: true; the input reads as it did. -/
def fnExactWishesSpec : ChangeSpec := { name := "fnExactWishes", fn := fun _ => fun
  | [d1, d2, d3] => { results := [.lit (.bool true)], args := [d1, d2, d3] }
  | _ => none }
def fnExactWishesRow : OpenClaim := { program := "ytaccigmkddomaaa", sum := "59479bc6c2de0544c5b8542a9ed42b52e28d9c51e2bd442425bfc4965cf77c84", func := "loop.example/g00982/laws.FnExactWishes", spec := "fnExactWishes", apart := false }
def FnExactWishesSaid : Prop := fnExactWishesRow.holds Try.pinned (OpenSpec.ofChange fnExactWishesSpec)

/-- ITS FALSE NEIGHBOUR: 'it returns false'. Refute it at one input. -/
def fnExactWishesWrong : ChangeSpec := { name := "fnExactWishes", fn := fun _ => fun
  | [d1, d2, d3] => { results := [.lit (.bool false)], args := [d1, d2, d3] }
  | _ => none }
def FnExactWishesWrongFalsely : Prop := fnExactWishesRow.holds Try.pinned (OpenSpec.ofChange fnExactWishesWrong)

/-- 'laws.FnExactCountWishes': WHATEVER THE INPUT: true; the input reads as it did. -/
def fnExactCountWishesSpec : ChangeSpec := { name := "fnExactCountWishes", fn := fun _ => fun
  | [d1, d2] => { results := [.lit (.bool true)], args := [d1, d2] }
  | _ => none }
def fnExactCountWishesRow : OpenClaim := { program := "ytaccigmkddomaaa", sum := "59479bc6c2de0544c5b8542a9ed42b52e28d9c51e2bd442425bfc4965cf77c84", func := "loop.example/g00982/laws.FnExactCountWishes", spec := "fnExactCountWishes", apart := false }
def FnExactCountWishesSaid : Prop := fnExactCountWishesRow.holds Try.pinned (OpenSpec.ofChange fnExactCountWishesSpec)

/-- ITS FALSE NEIGHBOUR: 'it returns false'. Refute it at one input. -/
def fnExactCountWishesWrong : ChangeSpec := { name := "fnExactCountWishes", fn := fun _ => fun
  | [d1, d2] => { results := [.lit (.bool false)], args := [d1, d2] }
  | _ => none }
def FnExactCountWishesWrongFalsely : Prop := fnExactCountWishesRow.holds Try.pinned (OpenSpec.ofChange fnExactCountWishesWrong)

/-- 'laws.FnExactCostOf': WHATEVER THE INPUT: true; the input reads as it did. -/
def fnExactCostOfSpec : ChangeSpec := { name := "fnExactCostOf", fn := fun _ => fun
  | [d] => { results := [.lit (.bool true)], args := [d] }
  | _ => none }
def fnExactCostOfRow : OpenClaim := { program := "ytaccigmkddomaaa", sum := "59479bc6c2de0544c5b8542a9ed42b52e28d9c51e2bd442425bfc4965cf77c84", func := "loop.example/g00982/laws.FnExactCostOf", spec := "fnExactCostOf", apart := false }
def FnExactCostOfSaid : Prop := fnExactCostOfRow.holds Try.pinned (OpenSpec.ofChange fnExactCostOfSpec)

/-- ITS FALSE NEIGHBOUR: 'it returns false'. Refute it at one input. -/
def fnExactCostOfWrong : ChangeSpec := { name := "fnExactCostOf", fn := fun _ => fun
  | [d] => { results := [.lit (.bool false)], args := [d] }
  | _ => none }
def FnExactCostOfWrongFalsely : Prop := fnExactCostOfRow.holds Try.pinned (OpenSpec.ofChange fnExactCostOfWrong)

/-- 'laws.FnExactSavedBy': WHATEVER THE INPUT: true; the input reads as it did. -/
def fnExactSavedBySpec : ChangeSpec := { name := "fnExactSavedBy", fn := fun _ => fun
  | [d] => { results := [.lit (.bool true)], args := [d] }
  | _ => none }
def fnExactSavedByRow : OpenClaim := { program := "ytaccigmkddomaaa", sum := "59479bc6c2de0544c5b8542a9ed42b52e28d9c51e2bd442425bfc4965cf77c84", func := "loop.example/g00982/laws.FnExactSavedBy", spec := "fnExactSavedBy", unfollowed := true, recurses := true, apart := false }
def FnExactSavedBySaid : Prop := fnExactSavedByRow.holds Try.pinned (OpenSpec.ofChange fnExactSavedBySpec)

/-- ITS FALSE NEIGHBOUR: 'it returns false'. Refute it at one input. -/
def fnExactSavedByWrong : ChangeSpec := { name := "fnExactSavedBy", fn := fun _ => fun
  | [d] => { results := [.lit (.bool false)], args := [d] }
  | _ => none }
def FnExactSavedByWrongFalsely : Prop := fnExactSavedByRow.holds Try.pinned (OpenSpec.ofChange fnExactSavedByWrong)

/- THE SECOND FORM. 'bulk': how many values and letters a reading holds, each counted each time it is reached (what is shared counts as often as it is met; a slice's spare places count too). A statement '..UptoSaid' is the law's where the arguments, and the package variables that the reading takes, are together of bulk at most 1048576: NARROWER than '..Said'. Prove '..Said' where nothing that the law and all that it calls make is longer than what came in: it says more and counts as full. Else prove '..UptoSaid'. A law counts once. -/
mutual
def uptoBulk {H : Type} : DataW H → Nat
  | .lit (.string bytes) => bytes.length + 1
  | .lit _ => 1
  | .nil => 1
  | .ptr d => uptoBulk d + 1
  | .slice elems spare => uptoBulkAll elems + uptoBulkAll spare + 1
  | .agg parts => uptoBulkAll parts + 1
  | .iface _ d => uptoBulk d + 1
  | .map entries => uptoBulkEntries entries + 1
  | .held _ => 1
def uptoBulkAll {H : Type} : List (DataW H) → Nat
  | [] => 0
  | d :: r => uptoBulk d + uptoBulkAll r
def uptoBulkEntries {H : Type} : List (Lit × DataW H) → Nat
  | [] => 0
  | x :: r => uptoBulkEntry x + uptoBulkEntries r
def uptoBulkEntry {H : Type} : Lit × DataW H → Nat
  | (.string bytes, d) => bytes.length + uptoBulk d + 1
  | (_, d) => uptoBulk d + 1
 end
def uptoSmall : (H : Type) → List (DataW H) → Bool := fun _ ds => decide (uptoBulkAll ds ≤ 1048576)
def OpenSpec.upto (s : _root_.Go.ChangeSpec) : _root_.Go.OpenSpec := { _root_.Go.OpenSpec.ofChange s with cond := some uptoSmall }

/-- 'laws.FnWishes', WHERE WHAT IT READS IS OF BULK AT MOST 1048576: true; the input reads as it did. -/
def fnWishesUptoRow : OpenClaim := { program := "ytaccigmkddomaaa", sum := "59479bc6c2de0544c5b8542a9ed42b52e28d9c51e2bd442425bfc4965cf77c84", func := "loop.example/g00982/laws.FnWishes", spec := "fnWishes", recurses := true, apart := false, narrowed := true }
def FnWishesUptoSaid : Prop := fnWishesUptoRow.holds Try.pinned (OpenSpec.upto fnWishesSpec)

/-- 'laws.FnCosts', WHERE WHAT IT READS IS OF BULK AT MOST 1048576: true; the input reads as it did. -/
def fnCostsUptoRow : OpenClaim := { program := "ytaccigmkddomaaa", sum := "59479bc6c2de0544c5b8542a9ed42b52e28d9c51e2bd442425bfc4965cf77c84", func := "loop.example/g00982/laws.FnCosts", spec := "fnCosts", unfollowed := true, recurses := true, apart := false, narrowed := true }
def FnCostsUptoSaid : Prop := fnCostsUptoRow.holds Try.pinned (OpenSpec.upto fnCostsSpec)

/-- 'laws.FnExactJumpAt', WHERE WHAT IT READS IS OF BULK AT MOST 1048576: true; the input reads as it did. -/
def fnExactJumpAtUptoRow : OpenClaim := { program := "ytaccigmkddomaaa", sum := "59479bc6c2de0544c5b8542a9ed42b52e28d9c51e2bd442425bfc4965cf77c84", func := "loop.example/g00982/laws.FnExactJumpAt", spec := "fnExactJumpAt", apart := false, narrowed := true }
def FnExactJumpAtUptoSaid : Prop := fnExactJumpAtUptoRow.holds Try.pinned (OpenSpec.upto fnExactJumpAtSpec)

/-- 'laws.FnExactWishes', WHERE WHAT IT READS IS OF BULK AT MOST 1048576: true; the input reads as it did. -/
def fnExactWishesUptoRow : OpenClaim := { program := "ytaccigmkddomaaa", sum := "59479bc6c2de0544c5b8542a9ed42b52e28d9c51e2bd442425bfc4965cf77c84", func := "loop.example/g00982/laws.FnExactWishes", spec := "fnExactWishes", apart := false, narrowed := true }
def FnExactWishesUptoSaid : Prop := fnExactWishesUptoRow.holds Try.pinned (OpenSpec.upto fnExactWishesSpec)

/-- 'laws.FnExactCountWishes', WHERE WHAT IT READS IS OF BULK AT MOST 1048576: true; the input reads as it did. -/
def fnExactCountWishesUptoRow : OpenClaim := { program := "ytaccigmkddomaaa", sum := "59479bc6c2de0544c5b8542a9ed42b52e28d9c51e2bd442425bfc4965cf77c84", func := "loop.example/g00982/laws.FnExactCountWishes", spec := "fnExactCountWishes", apart := false, narrowed := true }
def FnExactCountWishesUptoSaid : Prop := fnExactCountWishesUptoRow.holds Try.pinned (OpenSpec.upto fnExactCountWishesSpec)

/-- 'laws.FnExactCostOf', WHERE WHAT IT READS IS OF BULK AT MOST 1048576: true; the input reads as it did. -/
def fnExactCostOfUptoRow : OpenClaim := { program := "ytaccigmkddomaaa", sum := "59479bc6c2de0544c5b8542a9ed42b52e28d9c51e2bd442425bfc4965cf77c84", func := "loop.example/g00982/laws.FnExactCostOf", spec := "fnExactCostOf", apart := false, narrowed := true }
def FnExactCostOfUptoSaid : Prop := fnExactCostOfUptoRow.holds Try.pinned (OpenSpec.upto fnExactCostOfSpec)

/-- 'laws.FnExactSavedBy', WHERE WHAT IT READS IS OF BULK AT MOST 1048576: true; the input reads as it did. -/
def fnExactSavedByUptoRow : OpenClaim := { program := "ytaccigmkddomaaa", sum := "59479bc6c2de0544c5b8542a9ed42b52e28d9c51e2bd442425bfc4965cf77c84", func := "loop.example/g00982/laws.FnExactSavedBy", spec := "fnExactSavedBy", unfollowed := true, recurses := true, apart := false, narrowed := true }
def FnExactSavedByUptoSaid : Prop := fnExactSavedByUptoRow.holds Try.pinned (OpenSpec.upto fnExactSavedBySpec)

end Rows
end Go.Proofs.Ytaccigmkddomaaa
