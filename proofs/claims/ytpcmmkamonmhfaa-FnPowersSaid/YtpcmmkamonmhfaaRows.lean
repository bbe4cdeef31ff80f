/-
  No cell of these rows narrows 'for every input' (looked for: loops, veiled, ifaces, maps, wideKeys, modest, calm, conditions, laid).
  DERIVED. THE GIVEN ROWS OF THIS SEAT. 8 by the template 'for every input the law returns true; each argument reads behind the call as it read before'; 0 by the template 'total and deterministic' (their statements: YtpcmmkamonmhfaaTotals.lean).
  GIVEN WITH THE SEED: the statements are not yours to turn. If you find one false, say at which input.
  Laid BY PROGRAM, IN A SANDBOX (cutbox-rows.mjs): the forced cells as the released guide's own fill.sh prints them over the translation bde3e30d18de4e1a… (all of the seat's roots in one cut). By AI agents, Wed Nov 11 2026. No macro, syntax, notation, axiom, sorry.
-/
import Derived.Test.YtpcmmkamonmhfaaChecked
import GoSem.Claim
import GoSem.ClaimJoined
import GoSem.ClaimMapViews
import Derived.JoinedTies
import Derived.KernelRfl
namespace Go.Proofs.Ytpcmmkamonmhfaa
/- THE CELL 'sum', in the pinned program and in every row, IS THE sha256 OF THE DUMP (.gsa) THAT YtpcmmkamonmhfaaProg.lean LOADS. Nothing in Lean hashes anything: it is a label: what it is worth is what the hold of that sum in a sandbox is worth. -/
noncomputable def Try.pinned : Pinned := { name := "ytpcmmkamonmhfaa", sum := "bde3e30d18de4e1a095fa61ab358a70402025f158bf773a4217b97408913a280", checked := Try.checked }
namespace Rows
def none {H : Type} : Left H := { results := [], args := [] }

/-- 'laws.FnQuotients': WHATEVER THE INPUT: true; the input reads as it did. -/
def fnQuotientsSpec : ChangeSpec := { name := "fnQuotients", fn := fun _ => fun
  | [d] => { results := [.lit (.bool true)], args := [d] }
  | _ => none }
def fnQuotientsRow : OpenClaim := { program := "ytpcmmkamonmhfaa", sum := "bde3e30d18de4e1a095fa61ab358a70402025f158bf773a4217b97408913a280", func := "loop.example/g00982/laws.FnQuotients", spec := "fnQuotients", unfollowed := true, recurses := true, apart := false }
def FnQuotientsSaid : Prop := fnQuotientsRow.holds Try.pinned (OpenSpec.ofChange fnQuotientsSpec)

/-- ITS FALSE NEIGHBOUR: 'it returns false'. Refute it at one input. -/
def fnQuotientsWrong : ChangeSpec := { name := "fnQuotients", fn := fun _ => fun
  | [d] => { results := [.lit (.bool false)], args := [d] }
  | _ => none }
def FnQuotientsWrongFalsely : Prop := fnQuotientsRow.holds Try.pinned (OpenSpec.ofChange fnQuotientsWrong)

/-- 'laws.FnPowers': WHATEVER THE INPUT: true; the input reads as it did. -/
def fnPowersSpec : ChangeSpec := { name := "fnPowers", fn := fun _ => fun
  | [d] => { results := [.lit (.bool true)], args := [d] }
  | _ => none }
def fnPowersRow : OpenClaim := { program := "ytpcmmkamonmhfaa", sum := "bde3e30d18de4e1a095fa61ab358a70402025f158bf773a4217b97408913a280", func := "loop.example/g00982/laws.FnPowers", spec := "fnPowers", apart := false }
def FnPowersSaid : Prop := fnPowersRow.holds Try.pinned (OpenSpec.ofChange fnPowersSpec)

/-- ITS FALSE NEIGHBOUR: 'it returns false'. Refute it at one input. -/
def fnPowersWrong : ChangeSpec := { name := "fnPowers", fn := fun _ => fun
  | [d] => { results := [.lit (.bool false)], args := [d] }
  | _ => none }
def FnPowersWrongFalsely : Prop := fnPowersRow.holds Try.pinned (OpenSpec.ofChange fnPowersWrong)

/-- 'laws.FnExactDivFloor': WHATEVER THE INPUT: true; the input reads as it did. -/
def fnExactDivFloorSpec : ChangeSpec := { name := "fnExactDivFloor", fn := fun _ => fun
  | [d1, d2] => { results := [.lit (.bool true)], args := [d1, d2] }
  | _ => none }
def fnExactDivFloorRow : OpenClaim := { program := "ytpcmmkamonmhfaa", sum := "bde3e30d18de4e1a095fa61ab358a70402025f158bf773a4217b97408913a280", func := "loop.example/g00982/laws.FnExactDivFloor", spec := "fnExactDivFloor", unfollowed := true, recurses := true, apart := false }
def FnExactDivFloorSaid : Prop := fnExactDivFloorRow.holds Try.pinned (OpenSpec.ofChange fnExactDivFloorSpec)

/-- ITS FALSE NEIGHBOUR: 'it returns false'. Refute it at one input. -/
def fnExactDivFloorWrong : ChangeSpec := { name := "fnExactDivFloor", fn := fun _ => fun
  | [d1, d2] => { results := [.lit (.bool false)], args := [d1, d2] }
  | _ => none }
def FnExactDivFloorWrongFalsely : Prop := fnExactDivFloorRow.holds Try.pinned (OpenSpec.ofChange fnExactDivFloorWrong)

/-- 'laws.FnExactDivTrunc': WHATEVER THE INPUT: true; the input reads as it did. -/
def fnExactDivTruncSpec : ChangeSpec := { name := "fnExactDivTrunc", fn := fun _ => fun
  | [d1, d2] => { results := [.lit (.bool true)], args := [d1, d2] }
  | _ => none }
def fnExactDivTruncRow : OpenClaim := { program := "ytpcmmkamonmhfaa", sum := "bde3e30d18de4e1a095fa61ab358a70402025f158bf773a4217b97408913a280", func := "loop.example/g00982/laws.FnExactDivTrunc", spec := "fnExactDivTrunc", unfollowed := true, recurses := true, apart := false }
def FnExactDivTruncSaid : Prop := fnExactDivTruncRow.holds Try.pinned (OpenSpec.ofChange fnExactDivTruncSpec)

/-- ITS FALSE NEIGHBOUR: 'it returns false'. Refute it at one input. -/
def fnExactDivTruncWrong : ChangeSpec := { name := "fnExactDivTrunc", fn := fun _ => fun
  | [d1, d2] => { results := [.lit (.bool false)], args := [d1, d2] }
  | _ => none }
def FnExactDivTruncWrongFalsely : Prop := fnExactDivTruncRow.holds Try.pinned (OpenSpec.ofChange fnExactDivTruncWrong)

/-- 'laws.FnExactDivNear': WHATEVER THE INPUT: true; the input reads as it did. -/
def fnExactDivNearSpec : ChangeSpec := { name := "fnExactDivNear", fn := fun _ => fun
  | [d1, d2] => { results := [.lit (.bool true)], args := [d1, d2] }
  | _ => none }
def fnExactDivNearRow : OpenClaim := { program := "ytpcmmkamonmhfaa", sum := "bde3e30d18de4e1a095fa61ab358a70402025f158bf773a4217b97408913a280", func := "loop.example/g00982/laws.FnExactDivNear", spec := "fnExactDivNear", unfollowed := true, recurses := true, apart := false }
def FnExactDivNearSaid : Prop := fnExactDivNearRow.holds Try.pinned (OpenSpec.ofChange fnExactDivNearSpec)

/-- ITS FALSE NEIGHBOUR: 'it returns false'. Refute it at one input. -/
def fnExactDivNearWrong : ChangeSpec := { name := "fnExactDivNear", fn := fun _ => fun
  | [d1, d2] => { results := [.lit (.bool false)], args := [d1, d2] }
  | _ => none }
def FnExactDivNearWrongFalsely : Prop := fnExactDivNearRow.holds Try.pinned (OpenSpec.ofChange fnExactDivNearWrong)

/-- 'laws.FnExactSplitEven': WHATEVER THE INPUT: true; the input reads as it did. -/
def fnExactSplitEvenSpec : ChangeSpec := { name := "fnExactSplitEven", fn := fun _ => fun
  | [d] => { results := [.lit (.bool true)], args := [d] }
  | _ => none }
def fnExactSplitEvenRow : OpenClaim := { program := "ytpcmmkamonmhfaa", sum := "bde3e30d18de4e1a095fa61ab358a70402025f158bf773a4217b97408913a280", func := "loop.example/g00982/laws.FnExactSplitEven", spec := "fnExactSplitEven", apart := false }
def FnExactSplitEvenSaid : Prop := fnExactSplitEvenRow.holds Try.pinned (OpenSpec.ofChange fnExactSplitEvenSpec)

/-- ITS FALSE NEIGHBOUR: 'it returns false'. Refute it at one input. -/
def fnExactSplitEvenWrong : ChangeSpec := { name := "fnExactSplitEven", fn := fun _ => fun
  | [d] => { results := [.lit (.bool false)], args := [d] }
  | _ => none }
def FnExactSplitEvenWrongFalsely : Prop := fnExactSplitEvenRow.holds Try.pinned (OpenSpec.ofChange fnExactSplitEvenWrong)

/-- 'laws.FnExactIsPowerOfTwo': WHATEVER THE INPUT: true; the input reads as it did. -/
def fnExactIsPowerOfTwoSpec : ChangeSpec := { name := "fnExactIsPowerOfTwo", fn := fun _ => fun
  | [d] => { results := [.lit (.bool true)], args := [d] }
  | _ => none }
def fnExactIsPowerOfTwoRow : OpenClaim := { program := "ytpcmmkamonmhfaa", sum := "bde3e30d18de4e1a095fa61ab358a70402025f158bf773a4217b97408913a280", func := "loop.example/g00982/laws.FnExactIsPowerOfTwo", spec := "fnExactIsPowerOfTwo", apart := false }
def FnExactIsPowerOfTwoSaid : Prop := fnExactIsPowerOfTwoRow.holds Try.pinned (OpenSpec.ofChange fnExactIsPowerOfTwoSpec)

/-- ITS FALSE NEIGHBOUR: 'it returns false'. Refute it at one input. -/
def fnExactIsPowerOfTwoWrong : ChangeSpec := { name := "fnExactIsPowerOfTwo", fn := fun _ => fun
  | [d] => { results := [.lit (.bool false)], args := [d] }
  | _ => none }
def FnExactIsPowerOfTwoWrongFalsely : Prop := fnExactIsPowerOfTwoRow.holds Try.pinned (OpenSpec.ofChange fnExactIsPowerOfTwoWrong)

/-- 'laws.FnExactLogTwo': WHATEVER THE INPUT: true; the input reads as it did. -/
def fnExactLogTwoSpec : ChangeSpec := { name := "fnExactLogTwo", fn := fun _ => fun
  | [d] => { results := [.lit (.bool true)], args := [d] }
  | _ => none }
def fnExactLogTwoRow : OpenClaim := { program := "ytpcmmkamonmhfaa", sum := "bde3e30d18de4e1a095fa61ab358a70402025f158bf773a4217b97408913a280", func := "loop.example/g00982/laws.FnExactLogTwo", spec := "fnExactLogTwo", apart := false }
def FnExactLogTwoSaid : Prop := fnExactLogTwoRow.holds Try.pinned (OpenSpec.ofChange fnExactLogTwoSpec)

/-- ITS FALSE NEIGHBOUR: 'it returns false'. Refute it at one input. -/
def fnExactLogTwoWrong : ChangeSpec := { name := "fnExactLogTwo", fn := fun _ => fun
  | [d] => { results := [.lit (.bool false)], args := [d] }
  | _ => none }
def FnExactLogTwoWrongFalsely : Prop := fnExactLogTwoRow.holds Try.pinned (OpenSpec.ofChange fnExactLogTwoWrong)

/- THE SECOND FORM. 'bulk': how many values and letters a reading holds, each counted each time it is reached (what is shared counts as often as it is met; a slice's spare places count too). A statement '..UptoSaid' is the law's where the arguments, and the package variables that the reading takes, are together of bulk at most 1048576: NARROWER than '..Said'. Prove '..Said' where nothing that the law and all that it calls make is longer than what came in: it says more and counts as full. Else prove '..UptoSaid'. A law counts once. -/
mutual
def uptoBulk {H : Type} : DataW H → Nat
  | .lit (.string bytes) => bytes.length + 1
  | .lit _ => 1
  | .nil => 1
  | .ptr d => uptoBulk d + 1
  | .slice elems spare => uptoBulkAll elems + uptoBulkAll spare + 1
  | .agg parts => uptoBulkAll parts + 1
  | .iface _ d => uptoBulk d + 1
  | .map entries => uptoBulkEntries entries + 1
  | .held _ => 1
def uptoBulkAll {H : Type} : List (DataW H) → Nat
  | [] => 0
  | d :: r => uptoBulk d + uptoBulkAll r
def uptoBulkEntries {H : Type} : List (Lit × DataW H) → Nat
  | [] => 0
  | x :: r => uptoBulkEntry x + uptoBulkEntries r
def uptoBulkEntry {H : Type} : Lit × DataW H → Nat
  | (.string bytes, d) => bytes.length + uptoBulk d + 1
  | (_, d) => uptoBulk d + 1
 end
def uptoSmall : (H : Type) → List (DataW H) → Bool := fun _ ds => decide (uptoBulkAll ds ≤ 1048576)
def OpenSpec.upto (s : _root_.Go.ChangeSpec) : _root_.Go.OpenSpec := { _root_.Go.OpenSpec.ofChange s with cond := some uptoSmall }

/-- 'laws.FnQuotients', WHERE WHAT IT READS IS OF BULK AT MOST 1048576: true; the input reads as it did. -/
def fnQuotientsUptoRow : OpenClaim := { program := "ytpcmmkamonmhfaa", sum := "bde3e30d18de4e1a095fa61ab358a70402025f158bf773a4217b97408913a280", func := "loop.example/g00982/laws.FnQuotients", spec := "fnQuotients", unfollowed := true, recurses := true, apart := false, narrowed := true }
def FnQuotientsUptoSaid : Prop := fnQuotientsUptoRow.holds Try.pinned (OpenSpec.upto fnQuotientsSpec)

/-- 'laws.FnPowers', WHERE WHAT IT READS IS OF BULK AT MOST 1048576: true; the input reads as it did. -/
def fnPowersUptoRow : OpenClaim := { program := "ytpcmmkamonmhfaa", sum := "bde3e30d18de4e1a095fa61ab358a70402025f158bf773a4217b97408913a280", func := "loop.example/g00982/laws.FnPowers", spec := "fnPowers", apart := false, narrowed := true }
def FnPowersUptoSaid : Prop := fnPowersUptoRow.holds Try.pinned (OpenSpec.upto fnPowersSpec)

/-- 'laws.FnExactDivFloor', WHERE WHAT IT READS IS OF BULK AT MOST 1048576: true; the input reads as it did. -/
def fnExactDivFloorUptoRow : OpenClaim := { program := "ytpcmmkamonmhfaa", sum := "bde3e30d18de4e1a095fa61ab358a70402025f158bf773a4217b97408913a280", func := "loop.example/g00982/laws.FnExactDivFloor", spec := "fnExactDivFloor", unfollowed := true, recurses := true, apart := false, narrowed := true }
def FnExactDivFloorUptoSaid : Prop := fnExactDivFloorUptoRow.holds Try.pinned (OpenSpec.upto fnExactDivFloorSpec)

/-- 'laws.FnExactDivTrunc', WHERE WHAT IT READS IS OF BULK AT MOST 1048576: true; the input reads as it did. -/
def fnExactDivTruncUptoRow : OpenClaim := { program := "ytpcmmkamonmhfaa", sum := "bde3e30d18de4e1a095fa61ab358a70402025f158bf773a4217b97408913a280", func := "loop.example/g00982/laws.FnExactDivTrunc", spec := "fnExactDivTrunc", unfollowed := true, recurses := true, apart := false, narrowed := true }
def FnExactDivTruncUptoSaid : Prop := fnExactDivTruncUptoRow.holds Try.pinned (OpenSpec.upto fnExactDivTruncSpec)

/-- 'laws.FnExactDivNear', WHERE WHAT IT READS IS OF BULK AT MOST 1048576: true; the input reads as it did. -/
def fnExactDivNearUptoRow : OpenClaim := { program := "ytpcmmkamonmhfaa", sum := "bde3e30d18de4e1a095fa61ab358a70402025f158bf773a4217b97408913a280", func := "loop.example/g00982/laws.FnExactDivNear", spec := "fnExactDivNear", unfollowed := true, recurses := true, apart := false, narrowed := true }
def FnExactDivNearUptoSaid : Prop := fnExactDivNearUptoRow.holds Try.pinned (OpenSpec.upto fnExactDivNearSpec)

/-- 'laws.FnExactSplitEven', WHERE WHAT IT READS IS OF BULK AT MOST 1048576: true; the input reads as it did. -/
def fnExactSplitEvenUptoRow : OpenClaim := { program := "ytpcmmkamonmhfaa", sum := "bde3e30d18de4e1a095fa61ab358a70402025f158bf773a4217b97408913a280", func := "loop.example/g00982/laws.FnExactSplitEven", spec := "fnExactSplitEven", apart := false, narrowed := true }
def FnExactSplitEvenUptoSaid : Prop := fnExactSplitEvenUptoRow.holds Try.pinned (OpenSpec.upto fnExactSplitEvenSpec)

/-- 'laws.FnExactIsPowerOfTwo', WHERE WHAT IT READS IS OF BULK AT MOST 1048576: true; the input reads as it did. -/
def fnExactIsPowerOfTwoUptoRow : OpenClaim := { program := "ytpcmmkamonmhfaa", sum := "bde3e30d18de4e1a095fa61ab358a70402025f158bf773a4217b97408913a280", func := "loop.example/g00982/laws.FnExactIsPowerOfTwo", spec := "fnExactIsPowerOfTwo", apart := false, narrowed := true }
def FnExactIsPowerOfTwoUptoSaid : Prop := fnExactIsPowerOfTwoUptoRow.holds Try.pinned (OpenSpec.upto fnExactIsPowerOfTwoSpec)

/-- 'laws.FnExactLogTwo', WHERE WHAT IT READS IS OF BULK AT MOST 1048576: true; the input reads as it did. -/
def fnExactLogTwoUptoRow : OpenClaim := { program := "ytpcmmkamonmhfaa", sum := "bde3e30d18de4e1a095fa61ab358a70402025f158bf773a4217b97408913a280", func := "loop.example/g00982/laws.FnExactLogTwo", spec := "fnExactLogTwo", apart := false, narrowed := true }
def FnExactLogTwoUptoSaid : Prop := fnExactLogTwoUptoRow.holds Try.pinned (OpenSpec.upto fnExactLogTwoSpec)

end Rows
end Go.Proofs.Ytpcmmkamonmhfaa
