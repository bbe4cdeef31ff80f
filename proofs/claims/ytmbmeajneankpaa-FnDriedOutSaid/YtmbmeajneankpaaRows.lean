/-
  No cell of these rows narrows 'for every input' (looked for: loops, veiled, ifaces, maps, wideKeys, modest, calm, conditions, laid).
  DERIVED. THE GIVEN ROWS OF THIS SEAT. 5 by the template 'for every input the law returns true; each argument reads behind the call as it read before'; 0 by the template 'total and deterministic' (their statements: YtmbmeajneankpaaTotals.lean).
  GIVEN WITH THE SEED: the statements are not yours to turn. If you find one false, say at which input.
  Laid BY PROGRAM, IN A SANDBOX (cutbox-rows.mjs): the forced cells as the released guide's own fill.sh prints them over the translation 56c0b03f440c49ba… (all of the seat's roots in one cut). By AI agents, Wed Nov 11 2026. No macro, syntax, notation, axiom, sorry.
-/
import Derived.Test.YtmbmeajneankpaaChecked
import GoSem.Claim
import GoSem.ClaimJoined
import GoSem.ClaimMapViews
import Derived.JoinedTies
import Derived.KernelRfl
namespace Go.Proofs.Ytmbmeajneankpaa
/- THE CELL 'sum', in the pinned program and in every row, IS THE sha256 OF THE DUMP (.gsa) THAT YtmbmeajneankpaaProg.lean LOADS. Nothing in Lean hashes anything: it is a label: what it is worth is what the hold of that sum in a sandbox is worth. -/
noncomputable def Try.pinned : Pinned := { name := "ytmbmeajneankpaa", sum := "56c0b03f440c49ba62b9ebc3210f76203625154ac16c4884b45c4bf9d26f3e83", checked := Try.checked }
namespace Rows
def none {H : Type} : Left H := { results := [], args := [] }

/-- 'laws.FnRains': WHATEVER THE INPUT: true; the input reads as it did. -/
def fnRainsSpec : ChangeSpec := { name := "fnRains", fn := fun _ => fun
  | [d] => { results := [.lit (.bool true)], args := [d] }
  | _ => none }
def fnRainsRow : OpenClaim := { program := "ytmbmeajneankpaa", sum := "56c0b03f440c49ba62b9ebc3210f76203625154ac16c4884b45c4bf9d26f3e83", func := "loop.example/g00982/laws.FnRains", spec := "fnRains", unfollowed := true, recurses := true, apart := false }
def FnRainsSaid : Prop := fnRainsRow.holds Try.pinned (OpenSpec.ofChange fnRainsSpec)

/-- ITS FALSE NEIGHBOUR: 'it returns false'. Refute it at one input. -/
def fnRainsWrong : ChangeSpec := { name := "fnRains", fn := fun _ => fun
  | [d] => { results := [.lit (.bool false)], args := [d] }
  | _ => none }
def FnRainsWrongFalsely : Prop := fnRainsRow.holds Try.pinned (OpenSpec.ofChange fnRainsWrong)

/-- 'laws.FnDriedOut': WHATEVER THE INPUT: true; the input reads as it did. -/
def fnDriedOutSpec : ChangeSpec := { name := "fnDriedOut", fn := fun _ => fun
  | [d] => { results := [.lit (.bool true)], args := [d] }
  | _ => none }
def fnDriedOutRow : OpenClaim := { program := "ytmbmeajneankpaa", sum := "56c0b03f440c49ba62b9ebc3210f76203625154ac16c4884b45c4bf9d26f3e83", func := "loop.example/g00982/laws.FnDriedOut", spec := "fnDriedOut", unfollowed := true, recurses := true, apart := false }
def FnDriedOutSaid : Prop := fnDriedOutRow.holds Try.pinned (OpenSpec.ofChange fnDriedOutSpec)

/-- ITS FALSE NEIGHBOUR: 'it returns false'. Refute it at one input. -/
def fnDriedOutWrong : ChangeSpec := { name := "fnDriedOut", fn := fun _ => fun
  | [d] => { results := [.lit (.bool false)], args := [d] }
  | _ => none }
def FnDriedOutWrongFalsely : Prop := fnDriedOutRow.holds Try.pinned (OpenSpec.ofChange fnDriedOutWrong)

/-- 'laws.FnExactRainOn': WHATEVER THE INPUT: true; the input reads as it did. -/
def fnExactRainOnSpec : ChangeSpec := { name := "fnExactRainOn", fn := fun _ => fun
  | [d1, d2] => { results := [.lit (.bool true)], args := [d1, d2] }
  | _ => none }
def fnExactRainOnRow : OpenClaim := { program := "ytmbmeajneankpaa", sum := "56c0b03f440c49ba62b9ebc3210f76203625154ac16c4884b45c4bf9d26f3e83", func := "loop.example/g00982/laws.FnExactRainOn", spec := "fnExactRainOn", unfollowed := true, recurses := true, apart := false }
def FnExactRainOnSaid : Prop := fnExactRainOnRow.holds Try.pinned (OpenSpec.ofChange fnExactRainOnSpec)

/-- ITS FALSE NEIGHBOUR: 'it returns false'. Refute it at one input. -/
def fnExactRainOnWrong : ChangeSpec := { name := "fnExactRainOn", fn := fun _ => fun
  | [d1, d2] => { results := [.lit (.bool false)], args := [d1, d2] }
  | _ => none }
def FnExactRainOnWrongFalsely : Prop := fnExactRainOnRow.holds Try.pinned (OpenSpec.ofChange fnExactRainOnWrong)

/-- 'laws.FnExactSoak': WHATEVER THE INPUT: true; the input reads as it did. -/
def fnExactSoakSpec : ChangeSpec := { name := "fnExactSoak", fn := fun _ => fun
  | [d1, d2] => { results := [.lit (.bool true)], args := [d1, d2] }
  | _ => none }
def fnExactSoakRow : OpenClaim := { program := "ytmbmeajneankpaa", sum := "56c0b03f440c49ba62b9ebc3210f76203625154ac16c4884b45c4bf9d26f3e83", func := "loop.example/g00982/laws.FnExactSoak", spec := "fnExactSoak", unfollowed := true, recurses := true, apart := false }
def FnExactSoakSaid : Prop := fnExactSoakRow.holds Try.pinned (OpenSpec.ofChange fnExactSoakSpec)

/-- ITS FALSE NEIGHBOUR: 'it returns false'. Refute it at one input. -/
def fnExactSoakWrong : ChangeSpec := { name := "fnExactSoak", fn := fun _ => fun
  | [d1, d2] => { results := [.lit (.bool false)], args := [d1, d2] }
  | _ => none }
def FnExactSoakWrongFalsely : Prop := fnExactSoakRow.holds Try.pinned (OpenSpec.ofChange fnExactSoakWrong)

/-- 'laws.FnExactDryOut': WHATEVER THE INPUT: true; the input reads as it did. -/
def fnExactDryOutSpec : ChangeSpec := { name := "fnExactDryOut", fn := fun _ => fun
  | [d1, d2] => { results := [.lit (.bool true)], args := [d1, d2] }
  | _ => none }
def fnExactDryOutRow : OpenClaim := { program := "ytmbmeajneankpaa", sum := "56c0b03f440c49ba62b9ebc3210f76203625154ac16c4884b45c4bf9d26f3e83", func := "loop.example/g00982/laws.FnExactDryOut", spec := "fnExactDryOut", unfollowed := true, recurses := true, apart := false }
def FnExactDryOutSaid : Prop := fnExactDryOutRow.holds Try.pinned (OpenSpec.ofChange fnExactDryOutSpec)

/-- ITS FALSE NEIGHBOUR: 'it returns false'. Refute it at one input. -/
def fnExactDryOutWrong : ChangeSpec := { name := "fnExactDryOut", fn := fun _ => fun
  | [d1, d2] => { results := [.lit (.bool false)], args := [d1, d2] }
  | _ => none }
def FnExactDryOutWrongFalsely : Prop := fnExactDryOutRow.holds Try.pinned (OpenSpec.ofChange fnExactDryOutWrong)

/- THE SECOND FORM. 'bulk': how many values and letters a reading holds, each counted each time it is reached (what is shared counts as often as it is met; a slice's spare places count too). A statement '..UptoSaid' is the law's where the arguments, and the package variables that the reading takes, are together of bulk at most 1048576: NARROWER than '..Said'. Prove '..Said' where nothing that the law and all that it calls make is longer than what came in: it says more and counts as full. Else prove '..UptoSaid'. A law counts once. -/
mutual
def uptoBulk {H : Type} : DataW H → Nat
  | .lit (.string bytes) => bytes.length + 1
  | .lit _ => 1
  | .nil => 1
  | .ptr d => uptoBulk d + 1
  | .slice elems spare => uptoBulkAll elems + uptoBulkAll spare + 1
  | .agg parts => uptoBulkAll parts + 1
  | .iface _ d => uptoBulk d + 1
  | .map entries => uptoBulkEntries entries + 1
  | .held _ => 1
def uptoBulkAll {H : Type} : List (DataW H) → Nat
  | [] => 0
  | d :: r => uptoBulk d + uptoBulkAll r
def uptoBulkEntries {H : Type} : List (Lit × DataW H) → Nat
  | [] => 0
  | x :: r => uptoBulkEntry x + uptoBulkEntries r
def uptoBulkEntry {H : Type} : Lit × DataW H → Nat
  | (.string bytes, d) => bytes.length + uptoBulk d + 1
  | (_, d) => uptoBulk d + 1
 end
def uptoSmall : (H : Type) → List (DataW H) → Bool := fun _ ds => decide (uptoBulkAll ds ≤ 1048576)
def OpenSpec.upto (s : _root_.Go.ChangeSpec) : _root_.Go.OpenSpec := { _root_.Go.OpenSpec.ofChange s with cond := some uptoSmall }

/-- 'laws.FnRains', WHERE WHAT IT READS IS OF BULK AT MOST 1048576: true; the input reads as it did. -/
def fnRainsUptoRow : OpenClaim := { program := "ytmbmeajneankpaa", sum := "56c0b03f440c49ba62b9ebc3210f76203625154ac16c4884b45c4bf9d26f3e83", func := "loop.example/g00982/laws.FnRains", spec := "fnRains", unfollowed := true, recurses := true, apart := false, narrowed := true }
def FnRainsUptoSaid : Prop := fnRainsUptoRow.holds Try.pinned (OpenSpec.upto fnRainsSpec)

/-- 'laws.FnDriedOut', WHERE WHAT IT READS IS OF BULK AT MOST 1048576: true; the input reads as it did. -/
def fnDriedOutUptoRow : OpenClaim := { program := "ytmbmeajneankpaa", sum := "56c0b03f440c49ba62b9ebc3210f76203625154ac16c4884b45c4bf9d26f3e83", func := "loop.example/g00982/laws.FnDriedOut", spec := "fnDriedOut", unfollowed := true, recurses := true, apart := false, narrowed := true }
def FnDriedOutUptoSaid : Prop := fnDriedOutUptoRow.holds Try.pinned (OpenSpec.upto fnDriedOutSpec)

/-- 'laws.FnExactRainOn', WHERE WHAT IT READS IS OF BULK AT MOST 1048576: true; the input reads as it did. -/
def fnExactRainOnUptoRow : OpenClaim := { program := "ytmbmeajneankpaa", sum := "56c0b03f440c49ba62b9ebc3210f76203625154ac16c4884b45c4bf9d26f3e83", func := "loop.example/g00982/laws.FnExactRainOn", spec := "fnExactRainOn", unfollowed := true, recurses := true, apart := false, narrowed := true }
def FnExactRainOnUptoSaid : Prop := fnExactRainOnUptoRow.holds Try.pinned (OpenSpec.upto fnExactRainOnSpec)

/-- 'laws.FnExactSoak', WHERE WHAT IT READS IS OF BULK AT MOST 1048576: true; the input reads as it did. -/
def fnExactSoakUptoRow : OpenClaim := { program := "ytmbmeajneankpaa", sum := "56c0b03f440c49ba62b9ebc3210f76203625154ac16c4884b45c4bf9d26f3e83", func := "loop.example/g00982/laws.FnExactSoak", spec := "fnExactSoak", unfollowed := true, recurses := true, apart := false, narrowed := true }
def FnExactSoakUptoSaid : Prop := fnExactSoakUptoRow.holds Try.pinned (OpenSpec.upto fnExactSoakSpec)

/-- 'laws.FnExactDryOut', WHERE WHAT IT READS IS OF BULK AT MOST 1048576: true; the input reads as it did. -/
def fnExactDryOutUptoRow : OpenClaim := { program := "ytmbmeajneankpaa", sum := "56c0b03f440c49ba62b9ebc3210f76203625154ac16c4884b45c4bf9d26f3e83", func := "loop.example/g00982/laws.FnExactDryOut", spec := "fnExactDryOut", unfollowed := true, recurses := true, apart := false, narrowed := true }
def FnExactDryOutUptoSaid : Prop := fnExactDryOutUptoRow.holds Try.pinned (OpenSpec.upto fnExactDryOutSpec)

end Rows
end Go.Proofs.Ytmbmeajneankpaa
