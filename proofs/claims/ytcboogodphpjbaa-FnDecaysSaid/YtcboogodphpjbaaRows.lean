/-
  No cell of these rows narrows 'for every input' (looked for: loops, veiled, ifaces, maps, wideKeys, modest, calm, conditions, laid).
  DERIVED. THE GIVEN ROWS OF THIS SEAT. 4 by the template 'for every input the law returns true; each argument reads behind the call as it read before'; 0 by the template 'total and deterministic' (their statements: YtcboogodphpjbaaTotals.lean).
  GIVEN WITH THE SEED: the statements are not yours to turn. If you find one false, say at which input.
  Laid BY PROGRAM, IN A SANDBOX (cutbox-rows.mjs): the forced cells as the released guide's own fill.sh prints them over the translation 3a2d76af4d263adc… (all of the seat's roots in one cut). By AI agents, Wed Nov 11 2026. No macro, syntax, notation, axiom, sorry.
-/
import Derived.Test.YtcboogodphpjbaaChecked
import GoSem.Claim
import GoSem.ClaimJoined
import GoSem.ClaimMapViews
import Derived.JoinedTies
import Derived.KernelRfl
namespace Go.Proofs.Ytcboogodphpjbaa
/- THE CELL 'sum', in the pinned program and in every row, IS THE sha256 OF THE DUMP (.gsa) THAT YtcboogodphpjbaaProg.lean LOADS. Nothing in Lean hashes anything: it is a label: what it is worth is what the hold of that sum in a sandbox is worth. -/
noncomputable def Try.pinned : Pinned := { name := "ytcboogodphpjbaa", sum := "3a2d76af4d263adcd2605b3ba3ad893ae9fdafc587b06c7038f421a42537fb7a", checked := Try.checked }
namespace Rows
def none {H : Type} : Left H := { results := [], args := [] }

/-- 'laws.FnDecays': WHATEVER THE INPUT: true; the input reads as it did. -/
def fnDecaysSpec : ChangeSpec := { name := "fnDecays", fn := fun _ => fun
  | [d] => { results := [.lit (.bool true)], args := [d] }
  | _ => none }
def fnDecaysRow : OpenClaim := { program := "ytcboogodphpjbaa", sum := "3a2d76af4d263adcd2605b3ba3ad893ae9fdafc587b06c7038f421a42537fb7a", func := "loop.example/g00982/laws.FnDecays", spec := "fnDecays", unfollowed := true, recurses := true, apart := false }
def FnDecaysSaid : Prop := fnDecaysRow.holds Try.pinned (OpenSpec.ofChange fnDecaysSpec)

/-- ITS FALSE NEIGHBOUR: 'it returns false'. Refute it at one input. -/
def fnDecaysWrong : ChangeSpec := { name := "fnDecays", fn := fun _ => fun
  | [d] => { results := [.lit (.bool false)], args := [d] }
  | _ => none }
def FnDecaysWrongFalsely : Prop := fnDecaysRow.holds Try.pinned (OpenSpec.ofChange fnDecaysWrong)

/-- 'laws.FnExactDecayAll': WHATEVER THE INPUT: true; the input reads as it did. -/
def fnExactDecayAllSpec : ChangeSpec := { name := "fnExactDecayAll", fn := fun _ => fun
  | [d1, d2] => { results := [.lit (.bool true)], args := [d1, d2] }
  | _ => none }
def fnExactDecayAllRow : OpenClaim := { program := "ytcboogodphpjbaa", sum := "3a2d76af4d263adcd2605b3ba3ad893ae9fdafc587b06c7038f421a42537fb7a", func := "loop.example/g00982/laws.FnExactDecayAll", spec := "fnExactDecayAll", unfollowed := true, recurses := true, apart := false }
def FnExactDecayAllSaid : Prop := fnExactDecayAllRow.holds Try.pinned (OpenSpec.ofChange fnExactDecayAllSpec)

/-- ITS FALSE NEIGHBOUR: 'it returns false'. Refute it at one input. -/
def fnExactDecayAllWrong : ChangeSpec := { name := "fnExactDecayAll", fn := fun _ => fun
  | [d1, d2] => { results := [.lit (.bool false)], args := [d1, d2] }
  | _ => none }
def FnExactDecayAllWrongFalsely : Prop := fnExactDecayAllRow.holds Try.pinned (OpenSpec.ofChange fnExactDecayAllWrong)

/-- 'laws.FnExactDecayTicks': WHATEVER THE INPUT: true; the input reads as it did. -/
def fnExactDecayTicksSpec : ChangeSpec := { name := "fnExactDecayTicks", fn := fun _ => fun
  | [d1, d2, d3] => { results := [.lit (.bool true)], args := [d1, d2, d3] }
  | _ => none }
def fnExactDecayTicksRow : OpenClaim := { program := "ytcboogodphpjbaa", sum := "3a2d76af4d263adcd2605b3ba3ad893ae9fdafc587b06c7038f421a42537fb7a", func := "loop.example/g00982/laws.FnExactDecayTicks", spec := "fnExactDecayTicks", unfollowed := true, recurses := true, apart := false }
def FnExactDecayTicksSaid : Prop := fnExactDecayTicksRow.holds Try.pinned (OpenSpec.ofChange fnExactDecayTicksSpec)

/-- ITS FALSE NEIGHBOUR: 'it returns false'. Refute it at one input. -/
def fnExactDecayTicksWrong : ChangeSpec := { name := "fnExactDecayTicks", fn := fun _ => fun
  | [d1, d2, d3] => { results := [.lit (.bool false)], args := [d1, d2, d3] }
  | _ => none }
def FnExactDecayTicksWrongFalsely : Prop := fnExactDecayTicksRow.holds Try.pinned (OpenSpec.ofChange fnExactDecayTicksWrong)

/-- 'laws.FnExactStableAmount': WHATEVER THE INPUT: true; the input reads as it did. -/
def fnExactStableAmountSpec : ChangeSpec := { name := "fnExactStableAmount", fn := fun _ => fun
  | [d] => { results := [.lit (.bool true)], args := [d] }
  | _ => none }
def fnExactStableAmountRow : OpenClaim := { program := "ytcboogodphpjbaa", sum := "3a2d76af4d263adcd2605b3ba3ad893ae9fdafc587b06c7038f421a42537fb7a", func := "loop.example/g00982/laws.FnExactStableAmount", spec := "fnExactStableAmount", unfollowed := true, recurses := true, apart := false }
def FnExactStableAmountSaid : Prop := fnExactStableAmountRow.holds Try.pinned (OpenSpec.ofChange fnExactStableAmountSpec)

/-- ITS FALSE NEIGHBOUR: 'it returns false'. Refute it at one input. -/
def fnExactStableAmountWrong : ChangeSpec := { name := "fnExactStableAmount", fn := fun _ => fun
  | [d] => { results := [.lit (.bool false)], args := [d] }
  | _ => none }
def FnExactStableAmountWrongFalsely : Prop := fnExactStableAmountRow.holds Try.pinned (OpenSpec.ofChange fnExactStableAmountWrong)

/- THE SECOND FORM. 'bulk': how many values and letters a reading holds, each counted each time it is reached (what is shared counts as often as it is met; a slice's spare places count too). A statement '..UptoSaid' is the law's where the arguments, and the package variables that the reading takes, are together of bulk at most 1048576: NARROWER than '..Said'. Prove '..Said' where nothing that the law and all that it calls make is longer than what came in: it says more and counts as full. Else prove '..UptoSaid'. A law counts once. -/
mutual
def uptoBulk {H : Type} : DataW H → Nat
  | .lit (.string bytes) => bytes.length + 1
  | .lit _ => 1
  | .nil => 1
  | .ptr d => uptoBulk d + 1
  | .slice elems spare => uptoBulkAll elems + uptoBulkAll spare + 1
  | .agg parts => uptoBulkAll parts + 1
  | .iface _ d => uptoBulk d + 1
  | .map entries => uptoBulkEntries entries + 1
  | .held _ => 1
def uptoBulkAll {H : Type} : List (DataW H) → Nat
  | [] => 0
  | d :: r => uptoBulk d + uptoBulkAll r
def uptoBulkEntries {H : Type} : List (Lit × DataW H) → Nat
  | [] => 0
  | x :: r => uptoBulkEntry x + uptoBulkEntries r
def uptoBulkEntry {H : Type} : Lit × DataW H → Nat
  | (.string bytes, d) => bytes.length + uptoBulk d + 1
  | (_, d) => uptoBulk d + 1
 end
def uptoSmall : (H : Type) → List (DataW H) → Bool := fun _ ds => decide (uptoBulkAll ds ≤ 1048576)
def OpenSpec.upto (s : _root_.Go.ChangeSpec) : _root_.Go.OpenSpec := { _root_.Go.OpenSpec.ofChange s with cond := some uptoSmall }

/-- 'laws.FnDecays', WHERE WHAT IT READS IS OF BULK AT MOST 1048576: true; the input reads as it did. -/
def fnDecaysUptoRow : OpenClaim := { program := "ytcboogodphpjbaa", sum := "3a2d76af4d263adcd2605b3ba3ad893ae9fdafc587b06c7038f421a42537fb7a", func := "loop.example/g00982/laws.FnDecays", spec := "fnDecays", unfollowed := true, recurses := true, apart := false, narrowed := true }
def FnDecaysUptoSaid : Prop := fnDecaysUptoRow.holds Try.pinned (OpenSpec.upto fnDecaysSpec)

/-- 'laws.FnExactDecayAll', WHERE WHAT IT READS IS OF BULK AT MOST 1048576: true; the input reads as it did. -/
def fnExactDecayAllUptoRow : OpenClaim := { program := "ytcboogodphpjbaa", sum := "3a2d76af4d263adcd2605b3ba3ad893ae9fdafc587b06c7038f421a42537fb7a", func := "loop.example/g00982/laws.FnExactDecayAll", spec := "fnExactDecayAll", unfollowed := true, recurses := true, apart := false, narrowed := true }
def FnExactDecayAllUptoSaid : Prop := fnExactDecayAllUptoRow.holds Try.pinned (OpenSpec.upto fnExactDecayAllSpec)

/-- 'laws.FnExactDecayTicks', WHERE WHAT IT READS IS OF BULK AT MOST 1048576: true; the input reads as it did. -/
def fnExactDecayTicksUptoRow : OpenClaim := { program := "ytcboogodphpjbaa", sum := "3a2d76af4d263adcd2605b3ba3ad893ae9fdafc587b06c7038f421a42537fb7a", func := "loop.example/g00982/laws.FnExactDecayTicks", spec := "fnExactDecayTicks", unfollowed := true, recurses := true, apart := false, narrowed := true }
def FnExactDecayTicksUptoSaid : Prop := fnExactDecayTicksUptoRow.holds Try.pinned (OpenSpec.upto fnExactDecayTicksSpec)

/-- 'laws.FnExactStableAmount', WHERE WHAT IT READS IS OF BULK AT MOST 1048576: true; the input reads as it did. -/
def fnExactStableAmountUptoRow : OpenClaim := { program := "ytcboogodphpjbaa", sum := "3a2d76af4d263adcd2605b3ba3ad893ae9fdafc587b06c7038f421a42537fb7a", func := "loop.example/g00982/laws.FnExactStableAmount", spec := "fnExactStableAmount", unfollowed := true, recurses := true, apart := false, narrowed := true }
def FnExactStableAmountUptoSaid : Prop := fnExactStableAmountUptoRow.holds Try.pinned (OpenSpec.upto fnExactStableAmountSpec)

end Rows
end Go.Proofs.Ytcboogodphpjbaa
