/-
  No cell of these rows narrows 'for every input' (looked for: loops, veiled, ifaces, maps, wideKeys, modest, calm, conditions, laid).
  DERIVED. THE GIVEN ROWS OF THIS SEAT. 6 by the template 'for every input the law returns true; each argument reads behind the call as it read before'; 0 by the template 'total and deterministic' (their statements: YteeialfgamfdeaaTotals.lean).
  GIVEN WITH THE SEED: the statements are not yours to turn. If you find one false, say at which input.
  Laid BY PROGRAM, IN A SANDBOX (cutbox-rows.mjs): the forced cells as the released guide's own fill.sh prints them over the translation e6465c6acfa6411a… (all of the seat's roots in one cut). By AI agents, Wed Nov 11 2026. No macro, syntax, notation, axiom, sorry.
-/
import Derived.Test.YteeialfgamfdeaaChecked
import GoSem.Claim
import GoSem.ClaimJoined
import GoSem.ClaimMapViews
import Derived.JoinedTies
import Derived.KernelRfl
namespace Go.Proofs.Yteeialfgamfdeaa
/- THE CELL 'sum', in the pinned program and in every row, IS THE sha256 OF THE DUMP (.gsa) THAT YteeialfgamfdeaaProg.lean LOADS. Nothing in Lean hashes anything: it is a label: what it is worth is what the hold of that sum in a sandbox is worth. -/
noncomputable def Try.pinned : Pinned := { name := "yteeialfgamfdeaa", sum := "e6465c6acfa6411a362be61d1e2ca67e09f66e04bd847c322703a123cd2da328", checked := Try.checked }
namespace Rows
def none {H : Type} : Left H := { results := [], args := [] }

/-- 'laws.FnTransferred': WHATEVER THE INPUT: true; the input reads as it did. -/
def fnTransferredSpec : ChangeSpec := { name := "fnTransferred", fn := fun _ => fun
  | [d] => { results := [.lit (.bool true)], args := [d] }
  | _ => none }
def fnTransferredRow : OpenClaim := { program := "yteeialfgamfdeaa", sum := "e6465c6acfa6411a362be61d1e2ca67e09f66e04bd847c322703a123cd2da328", func := "loop.example/g00982/laws.FnTransferred", spec := "fnTransferred", inPlace := ["slices.overlaps[loop.example/g00982/impl.Id]"], unfollowed := true, recurses := true, apart := false }
def FnTransferredSaid : Prop := fnTransferredRow.holds Try.pinned (OpenSpec.ofChange fnTransferredSpec)

/-- ITS FALSE NEIGHBOUR: 'it returns false'. Refute it at one input. -/
def fnTransferredWrong : ChangeSpec := { name := "fnTransferred", fn := fun _ => fun
  | [d] => { results := [.lit (.bool false)], args := [d] }
  | _ => none }
def FnTransferredWrongFalsely : Prop := fnTransferredRow.holds Try.pinned (OpenSpec.ofChange fnTransferredWrong)

/-- 'laws.FnUndone': WHATEVER THE INPUT: true; the input reads as it did. -/
def fnUndoneSpec : ChangeSpec := { name := "fnUndone", fn := fun _ => fun
  | [d] => { results := [.lit (.bool true)], args := [d] }
  | _ => none }
def fnUndoneRow : OpenClaim := { program := "yteeialfgamfdeaa", sum := "e6465c6acfa6411a362be61d1e2ca67e09f66e04bd847c322703a123cd2da328", func := "loop.example/g00982/laws.FnUndone", spec := "fnUndone", inPlace := ["slices.overlaps[loop.example/g00982/impl.Id]"], unfollowed := true, recurses := true, apart := false }
def FnUndoneSaid : Prop := fnUndoneRow.holds Try.pinned (OpenSpec.ofChange fnUndoneSpec)

/-- ITS FALSE NEIGHBOUR: 'it returns false'. Refute it at one input. -/
def fnUndoneWrong : ChangeSpec := { name := "fnUndone", fn := fun _ => fun
  | [d] => { results := [.lit (.bool false)], args := [d] }
  | _ => none }
def FnUndoneWrongFalsely : Prop := fnUndoneRow.holds Try.pinned (OpenSpec.ofChange fnUndoneWrong)

/-- 'laws.FnExactShareOut': WHATEVER THE INPUT: true; the input reads as it did. -/
def fnExactShareOutSpec : ChangeSpec := { name := "fnExactShareOut", fn := fun _ => fun
  | [d1, d2, d3] => { results := [.lit (.bool true)], args := [d1, d2, d3] }
  | _ => none }
def fnExactShareOutRow : OpenClaim := { program := "yteeialfgamfdeaa", sum := "e6465c6acfa6411a362be61d1e2ca67e09f66e04bd847c322703a123cd2da328", func := "loop.example/g00982/laws.FnExactShareOut", spec := "fnExactShareOut", unfollowed := true, recurses := true, apart := false }
def FnExactShareOutSaid : Prop := fnExactShareOutRow.holds Try.pinned (OpenSpec.ofChange fnExactShareOutSpec)

/-- ITS FALSE NEIGHBOUR: 'it returns false'. Refute it at one input. -/
def fnExactShareOutWrong : ChangeSpec := { name := "fnExactShareOut", fn := fun _ => fun
  | [d1, d2, d3] => { results := [.lit (.bool false)], args := [d1, d2, d3] }
  | _ => none }
def FnExactShareOutWrongFalsely : Prop := fnExactShareOutRow.holds Try.pinned (OpenSpec.ofChange fnExactShareOutWrong)

/-- 'laws.FnExactRefineState': WHATEVER THE INPUT: true; the input reads as it did. -/
def fnExactRefineStateSpec : ChangeSpec := { name := "fnExactRefineState", fn := fun _ => fun
  | [d1, d2] => { results := [.lit (.bool true)], args := [d1, d2] }
  | _ => none }
def fnExactRefineStateRow : OpenClaim := { program := "yteeialfgamfdeaa", sum := "e6465c6acfa6411a362be61d1e2ca67e09f66e04bd847c322703a123cd2da328", func := "loop.example/g00982/laws.FnExactRefineState", spec := "fnExactRefineState", inPlace := ["slices.overlaps[loop.example/g00982/impl.Id]"], unfollowed := true, recurses := true, apart := false }
def FnExactRefineStateSaid : Prop := fnExactRefineStateRow.holds Try.pinned (OpenSpec.ofChange fnExactRefineStateSpec)

/-- ITS FALSE NEIGHBOUR: 'it returns false'. Refute it at one input. -/
def fnExactRefineStateWrong : ChangeSpec := { name := "fnExactRefineState", fn := fun _ => fun
  | [d1, d2] => { results := [.lit (.bool false)], args := [d1, d2] }
  | _ => none }
def FnExactRefineStateWrongFalsely : Prop := fnExactRefineStateRow.holds Try.pinned (OpenSpec.ofChange fnExactRefineStateWrong)

/-- 'laws.FnExactCoarsenState': WHATEVER THE INPUT: true; the input reads as it did. -/
def fnExactCoarsenStateSpec : ChangeSpec := { name := "fnExactCoarsenState", fn := fun _ => fun
  | [d1, d2] => { results := [.lit (.bool true)], args := [d1, d2] }
  | _ => none }
def fnExactCoarsenStateRow : OpenClaim := { program := "yteeialfgamfdeaa", sum := "e6465c6acfa6411a362be61d1e2ca67e09f66e04bd847c322703a123cd2da328", func := "loop.example/g00982/laws.FnExactCoarsenState", spec := "fnExactCoarsenState", apart := false }
def FnExactCoarsenStateSaid : Prop := fnExactCoarsenStateRow.holds Try.pinned (OpenSpec.ofChange fnExactCoarsenStateSpec)

/-- ITS FALSE NEIGHBOUR: 'it returns false'. Refute it at one input. -/
def fnExactCoarsenStateWrong : ChangeSpec := { name := "fnExactCoarsenState", fn := fun _ => fun
  | [d1, d2] => { results := [.lit (.bool false)], args := [d1, d2] }
  | _ => none }
def FnExactCoarsenStateWrongFalsely : Prop := fnExactCoarsenStateRow.holds Try.pinned (OpenSpec.ofChange fnExactCoarsenStateWrong)

/-- 'laws.FnExactBalanceRefine': WHATEVER THE INPUT: true; the input reads as it did. -/
def fnExactBalanceRefineSpec : ChangeSpec := { name := "fnExactBalanceRefine", fn := fun _ => fun
  | [d1, d2] => { results := [.lit (.bool true)], args := [d1, d2] }
  | _ => none }
def fnExactBalanceRefineRow : OpenClaim := { program := "yteeialfgamfdeaa", sum := "e6465c6acfa6411a362be61d1e2ca67e09f66e04bd847c322703a123cd2da328", func := "loop.example/g00982/laws.FnExactBalanceRefine", spec := "fnExactBalanceRefine", inPlace := ["slices.overlaps[loop.example/g00982/impl.Id]"], unfollowed := true, recurses := true, apart := false }
def FnExactBalanceRefineSaid : Prop := fnExactBalanceRefineRow.holds Try.pinned (OpenSpec.ofChange fnExactBalanceRefineSpec)

/-- ITS FALSE NEIGHBOUR: 'it returns false'. Refute it at one input. -/
def fnExactBalanceRefineWrong : ChangeSpec := { name := "fnExactBalanceRefine", fn := fun _ => fun
  | [d1, d2] => { results := [.lit (.bool false)], args := [d1, d2] }
  | _ => none }
def FnExactBalanceRefineWrongFalsely : Prop := fnExactBalanceRefineRow.holds Try.pinned (OpenSpec.ofChange fnExactBalanceRefineWrong)

/- THE SECOND FORM. 'bulk': how many values and letters a reading holds, each counted each time it is reached (what is shared counts as often as it is met; a slice's spare places count too). A statement '..UptoSaid' is the law's where the arguments, and the package variables that the reading takes, are together of bulk at most 1048576: NARROWER than '..Said'. Prove '..Said' where nothing that the law and all that it calls make is longer than what came in: it says more and counts as full. Else prove '..UptoSaid'. A law counts once. -/
mutual
def uptoBulk {H : Type} : DataW H → Nat
  | .lit (.string bytes) => bytes.length + 1
  | .lit _ => 1
  | .nil => 1
  | .ptr d => uptoBulk d + 1
  | .slice elems spare => uptoBulkAll elems + uptoBulkAll spare + 1
  | .agg parts => uptoBulkAll parts + 1
  | .iface _ d => uptoBulk d + 1
  | .map entries => uptoBulkEntries entries + 1
  | .held _ => 1
def uptoBulkAll {H : Type} : List (DataW H) → Nat
  | [] => 0
  | d :: r => uptoBulk d + uptoBulkAll r
def uptoBulkEntries {H : Type} : List (Lit × DataW H) → Nat
  | [] => 0
  | x :: r => uptoBulkEntry x + uptoBulkEntries r
def uptoBulkEntry {H : Type} : Lit × DataW H → Nat
  | (.string bytes, d) => bytes.length + uptoBulk d + 1
  | (_, d) => uptoBulk d + 1
 end
def uptoSmall : (H : Type) → List (DataW H) → Bool := fun _ ds => decide (uptoBulkAll ds ≤ 1048576)
def OpenSpec.upto (s : _root_.Go.ChangeSpec) : _root_.Go.OpenSpec := { _root_.Go.OpenSpec.ofChange s with cond := some uptoSmall }

/-- 'laws.FnTransferred', WHERE WHAT IT READS IS OF BULK AT MOST 1048576: true; the input reads as it did. -/
def fnTransferredUptoRow : OpenClaim := { program := "yteeialfgamfdeaa", sum := "e6465c6acfa6411a362be61d1e2ca67e09f66e04bd847c322703a123cd2da328", func := "loop.example/g00982/laws.FnTransferred", spec := "fnTransferred", inPlace := ["slices.overlaps[loop.example/g00982/impl.Id]"], unfollowed := true, recurses := true, apart := false, narrowed := true }
def FnTransferredUptoSaid : Prop := fnTransferredUptoRow.holds Try.pinned (OpenSpec.upto fnTransferredSpec)

/-- 'laws.FnUndone', WHERE WHAT IT READS IS OF BULK AT MOST 1048576: true; the input reads as it did. -/
def fnUndoneUptoRow : OpenClaim := { program := "yteeialfgamfdeaa", sum := "e6465c6acfa6411a362be61d1e2ca67e09f66e04bd847c322703a123cd2da328", func := "loop.example/g00982/laws.FnUndone", spec := "fnUndone", inPlace := ["slices.overlaps[loop.example/g00982/impl.Id]"], unfollowed := true, recurses := true, apart := false, narrowed := true }
def FnUndoneUptoSaid : Prop := fnUndoneUptoRow.holds Try.pinned (OpenSpec.upto fnUndoneSpec)

/-- 'laws.FnExactShareOut', WHERE WHAT IT READS IS OF BULK AT MOST 1048576: true; the input reads as it did. -/
def fnExactShareOutUptoRow : OpenClaim := { program := "yteeialfgamfdeaa", sum := "e6465c6acfa6411a362be61d1e2ca67e09f66e04bd847c322703a123cd2da328", func := "loop.example/g00982/laws.FnExactShareOut", spec := "fnExactShareOut", unfollowed := true, recurses := true, apart := false, narrowed := true }
def FnExactShareOutUptoSaid : Prop := fnExactShareOutUptoRow.holds Try.pinned (OpenSpec.upto fnExactShareOutSpec)

/-- 'laws.FnExactRefineState', WHERE WHAT IT READS IS OF BULK AT MOST 1048576: true; the input reads as it did. -/
def fnExactRefineStateUptoRow : OpenClaim := { program := "yteeialfgamfdeaa", sum := "e6465c6acfa6411a362be61d1e2ca67e09f66e04bd847c322703a123cd2da328", func := "loop.example/g00982/laws.FnExactRefineState", spec := "fnExactRefineState", inPlace := ["slices.overlaps[loop.example/g00982/impl.Id]"], unfollowed := true, recurses := true, apart := false, narrowed := true }
def FnExactRefineStateUptoSaid : Prop := fnExactRefineStateUptoRow.holds Try.pinned (OpenSpec.upto fnExactRefineStateSpec)

/-- 'laws.FnExactCoarsenState', WHERE WHAT IT READS IS OF BULK AT MOST 1048576: true; the input reads as it did. -/
def fnExactCoarsenStateUptoRow : OpenClaim := { program := "yteeialfgamfdeaa", sum := "e6465c6acfa6411a362be61d1e2ca67e09f66e04bd847c322703a123cd2da328", func := "loop.example/g00982/laws.FnExactCoarsenState", spec := "fnExactCoarsenState", apart := false, narrowed := true }
def FnExactCoarsenStateUptoSaid : Prop := fnExactCoarsenStateUptoRow.holds Try.pinned (OpenSpec.upto fnExactCoarsenStateSpec)

/-- 'laws.FnExactBalanceRefine', WHERE WHAT IT READS IS OF BULK AT MOST 1048576: true; the input reads as it did. -/
def fnExactBalanceRefineUptoRow : OpenClaim := { program := "yteeialfgamfdeaa", sum := "e6465c6acfa6411a362be61d1e2ca67e09f66e04bd847c322703a123cd2da328", func := "loop.example/g00982/laws.FnExactBalanceRefine", spec := "fnExactBalanceRefine", inPlace := ["slices.overlaps[loop.example/g00982/impl.Id]"], unfollowed := true, recurses := true, apart := false, narrowed := true }
def FnExactBalanceRefineUptoSaid : Prop := fnExactBalanceRefineUptoRow.holds Try.pinned (OpenSpec.upto fnExactBalanceRefineSpec)

end Rows
end Go.Proofs.Yteeialfgamfdeaa
