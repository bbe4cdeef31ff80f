/-
  No cell of these rows narrows 'for every input' (looked for: loops, veiled, ifaces, maps, wideKeys, modest, calm, conditions, laid).
  DERIVED. THE GIVEN ROWS OF THIS SEAT. 6 by the template 'for every input the law returns true; each argument reads behind the call as it read before'; 0 by the template 'total and deterministic' (their statements: YtngacnckejnllaaTotals.lean).
  GIVEN WITH THE SEED: the statements are not yours to turn. If you find one false, say at which input.
  Laid BY PROGRAM, IN A SANDBOX (cutbox-rows.mjs): the forced cells as the released guide's own fill.sh prints them over the translation 5fa844396e9fdcbb… (all of the seat's roots in one cut). By AI agents, Wed Nov 11 2026. No macro, syntax, notation, axiom, sorry.
-/
import Derived.Test.YtngacnckejnllaaChecked
import GoSem.Claim
import GoSem.ClaimJoined
import GoSem.ClaimMapViews
import Derived.JoinedTies
import Derived.KernelRfl
namespace Go.Proofs.Ytngacnckejnllaa
/- THE CELL 'sum', in the pinned program and in every row, IS THE sha256 OF THE DUMP (.gsa) THAT YtngacnckejnllaaProg.lean LOADS. Nothing in Lean hashes anything: it is a label: what it is worth is what the hold of that sum in a sandbox is worth. -/
noncomputable def Try.pinned : Pinned := { name := "ytngacnckejnllaa", sum := "5fa844396e9fdcbb18c6d0dbba2d9fec377cd417b10ea018e71771004a700c75", checked := Try.checked }
namespace Rows
def none {H : Type} : Left H := { results := [], args := [] }

/-- 'laws.FnBorders': WHATEVER THE INPUT: true; the input reads as it did. -/
def fnBordersSpec : ChangeSpec := { name := "fnBorders", fn := fun _ => fun
  | [d] => { results := [.lit (.bool true)], args := [d] }
  | _ => none }
def fnBordersRow : OpenClaim := { program := "ytngacnckejnllaa", sum := "5fa844396e9fdcbb18c6d0dbba2d9fec377cd417b10ea018e71771004a700c75", func := "loop.example/g00982/laws.FnBorders", spec := "fnBorders", unfollowed := true, recurses := true, apart := false }
def FnBordersSaid : Prop := fnBordersRow.holds Try.pinned (OpenSpec.ofChange fnBordersSpec)

/-- ITS FALSE NEIGHBOUR: 'it returns false'. Refute it at one input. -/
def fnBordersWrong : ChangeSpec := { name := "fnBorders", fn := fun _ => fun
  | [d] => { results := [.lit (.bool false)], args := [d] }
  | _ => none }
def FnBordersWrongFalsely : Prop := fnBordersRow.holds Try.pinned (OpenSpec.ofChange fnBordersWrong)

/-- 'laws.FnLedgers': WHATEVER THE INPUT: true; the input reads as it did. -/
def fnLedgersSpec : ChangeSpec := { name := "fnLedgers", fn := fun _ => fun
  | [d] => { results := [.lit (.bool true)], args := [d] }
  | _ => none }
def fnLedgersRow : OpenClaim := { program := "ytngacnckejnllaa", sum := "5fa844396e9fdcbb18c6d0dbba2d9fec377cd417b10ea018e71771004a700c75", func := "loop.example/g00982/laws.FnLedgers", spec := "fnLedgers", apart := false }
def FnLedgersSaid : Prop := fnLedgersRow.holds Try.pinned (OpenSpec.ofChange fnLedgersSpec)

/-- ITS FALSE NEIGHBOUR: 'it returns false'. Refute it at one input. -/
def fnLedgersWrong : ChangeSpec := { name := "fnLedgers", fn := fun _ => fun
  | [d] => { results := [.lit (.bool false)], args := [d] }
  | _ => none }
def FnLedgersWrongFalsely : Prop := fnLedgersRow.holds Try.pinned (OpenSpec.ofChange fnLedgersWrong)

/-- 'laws.FnExactBorderOk': WHATEVER THE INPUT: true; the input reads as it did. -/
def fnExactBorderOkSpec : ChangeSpec := { name := "fnExactBorderOk", fn := fun _ => fun
  | [d] => { results := [.lit (.bool true)], args := [d] }
  | _ => none }
def fnExactBorderOkRow : OpenClaim := { program := "ytngacnckejnllaa", sum := "5fa844396e9fdcbb18c6d0dbba2d9fec377cd417b10ea018e71771004a700c75", func := "loop.example/g00982/laws.FnExactBorderOk", spec := "fnExactBorderOk", apart := false }
def FnExactBorderOkSaid : Prop := fnExactBorderOkRow.holds Try.pinned (OpenSpec.ofChange fnExactBorderOkSpec)

/-- ITS FALSE NEIGHBOUR: 'it returns false'. Refute it at one input. -/
def fnExactBorderOkWrong : ChangeSpec := { name := "fnExactBorderOk", fn := fun _ => fun
  | [d] => { results := [.lit (.bool false)], args := [d] }
  | _ => none }
def FnExactBorderOkWrongFalsely : Prop := fnExactBorderOkRow.holds Try.pinned (OpenSpec.ofChange fnExactBorderOkWrong)

/-- 'laws.FnExactApplyBorder': WHATEVER THE INPUT: true; the input reads as it did. -/
def fnExactApplyBorderSpec : ChangeSpec := { name := "fnExactApplyBorder", fn := fun _ => fun
  | [d1, d2] => { results := [.lit (.bool true)], args := [d1, d2] }
  | _ => none }
def fnExactApplyBorderRow : OpenClaim := { program := "ytngacnckejnllaa", sum := "5fa844396e9fdcbb18c6d0dbba2d9fec377cd417b10ea018e71771004a700c75", func := "loop.example/g00982/laws.FnExactApplyBorder", spec := "fnExactApplyBorder", unfollowed := true, recurses := true, apart := false }
def FnExactApplyBorderSaid : Prop := fnExactApplyBorderRow.holds Try.pinned (OpenSpec.ofChange fnExactApplyBorderSpec)

/-- ITS FALSE NEIGHBOUR: 'it returns false'. Refute it at one input. -/
def fnExactApplyBorderWrong : ChangeSpec := { name := "fnExactApplyBorder", fn := fun _ => fun
  | [d1, d2] => { results := [.lit (.bool false)], args := [d1, d2] }
  | _ => none }
def FnExactApplyBorderWrongFalsely : Prop := fnExactApplyBorderRow.holds Try.pinned (OpenSpec.ofChange fnExactApplyBorderWrong)

/-- 'laws.FnExactLedgerAdd': WHATEVER THE INPUT: true; the input reads as it did. -/
def fnExactLedgerAddSpec : ChangeSpec := { name := "fnExactLedgerAdd", fn := fun _ => fun
  | [d1, d2] => { results := [.lit (.bool true)], args := [d1, d2] }
  | _ => none }
def fnExactLedgerAddRow : OpenClaim := { program := "ytngacnckejnllaa", sum := "5fa844396e9fdcbb18c6d0dbba2d9fec377cd417b10ea018e71771004a700c75", func := "loop.example/g00982/laws.FnExactLedgerAdd", spec := "fnExactLedgerAdd", apart := false }
def FnExactLedgerAddSaid : Prop := fnExactLedgerAddRow.holds Try.pinned (OpenSpec.ofChange fnExactLedgerAddSpec)

/-- ITS FALSE NEIGHBOUR: 'it returns false'. Refute it at one input. -/
def fnExactLedgerAddWrong : ChangeSpec := { name := "fnExactLedgerAdd", fn := fun _ => fun
  | [d1, d2] => { results := [.lit (.bool false)], args := [d1, d2] }
  | _ => none }
def FnExactLedgerAddWrongFalsely : Prop := fnExactLedgerAddRow.holds Try.pinned (OpenSpec.ofChange fnExactLedgerAddWrong)

/-- 'laws.FnExactLedgerHolds': WHATEVER THE INPUT: true; the input reads as it did. -/
def fnExactLedgerHoldsSpec : ChangeSpec := { name := "fnExactLedgerHolds", fn := fun _ => fun
  | [d1, d2, d3] => { results := [.lit (.bool true)], args := [d1, d2, d3] }
  | _ => none }
def fnExactLedgerHoldsRow : OpenClaim := { program := "ytngacnckejnllaa", sum := "5fa844396e9fdcbb18c6d0dbba2d9fec377cd417b10ea018e71771004a700c75", func := "loop.example/g00982/laws.FnExactLedgerHolds", spec := "fnExactLedgerHolds", apart := false }
def FnExactLedgerHoldsSaid : Prop := fnExactLedgerHoldsRow.holds Try.pinned (OpenSpec.ofChange fnExactLedgerHoldsSpec)

/-- ITS FALSE NEIGHBOUR: 'it returns false'. Refute it at one input. -/
def fnExactLedgerHoldsWrong : ChangeSpec := { name := "fnExactLedgerHolds", fn := fun _ => fun
  | [d1, d2, d3] => { results := [.lit (.bool false)], args := [d1, d2, d3] }
  | _ => none }
def FnExactLedgerHoldsWrongFalsely : Prop := fnExactLedgerHoldsRow.holds Try.pinned (OpenSpec.ofChange fnExactLedgerHoldsWrong)

/- THE SECOND FORM. 'bulk': how many values and letters a reading holds, each counted each time it is reached (what is shared counts as often as it is met; a slice's spare places count too). A statement '..UptoSaid' is the law's where the arguments, and the package variables that the reading takes, are together of bulk at most 1048576: NARROWER than '..Said'. Prove '..Said' where nothing that the law and all that it calls make is longer than what came in: it says more and counts as full. Else prove '..UptoSaid'. A law counts once. -/
mutual
def uptoBulk {H : Type} : DataW H → Nat
  | .lit (.string bytes) => bytes.length + 1
  | .lit _ => 1
  | .nil => 1
  | .ptr d => uptoBulk d + 1
  | .slice elems spare => uptoBulkAll elems + uptoBulkAll spare + 1
  | .agg parts => uptoBulkAll parts + 1
  | .iface _ d => uptoBulk d + 1
  | .map entries => uptoBulkEntries entries + 1
  | .held _ => 1
def uptoBulkAll {H : Type} : List (DataW H) → Nat
  | [] => 0
  | d :: r => uptoBulk d + uptoBulkAll r
def uptoBulkEntries {H : Type} : List (Lit × DataW H) → Nat
  | [] => 0
  | x :: r => uptoBulkEntry x + uptoBulkEntries r
def uptoBulkEntry {H : Type} : Lit × DataW H → Nat
  | (.string bytes, d) => bytes.length + uptoBulk d + 1
  | (_, d) => uptoBulk d + 1
 end
def uptoSmall : (H : Type) → List (DataW H) → Bool := fun _ ds => decide (uptoBulkAll ds ≤ 1048576)
def OpenSpec.upto (s : _root_.Go.ChangeSpec) : _root_.Go.OpenSpec := { _root_.Go.OpenSpec.ofChange s with cond := some uptoSmall }

/-- 'laws.FnBorders', WHERE WHAT IT READS IS OF BULK AT MOST 1048576: true; the input reads as it did. -/
def fnBordersUptoRow : OpenClaim := { program := "ytngacnckejnllaa", sum := "5fa844396e9fdcbb18c6d0dbba2d9fec377cd417b10ea018e71771004a700c75", func := "loop.example/g00982/laws.FnBorders", spec := "fnBorders", unfollowed := true, recurses := true, apart := false, narrowed := true }
def FnBordersUptoSaid : Prop := fnBordersUptoRow.holds Try.pinned (OpenSpec.upto fnBordersSpec)

/-- 'laws.FnLedgers', WHERE WHAT IT READS IS OF BULK AT MOST 1048576: true; the input reads as it did. -/
def fnLedgersUptoRow : OpenClaim := { program := "ytngacnckejnllaa", sum := "5fa844396e9fdcbb18c6d0dbba2d9fec377cd417b10ea018e71771004a700c75", func := "loop.example/g00982/laws.FnLedgers", spec := "fnLedgers", apart := false, narrowed := true }
def FnLedgersUptoSaid : Prop := fnLedgersUptoRow.holds Try.pinned (OpenSpec.upto fnLedgersSpec)

/-- 'laws.FnExactBorderOk', WHERE WHAT IT READS IS OF BULK AT MOST 1048576: true; the input reads as it did. -/
def fnExactBorderOkUptoRow : OpenClaim := { program := "ytngacnckejnllaa", sum := "5fa844396e9fdcbb18c6d0dbba2d9fec377cd417b10ea018e71771004a700c75", func := "loop.example/g00982/laws.FnExactBorderOk", spec := "fnExactBorderOk", apart := false, narrowed := true }
def FnExactBorderOkUptoSaid : Prop := fnExactBorderOkUptoRow.holds Try.pinned (OpenSpec.upto fnExactBorderOkSpec)

/-- 'laws.FnExactApplyBorder', WHERE WHAT IT READS IS OF BULK AT MOST 1048576: true; the input reads as it did. -/
def fnExactApplyBorderUptoRow : OpenClaim := { program := "ytngacnckejnllaa", sum := "5fa844396e9fdcbb18c6d0dbba2d9fec377cd417b10ea018e71771004a700c75", func := "loop.example/g00982/laws.FnExactApplyBorder", spec := "fnExactApplyBorder", unfollowed := true, recurses := true, apart := false, narrowed := true }
def FnExactApplyBorderUptoSaid : Prop := fnExactApplyBorderUptoRow.holds Try.pinned (OpenSpec.upto fnExactApplyBorderSpec)

/-- 'laws.FnExactLedgerAdd', WHERE WHAT IT READS IS OF BULK AT MOST 1048576: true; the input reads as it did. -/
def fnExactLedgerAddUptoRow : OpenClaim := { program := "ytngacnckejnllaa", sum := "5fa844396e9fdcbb18c6d0dbba2d9fec377cd417b10ea018e71771004a700c75", func := "loop.example/g00982/laws.FnExactLedgerAdd", spec := "fnExactLedgerAdd", apart := false, narrowed := true }
def FnExactLedgerAddUptoSaid : Prop := fnExactLedgerAddUptoRow.holds Try.pinned (OpenSpec.upto fnExactLedgerAddSpec)

/-- 'laws.FnExactLedgerHolds', WHERE WHAT IT READS IS OF BULK AT MOST 1048576: true; the input reads as it did. -/
def fnExactLedgerHoldsUptoRow : OpenClaim := { program := "ytngacnckejnllaa", sum := "5fa844396e9fdcbb18c6d0dbba2d9fec377cd417b10ea018e71771004a700c75", func := "loop.example/g00982/laws.FnExactLedgerHolds", spec := "fnExactLedgerHolds", apart := false, narrowed := true }
def FnExactLedgerHoldsUptoSaid : Prop := fnExactLedgerHoldsUptoRow.holds Try.pinned (OpenSpec.upto fnExactLedgerHoldsSpec)

end Rows
end Go.Proofs.Ytngacnckejnllaa
