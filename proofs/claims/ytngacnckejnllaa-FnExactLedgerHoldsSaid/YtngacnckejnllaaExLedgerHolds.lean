/- The tables of the regions of the exact law of LedgerHolds that draw their order (written by wip/tools/exact.py).
   Conditions: none. -/
import Derived.Test.YtngacnckejnllaaStLedB
import Derived.Test.YtngacnckejnllaaPkReg
set_option maxRecDepth 100000
namespace Go.Proofs.Ytngacnckejnllaa.State
open Go.ChangeShapes Go.WideShapes Go.ChangeAt Go.RowKit Go.Proofs.Ytngacnckejnllaa.Cell Go.Proofs.Ytngacnckejnllaa.Mesh Go.Proofs.Ytngacnckejnllaa.Law Go.Proofs.Ytngacnckejnllaa.Ints Go.Proofs.Ytngacnckejnllaa.Draws
set_option linter.unusedVariables false

/-- What each operation leaves. -/
def ExLedgerHolds8 (a0_0 : Int) (a0_1 : Option Addr) (n0_1 : Nat) (c0_1 : Nat) (a0_2 : Option Addr) (n0_2 : Nat) (c0_2 : Nat) (a0_3 : Option Addr) (n0_3 : Nat) (c0_3 : Nat) (a0_4 : Option Addr) (n0_4 : Nat) (c0_4 : Nat) (xs0 : List Mesh.C3) (ms0 : List Int) (ts0 : List Int) (bs0 : List Int) (a1_0 : Int) (a1_1 : Option Addr) (n1_1 : Nat) (c1_1 : Nat) (a1_2 : Option Addr) (n1_2 : Nat) (c1_2 : Nat) (a1_3 : Option Addr) (n1_3 : Nat) (c1_3 : Nat) (a1_4 : Option Addr) (n1_4 : Nat) (c1_4 : Nat) (xs1 : List Mesh.C3) (ms1 : List Int) (ts1 : List Int) (bs1 : List Int) (a2_0 : Int) (a2_1 : Int) (a2_2 : Int) (a2_3 : Int) (y0 : Bool) (val : Nat → Value) (G : Nat → Grp) : Nat → Prop
  | 0 => val 0 = .agg #[.int .i64 a0_0, .slice a0_1 n0_1 c0_1, .slice a0_2 n0_2 c0_2, .slice a0_3 n0_3 c0_3, .slice a0_4 n0_4 c0_4]
  | 1 => ∃ (x1_1 : Nat) (x1_2 : Nat) (x1_3 : Nat) (x1_4 : Nat), val 1 = .agg #[.int .i64 a0_0, .slice (some ⟨x1_1, 0, none⟩) n0_1 n0_1, .slice (some ⟨x1_2, 0, none⟩) n0_2 n0_2, .slice (some ⟨x1_3, 0, none⟩) n0_3 n0_3, .slice (some ⟨x1_4, 0, none⟩) n0_4 n0_4] ∧ G 1 = State.stateG (.slice (some ⟨x1_1, 0, none⟩) n0_1 n0_1) (.slice (some ⟨x1_2, 0, none⟩) n0_2 n0_2) (.slice (some ⟨x1_3, 0, none⟩) n0_3 n0_3) (.slice (some ⟨x1_4, 0, none⟩) n0_4 n0_4) n0_1 n0_2 n0_3 n0_4 xs0 ms0 ts0 bs0
  | 2 => val 2 = .agg #[.int .i64 a1_0, .slice a1_1 n1_1 c1_1, .slice a1_2 n1_2 c1_2, .slice a1_3 n1_3 c1_3, .slice a1_4 n1_4 c1_4]
  | 3 => ∃ (x3_1 : Nat) (x3_2 : Nat) (x3_3 : Nat) (x3_4 : Nat), val 3 = .agg #[.int .i64 a1_0, .slice (some ⟨x3_1, 0, none⟩) n1_1 n1_1, .slice (some ⟨x3_2, 0, none⟩) n1_2 n1_2, .slice (some ⟨x3_3, 0, none⟩) n1_3 n1_3, .slice (some ⟨x3_4, 0, none⟩) n1_4 n1_4] ∧ G 3 = State.stateG (.slice (some ⟨x3_1, 0, none⟩) n1_1 n1_1) (.slice (some ⟨x3_2, 0, none⟩) n1_2 n1_2) (.slice (some ⟨x3_3, 0, none⟩) n1_3 n1_3) (.slice (some ⟨x3_4, 0, none⟩) n1_4 n1_4) n1_1 n1_2 n1_3 n1_4 xs1 ms1 ts1 bs1
  | 4 => val 4 = .agg #[.int .i64 a2_0, .int .i64 a2_1, .int .i64 a2_2, .int .i64 a2_3]
  | 5 => val 5 = .agg #[.int .i64 a2_0, .int .i64 a2_1, .int .i64 a2_2, .int .i64 a2_3]
  | 6 => val 6 = .bool y0
  | 7 => val 7 = .bool y0
  | _ => True
def ExLedgerHolds8Dep : Nat → List Nat
  | 1 => [0] | 3 => [2] | 5 => [4] | 6 => [1, 3, 5] | 7 => [6] | _ => []
theorem ExLedgerHolds8_local (a0_0 : Int) (a0_1 : Option Addr) (n0_1 : Nat) (c0_1 : Nat) (a0_2 : Option Addr) (n0_2 : Nat) (c0_2 : Nat) (a0_3 : Option Addr) (n0_3 : Nat) (c0_3 : Nat) (a0_4 : Option Addr) (n0_4 : Nat) (c0_4 : Nat) (xs0 : List Mesh.C3) (ms0 : List Int) (ts0 : List Int) (bs0 : List Int) (a1_0 : Int) (a1_1 : Option Addr) (n1_1 : Nat) (c1_1 : Nat) (a1_2 : Option Addr) (n1_2 : Nat) (c1_2 : Nat) (a1_3 : Option Addr) (n1_3 : Nat) (c1_3 : Nat) (a1_4 : Option Addr) (n1_4 : Nat) (c1_4 : Nat) (xs1 : List Mesh.C3) (ms1 : List Int) (ts1 : List Int) (bs1 : List Int) (a2_0 : Int) (a2_1 : Int) (a2_2 : Int) (a2_3 : Int) (y0 : Bool) : Local ExLedgerHolds8Dep (ExLedgerHolds8 a0_0 a0_1 n0_1 c0_1 a0_2 n0_2 c0_2 a0_3 n0_3 c0_3 a0_4 n0_4 c0_4 xs0 ms0 ts0 bs0 a1_0 a1_1 n1_1 c1_1 a1_2 n1_2 c1_2 a1_3 n1_3 c1_3 a1_4 n1_4 c1_4 xs1 ms1 ts1 bs1 a2_0 a2_1 a2_2 a2_3 y0) := by
  intro val val' G G' j hk h
  match j with
  | 0 => exact (hk 0 (.inl rfl)).1.trans h
  | 1 => obtain ⟨x1_1, x1_2, x1_3, x1_4, h0, h1⟩ := h; exact ⟨x1_1, x1_2, x1_3, x1_4, (hk 1 (.inl rfl)).1.trans h0, (hk 1 (.inl rfl)).2.trans h1⟩
  | 2 => exact (hk 2 (.inl rfl)).1.trans h
  | 3 => obtain ⟨x3_1, x3_2, x3_3, x3_4, h0, h1⟩ := h; exact ⟨x3_1, x3_2, x3_3, x3_4, (hk 3 (.inl rfl)).1.trans h0, (hk 3 (.inl rfl)).2.trans h1⟩
  | 4 => exact (hk 4 (.inl rfl)).1.trans h
  | 5 => exact (hk 5 (.inl rfl)).1.trans h
  | 6 => exact (hk 6 (.inl rfl)).1.trans h
  | 7 => exact (hk 7 (.inl rfl)).1.trans h
  | _ + 8 => trivial

/-- What each operation leaves. -/
def ExLedgerHolds11 (a0_0 : Int) (n0_1 : Nat) (n0_2 : Nat) (n0_3 : Nat) (n0_4 : Nat) (a1_0 : Int) (n1_1 : Nat) (n1_2 : Nat) (n1_3 : Nat) (n1_4 : Nat) (a2_0 : Int) (a2_1 : Int) (a2_2 : Int) (a2_3 : Int) (y0 : Bool) (g2_1 : Nat) (g2_2 : Nat) (g2_3 : Nat) (g2_4 : Nat) (g4_1 : Nat) (g4_2 : Nat) (g4_3 : Nat) (g4_4 : Nat) (val : Nat → Value) (G : Nat → Grp) : Nat → Prop
  | 0 => val 0 = .agg #[.int .i64 a0_0, .slice (some ⟨g2_1, 0, none⟩) n0_1 n0_1, .slice (some ⟨g2_2, 0, none⟩) n0_2 n0_2, .slice (some ⟨g2_3, 0, none⟩) n0_3 n0_3, .slice (some ⟨g2_4, 0, none⟩) n0_4 n0_4]
  | 1 => val 1 = .agg #[.int .i64 a1_0, .slice (some ⟨g4_1, 0, none⟩) n1_1 n1_1, .slice (some ⟨g4_2, 0, none⟩) n1_2 n1_2, .slice (some ⟨g4_3, 0, none⟩) n1_3 n1_3, .slice (some ⟨g4_4, 0, none⟩) n1_4 n1_4]
  | 2 => val 2 = .agg #[.int .i64 a2_0, .int .i64 a2_1, .int .i64 a2_2, .int .i64 a2_3]
  | 3 => val 3 = .agg #[.int .i64 a2_0, .int .i64 a2_1, .int .i64 a2_2, .int .i64 a2_3]
  | 4 => val 4 = .bool y0
  | 5 => val 5 = .bool y0
  | _ => True
def ExLedgerHolds11Dep : Nat → List Nat
  | 3 => [2] | 4 => [0, 1, 3] | 5 => [4] | _ => []
theorem ExLedgerHolds11_local (a0_0 : Int) (n0_1 : Nat) (n0_2 : Nat) (n0_3 : Nat) (n0_4 : Nat) (a1_0 : Int) (n1_1 : Nat) (n1_2 : Nat) (n1_3 : Nat) (n1_4 : Nat) (a2_0 : Int) (a2_1 : Int) (a2_2 : Int) (a2_3 : Int) (y0 : Bool) (g2_1 : Nat) (g2_2 : Nat) (g2_3 : Nat) (g2_4 : Nat) (g4_1 : Nat) (g4_2 : Nat) (g4_3 : Nat) (g4_4 : Nat) : Local ExLedgerHolds11Dep (ExLedgerHolds11 a0_0 n0_1 n0_2 n0_3 n0_4 a1_0 n1_1 n1_2 n1_3 n1_4 a2_0 a2_1 a2_2 a2_3 y0 g2_1 g2_2 g2_3 g2_4 g4_1 g4_2 g4_3 g4_4) := by
  intro val val' G G' j hk h
  match j with
  | 0 => exact (hk 0 (.inl rfl)).1.trans h
  | 1 => exact (hk 1 (.inl rfl)).1.trans h
  | 2 => exact (hk 2 (.inl rfl)).1.trans h
  | 3 => exact (hk 3 (.inl rfl)).1.trans h
  | 4 => exact (hk 4 (.inl rfl)).1.trans h
  | 5 => exact (hk 5 (.inl rfl)).1.trans h
  | _ + 6 => trivial
end Go.Proofs.Ytngacnckejnllaa.State
