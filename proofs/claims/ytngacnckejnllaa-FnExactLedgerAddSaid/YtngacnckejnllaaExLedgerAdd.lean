/- The tables of the regions of the exact law of LedgerAdd that draw their order (written by wip/tools/exact.py).
   Conditions: none. -/
import Derived.Test.YtngacnckejnllaaStLedB
import Derived.Test.YtngacnckejnllaaPkReg
set_option maxRecDepth 100000
namespace Go.Proofs.Ytngacnckejnllaa.State
open Go.ChangeShapes Go.WideShapes Go.ChangeAt Go.RowKit Go.Proofs.Ytngacnckejnllaa.Cell Go.Proofs.Ytngacnckejnllaa.Mesh Go.Proofs.Ytngacnckejnllaa.Law Go.Proofs.Ytngacnckejnllaa.Ints Go.Proofs.Ytngacnckejnllaa.Draws
set_option linter.unusedVariables false

/-- What each operation leaves. -/
def ExLedgerAdd1 (a0_0 : Int) (a0_1 : Int) (a0_2 : Int) (a0_3 : Int) (a1_0 : Int) (a1_1 : Int) (a1_2 : Int) (a1_3 : Int) (y0_0 : Int) (y0_1 : Int) (y0_2 : Int) (y0_3 : Int) (val : Nat → Value) (G : Nat → Grp) : Nat → Prop
  | 0 => val 0 = .agg #[.int .i64 a0_0, .int .i64 a0_1, .int .i64 a0_2, .int .i64 a0_3]
  | 1 => val 1 = .agg #[.int .i64 a0_0, .int .i64 a0_1, .int .i64 a0_2, .int .i64 a0_3]
  | 2 => val 2 = .agg #[.int .i64 a1_0, .int .i64 a1_1, .int .i64 a1_2, .int .i64 a1_3]
  | 3 => val 3 = .agg #[.int .i64 a1_0, .int .i64 a1_1, .int .i64 a1_2, .int .i64 a1_3]
  | 4 => val 4 = .agg #[.int .i64 y0_0, .int .i64 y0_1, .int .i64 y0_2, .int .i64 y0_3]
  | 5 => ∃ (b1_5 : Nat) (o5_0 : Value) (o5_1 : Value) (o5_2 : Value) (o5_3 : Value), val 5 = .pointer (some ⟨b1_5, 0, none⟩) ∧ G 5 = Law.boxG b1_5 35 #[o5_0, o5_1, o5_2, o5_3]
  | 6 => ∃ (b1_5 : Nat), val 5 = .pointer (some ⟨b1_5, 0, none⟩) ∧ val 4 = .agg #[.int .i64 y0_0, .int .i64 y0_1, .int .i64 y0_2, .int .i64 y0_3] ∧ G 5 = Law.boxG b1_5 35 #[.int .i64 y0_0, .int .i64 y0_1, .int .i64 y0_2, .int .i64 y0_3]
  | _ => True
def ExLedgerAdd1Dep : Nat → List Nat
  | 1 => [0] | 3 => [2] | 4 => [1, 3] | 6 => [5, 4] | _ => []
theorem ExLedgerAdd1_local (a0_0 : Int) (a0_1 : Int) (a0_2 : Int) (a0_3 : Int) (a1_0 : Int) (a1_1 : Int) (a1_2 : Int) (a1_3 : Int) (y0_0 : Int) (y0_1 : Int) (y0_2 : Int) (y0_3 : Int) : Local ExLedgerAdd1Dep (ExLedgerAdd1 a0_0 a0_1 a0_2 a0_3 a1_0 a1_1 a1_2 a1_3 y0_0 y0_1 y0_2 y0_3) := by
  intro val val' G G' j hk h
  match j with
  | 0 => exact (hk 0 (.inl rfl)).1.trans h
  | 1 => exact (hk 1 (.inl rfl)).1.trans h
  | 2 => exact (hk 2 (.inl rfl)).1.trans h
  | 3 => exact (hk 3 (.inl rfl)).1.trans h
  | 4 => exact (hk 4 (.inl rfl)).1.trans h
  | 5 => obtain ⟨b1_5, o5_0, o5_1, o5_2, o5_3, h0, h1⟩ := h; exact ⟨b1_5, o5_0, o5_1, o5_2, o5_3, (hk 5 (.inl rfl)).1.trans h0, (hk 5 (.inl rfl)).2.trans h1⟩
  | 6 => obtain ⟨b1_5, h0, h1, h2⟩ := h; exact ⟨b1_5, (hk 5 (.inr (by simp [ExLedgerAdd1Dep]))).1.trans h0, (hk 4 (.inr (by simp [ExLedgerAdd1Dep]))).1.trans h1, (hk 5 (.inr (by simp [ExLedgerAdd1Dep]))).2.trans h2⟩
  | _ + 7 => trivial

/-- What each operation leaves. -/
def ExLedgerAdd2 (a0_0 : Int) (a0_1 : Int) (a0_2 : Int) (a0_3 : Int) (a1_0 : Int) (a1_1 : Int) (a1_2 : Int) (a1_3 : Int) (y0_0 : Int) (y0_1 : Int) (y0_2 : Int) (y0_3 : Int) (val : Nat → Value) (G : Nat → Grp) : Nat → Prop
  | 0 => val 0 = .agg #[.int .i64 a0_0, .int .i64 a0_1, .int .i64 a0_2, .int .i64 a0_3]
  | 1 => val 1 = .agg #[.int .i64 a0_0, .int .i64 a0_1, .int .i64 a0_2, .int .i64 a0_3]
  | 2 => val 2 = .agg #[.int .i64 a1_0, .int .i64 a1_1, .int .i64 a1_2, .int .i64 a1_3]
  | 3 => val 3 = .agg #[.int .i64 a1_0, .int .i64 a1_1, .int .i64 a1_2, .int .i64 a1_3]
  | 4 => val 4 = .agg #[.int .i64 y0_0, .int .i64 y0_1, .int .i64 y0_2, .int .i64 y0_3]
  | 5 => ∃ (b2_5 : Nat) (o5_0 : Value) (o5_1 : Value) (o5_2 : Value) (o5_3 : Value), val 5 = .pointer (some ⟨b2_5, 0, none⟩) ∧ G 5 = Law.boxG b2_5 35 #[o5_0, o5_1, o5_2, o5_3]
  | 6 => ∃ (b2_5 : Nat), val 5 = .pointer (some ⟨b2_5, 0, none⟩) ∧ val 4 = .agg #[.int .i64 y0_0, .int .i64 y0_1, .int .i64 y0_2, .int .i64 y0_3] ∧ G 5 = Law.boxG b2_5 35 #[.int .i64 y0_0, .int .i64 y0_1, .int .i64 y0_2, .int .i64 y0_3]
  | _ => True
def ExLedgerAdd2Dep : Nat → List Nat
  | 1 => [0] | 3 => [2] | 4 => [1, 3] | 6 => [5, 4] | _ => []
theorem ExLedgerAdd2_local (a0_0 : Int) (a0_1 : Int) (a0_2 : Int) (a0_3 : Int) (a1_0 : Int) (a1_1 : Int) (a1_2 : Int) (a1_3 : Int) (y0_0 : Int) (y0_1 : Int) (y0_2 : Int) (y0_3 : Int) : Local ExLedgerAdd2Dep (ExLedgerAdd2 a0_0 a0_1 a0_2 a0_3 a1_0 a1_1 a1_2 a1_3 y0_0 y0_1 y0_2 y0_3) := by
  intro val val' G G' j hk h
  match j with
  | 0 => exact (hk 0 (.inl rfl)).1.trans h
  | 1 => exact (hk 1 (.inl rfl)).1.trans h
  | 2 => exact (hk 2 (.inl rfl)).1.trans h
  | 3 => exact (hk 3 (.inl rfl)).1.trans h
  | 4 => exact (hk 4 (.inl rfl)).1.trans h
  | 5 => obtain ⟨b2_5, o5_0, o5_1, o5_2, o5_3, h0, h1⟩ := h; exact ⟨b2_5, o5_0, o5_1, o5_2, o5_3, (hk 5 (.inl rfl)).1.trans h0, (hk 5 (.inl rfl)).2.trans h1⟩
  | 6 => obtain ⟨b2_5, h0, h1, h2⟩ := h; exact ⟨b2_5, (hk 5 (.inr (by simp [ExLedgerAdd2Dep]))).1.trans h0, (hk 4 (.inr (by simp [ExLedgerAdd2Dep]))).1.trans h1, (hk 5 (.inr (by simp [ExLedgerAdd2Dep]))).2.trans h2⟩
  | _ + 7 => trivial
end Go.Proofs.Ytngacnckejnllaa.State
