/- The tables of the regions of the exact law of ApplyBorder that draw their order (written by wip/tools/exact.py).
   Conditions: none. -/
import Derived.Test.YtngacnckejnllaaStLedB
import Derived.Test.YtngacnckejnllaaPkReg
set_option maxRecDepth 100000
namespace Go.Proofs.Ytngacnckejnllaa.State
open Go.ChangeShapes Go.WideShapes Go.ChangeAt Go.RowKit Go.Proofs.Ytngacnckejnllaa.Cell Go.Proofs.Ytngacnckejnllaa.Mesh Go.Proofs.Ytngacnckejnllaa.Law Go.Proofs.Ytngacnckejnllaa.Ints Go.Proofs.Ytngacnckejnllaa.Draws
set_option linter.unusedVariables false

/-- What each operation leaves. -/
def ExApplyBorder5 (a0_0 : Int) (a0_1 : Option Addr) (n0_1 : Nat) (c0_1 : Nat) (a0_2 : Option Addr) (n0_2 : Nat) (c0_2 : Nat) (a0_3 : Option Addr) (n0_3 : Nat) (c0_3 : Nat) (a0_4 : Option Addr) (n0_4 : Nat) (c0_4 : Nat) (xs0 : List Mesh.C3) (ms0 : List Int) (ts0 : List Int) (bs0 : List Int) (a1_0 : Int) (a1_1 : Int) (a1_2 : Int) (R9 : Int) (m1 : Nat) (m2 : Nat) (m3 : Nat) (m4 : Nat) (ys : List Mesh.C3) (mr : List Int) (tr : List Int) (br : List Int) (y1_0 : Int) (y1_1 : Int) (y1_2 : Int) (y1_3 : Int) (val : Nat → Value) (G : Nat → Grp) : Nat → Prop
  | 0 => val 0 = .agg #[.int .i64 a0_0, .slice a0_1 n0_1 c0_1, .slice a0_2 n0_2 c0_2, .slice a0_3 n0_3 c0_3, .slice a0_4 n0_4 c0_4]
  | 1 => ∃ (x1_1 : Nat) (x1_2 : Nat) (x1_3 : Nat) (x1_4 : Nat), val 1 = .agg #[.int .i64 a0_0, .slice (some ⟨x1_1, 0, none⟩) n0_1 n0_1, .slice (some ⟨x1_2, 0, none⟩) n0_2 n0_2, .slice (some ⟨x1_3, 0, none⟩) n0_3 n0_3, .slice (some ⟨x1_4, 0, none⟩) n0_4 n0_4] ∧ G 1 = State.stateG (.slice (some ⟨x1_1, 0, none⟩) n0_1 n0_1) (.slice (some ⟨x1_2, 0, none⟩) n0_2 n0_2) (.slice (some ⟨x1_3, 0, none⟩) n0_3 n0_3) (.slice (some ⟨x1_4, 0, none⟩) n0_4 n0_4) n0_1 n0_2 n0_3 n0_4 xs0 ms0 ts0 bs0
  | 2 => val 2 = .agg #[.int .i64 a1_0, .int .i64 a1_1, .int .i64 a1_2]
  | 3 => val 3 = .agg #[.int .i64 a1_0, .int .i64 a1_1, .int .i64 a1_2]
  | 4 => ∃ (q1_1 : Option Addr) (d1_1 : Nat) (q1_2 : Option Addr) (d1_2 : Nat) (q1_3 : Option Addr) (d1_3 : Nat) (q1_4 : Option Addr) (d1_4 : Nat), val 4 = .tuple #[.agg #[.int .i64 R9, .slice q1_1 m1 d1_1, .slice q1_2 m2 d1_2, .slice q1_3 m3 d1_3, .slice q1_4 m4 d1_4], .agg #[.int .i64 y1_0, .int .i64 y1_1, .int .i64 y1_2, .int .i64 y1_3]] ∧ G 4 = State.stateG (.slice q1_1 m1 d1_1) (.slice q1_2 m2 d1_2) (.slice q1_3 m3 d1_3) (.slice q1_4 m4 d1_4) m1 m2 m3 m4 ys mr tr br
  | 5 => ∃ (q1_1 : Option Addr) (d1_1 : Nat) (q1_2 : Option Addr) (d1_2 : Nat) (q1_3 : Option Addr) (d1_3 : Nat) (q1_4 : Option Addr) (d1_4 : Nat), val 5 = .tuple #[.agg #[.int .i64 R9, .slice q1_1 m1 d1_1, .slice q1_2 m2 d1_2, .slice q1_3 m3 d1_3, .slice q1_4 m4 d1_4], .agg #[.int .i64 y1_0, .int .i64 y1_1, .int .i64 y1_2, .int .i64 y1_3]] ∧ val 4 = .tuple #[.agg #[.int .i64 R9, .slice q1_1 m1 d1_1, .slice q1_2 m2 d1_2, .slice q1_3 m3 d1_3, .slice q1_4 m4 d1_4], .agg #[.int .i64 y1_0, .int .i64 y1_1, .int .i64 y1_2, .int .i64 y1_3]]
  | 6 => ∃ (q1_1 : Option Addr) (d1_1 : Nat) (q1_2 : Option Addr) (d1_2 : Nat) (q1_3 : Option Addr) (d1_3 : Nat) (q1_4 : Option Addr) (d1_4 : Nat), val 6 = .agg #[.int .i64 R9, .slice q1_1 m1 d1_1, .slice q1_2 m2 d1_2, .slice q1_3 m3 d1_3, .slice q1_4 m4 d1_4] ∧ val 5 = .tuple #[.agg #[.int .i64 R9, .slice q1_1 m1 d1_1, .slice q1_2 m2 d1_2, .slice q1_3 m3 d1_3, .slice q1_4 m4 d1_4], .agg #[.int .i64 y1_0, .int .i64 y1_1, .int .i64 y1_2, .int .i64 y1_3]]
  | 7 => val 7 = .agg #[.int .i64 y1_0, .int .i64 y1_1, .int .i64 y1_2, .int .i64 y1_3]
  | 8 => ∃ (b1_8 : Nat) (o8_0 : Value) (o8_1 : Value) (o8_2 : Value) (o8_3 : Value) (o8_4 : Value), val 8 = .pointer (some ⟨b1_8, 0, none⟩) ∧ G 8 = Law.boxG b1_8 29 #[o8_0, o8_1, o8_2, o8_3, o8_4]
  | 9 => ∃ (b1_9 : Nat) (o9_0 : Value) (o9_1 : Value) (o9_2 : Value) (o9_3 : Value), val 9 = .pointer (some ⟨b1_9, 0, none⟩) ∧ G 9 = Law.boxG b1_9 35 #[o9_0, o9_1, o9_2, o9_3]
  | 10 => ∃ (b1_8 : Nat) (q1_1 : Option Addr) (d1_1 : Nat) (q1_2 : Option Addr) (d1_2 : Nat) (q1_3 : Option Addr) (d1_3 : Nat) (q1_4 : Option Addr) (d1_4 : Nat), val 8 = .pointer (some ⟨b1_8, 0, none⟩) ∧ val 6 = .agg #[.int .i64 R9, .slice q1_1 m1 d1_1, .slice q1_2 m2 d1_2, .slice q1_3 m3 d1_3, .slice q1_4 m4 d1_4] ∧ G 8 = Law.boxG b1_8 29 #[.int .i64 R9, .slice q1_1 m1 d1_1, .slice q1_2 m2 d1_2, .slice q1_3 m3 d1_3, .slice q1_4 m4 d1_4]
  | 11 => ∃ (b1_9 : Nat), val 9 = .pointer (some ⟨b1_9, 0, none⟩) ∧ val 7 = .agg #[.int .i64 y1_0, .int .i64 y1_1, .int .i64 y1_2, .int .i64 y1_3] ∧ G 9 = Law.boxG b1_9 35 #[.int .i64 y1_0, .int .i64 y1_1, .int .i64 y1_2, .int .i64 y1_3]
  | _ => True
def ExApplyBorder5Dep : Nat → List Nat
  | 1 => [0] | 3 => [2] | 4 => [1, 3] | 5 => [4] | 6 => [5] | 7 => [5] | 10 => [8, 6] | 11 => [9, 7] | _ => []
theorem ExApplyBorder5_local (a0_0 : Int) (a0_1 : Option Addr) (n0_1 : Nat) (c0_1 : Nat) (a0_2 : Option Addr) (n0_2 : Nat) (c0_2 : Nat) (a0_3 : Option Addr) (n0_3 : Nat) (c0_3 : Nat) (a0_4 : Option Addr) (n0_4 : Nat) (c0_4 : Nat) (xs0 : List Mesh.C3) (ms0 : List Int) (ts0 : List Int) (bs0 : List Int) (a1_0 : Int) (a1_1 : Int) (a1_2 : Int) (R9 : Int) (m1 : Nat) (m2 : Nat) (m3 : Nat) (m4 : Nat) (ys : List Mesh.C3) (mr : List Int) (tr : List Int) (br : List Int) (y1_0 : Int) (y1_1 : Int) (y1_2 : Int) (y1_3 : Int) : Local ExApplyBorder5Dep (ExApplyBorder5 a0_0 a0_1 n0_1 c0_1 a0_2 n0_2 c0_2 a0_3 n0_3 c0_3 a0_4 n0_4 c0_4 xs0 ms0 ts0 bs0 a1_0 a1_1 a1_2 R9 m1 m2 m3 m4 ys mr tr br y1_0 y1_1 y1_2 y1_3) := by
  intro val val' G G' j hk h
  match j with
  | 0 => exact (hk 0 (.inl rfl)).1.trans h
  | 1 => obtain ⟨x1_1, x1_2, x1_3, x1_4, h0, h1⟩ := h; exact ⟨x1_1, x1_2, x1_3, x1_4, (hk 1 (.inl rfl)).1.trans h0, (hk 1 (.inl rfl)).2.trans h1⟩
  | 2 => exact (hk 2 (.inl rfl)).1.trans h
  | 3 => exact (hk 3 (.inl rfl)).1.trans h
  | 4 => obtain ⟨q1_1, d1_1, q1_2, d1_2, q1_3, d1_3, q1_4, d1_4, h0, h1⟩ := h; exact ⟨q1_1, d1_1, q1_2, d1_2, q1_3, d1_3, q1_4, d1_4, (hk 4 (.inl rfl)).1.trans h0, (hk 4 (.inl rfl)).2.trans h1⟩
  | 5 => obtain ⟨q1_1, d1_1, q1_2, d1_2, q1_3, d1_3, q1_4, d1_4, h0, h1⟩ := h; exact ⟨q1_1, d1_1, q1_2, d1_2, q1_3, d1_3, q1_4, d1_4, (hk 5 (.inl rfl)).1.trans h0, (hk 4 (.inr (by simp [ExApplyBorder5Dep]))).1.trans h1⟩
  | 6 => obtain ⟨q1_1, d1_1, q1_2, d1_2, q1_3, d1_3, q1_4, d1_4, h0, h1⟩ := h; exact ⟨q1_1, d1_1, q1_2, d1_2, q1_3, d1_3, q1_4, d1_4, (hk 6 (.inl rfl)).1.trans h0, (hk 5 (.inr (by simp [ExApplyBorder5Dep]))).1.trans h1⟩
  | 7 => exact (hk 7 (.inl rfl)).1.trans h
  | 8 => obtain ⟨b1_8, o8_0, o8_1, o8_2, o8_3, o8_4, h0, h1⟩ := h; exact ⟨b1_8, o8_0, o8_1, o8_2, o8_3, o8_4, (hk 8 (.inl rfl)).1.trans h0, (hk 8 (.inl rfl)).2.trans h1⟩
  | 9 => obtain ⟨b1_9, o9_0, o9_1, o9_2, o9_3, h0, h1⟩ := h; exact ⟨b1_9, o9_0, o9_1, o9_2, o9_3, (hk 9 (.inl rfl)).1.trans h0, (hk 9 (.inl rfl)).2.trans h1⟩
  | 10 => obtain ⟨b1_8, q1_1, d1_1, q1_2, d1_2, q1_3, d1_3, q1_4, d1_4, h0, h1, h2⟩ := h; exact ⟨b1_8, q1_1, d1_1, q1_2, d1_2, q1_3, d1_3, q1_4, d1_4, (hk 8 (.inr (by simp [ExApplyBorder5Dep]))).1.trans h0, (hk 6 (.inr (by simp [ExApplyBorder5Dep]))).1.trans h1, (hk 8 (.inr (by simp [ExApplyBorder5Dep]))).2.trans h2⟩
  | 11 => obtain ⟨b1_9, h0, h1, h2⟩ := h; exact ⟨b1_9, (hk 9 (.inr (by simp [ExApplyBorder5Dep]))).1.trans h0, (hk 7 (.inr (by simp [ExApplyBorder5Dep]))).1.trans h1, (hk 9 (.inr (by simp [ExApplyBorder5Dep]))).2.trans h2⟩
  | _ + 12 => trivial

/-- What each operation leaves. -/
def ExApplyBorder7 (a0_0 : Int) (n0_1 : Nat) (n0_2 : Nat) (n0_3 : Nat) (n0_4 : Nat) (a1_0 : Int) (a1_1 : Int) (a1_2 : Int) (R9 : Int) (m1 : Nat) (m2 : Nat) (m3 : Nat) (m4 : Nat) (ys : List Mesh.C3) (mr : List Int) (tr : List Int) (br : List Int) (y1_0 : Int) (y1_1 : Int) (y1_2 : Int) (y1_3 : Int) (g2_1 : Nat) (g2_2 : Nat) (g2_3 : Nat) (g2_4 : Nat) (val : Nat → Value) (G : Nat → Grp) : Nat → Prop
  | 0 => val 0 = .agg #[.int .i64 a0_0, .slice (some ⟨g2_1, 0, none⟩) n0_1 n0_1, .slice (some ⟨g2_2, 0, none⟩) n0_2 n0_2, .slice (some ⟨g2_3, 0, none⟩) n0_3 n0_3, .slice (some ⟨g2_4, 0, none⟩) n0_4 n0_4]
  | 1 => val 1 = .agg #[.int .i64 a1_0, .int .i64 a1_1, .int .i64 a1_2]
  | 2 => val 2 = .agg #[.int .i64 a1_0, .int .i64 a1_1, .int .i64 a1_2]
  | 3 => ∃ (q4_1 : Option Addr) (d4_1 : Nat) (q4_2 : Option Addr) (d4_2 : Nat) (q4_3 : Option Addr) (d4_3 : Nat) (q4_4 : Option Addr) (d4_4 : Nat), val 3 = .tuple #[.agg #[.int .i64 R9, .slice q4_1 m1 d4_1, .slice q4_2 m2 d4_2, .slice q4_3 m3 d4_3, .slice q4_4 m4 d4_4], .agg #[.int .i64 y1_0, .int .i64 y1_1, .int .i64 y1_2, .int .i64 y1_3]] ∧ G 3 = State.stateG (.slice q4_1 m1 d4_1) (.slice q4_2 m2 d4_2) (.slice q4_3 m3 d4_3) (.slice q4_4 m4 d4_4) m1 m2 m3 m4 ys mr tr br
  | 4 => ∃ (q4_1 : Option Addr) (d4_1 : Nat) (q4_2 : Option Addr) (d4_2 : Nat) (q4_3 : Option Addr) (d4_3 : Nat) (q4_4 : Option Addr) (d4_4 : Nat), val 4 = .tuple #[.agg #[.int .i64 R9, .slice q4_1 m1 d4_1, .slice q4_2 m2 d4_2, .slice q4_3 m3 d4_3, .slice q4_4 m4 d4_4], .agg #[.int .i64 y1_0, .int .i64 y1_1, .int .i64 y1_2, .int .i64 y1_3]] ∧ val 3 = .tuple #[.agg #[.int .i64 R9, .slice q4_1 m1 d4_1, .slice q4_2 m2 d4_2, .slice q4_3 m3 d4_3, .slice q4_4 m4 d4_4], .agg #[.int .i64 y1_0, .int .i64 y1_1, .int .i64 y1_2, .int .i64 y1_3]]
  | 5 => ∃ (q4_1 : Option Addr) (d4_1 : Nat) (q4_2 : Option Addr) (d4_2 : Nat) (q4_3 : Option Addr) (d4_3 : Nat) (q4_4 : Option Addr) (d4_4 : Nat), val 5 = .agg #[.int .i64 R9, .slice q4_1 m1 d4_1, .slice q4_2 m2 d4_2, .slice q4_3 m3 d4_3, .slice q4_4 m4 d4_4] ∧ val 4 = .tuple #[.agg #[.int .i64 R9, .slice q4_1 m1 d4_1, .slice q4_2 m2 d4_2, .slice q4_3 m3 d4_3, .slice q4_4 m4 d4_4], .agg #[.int .i64 y1_0, .int .i64 y1_1, .int .i64 y1_2, .int .i64 y1_3]]
  | 6 => val 6 = .agg #[.int .i64 y1_0, .int .i64 y1_1, .int .i64 y1_2, .int .i64 y1_3]
  | 7 => ∃ (b4_7 : Nat) (o7_0 : Value) (o7_1 : Value) (o7_2 : Value) (o7_3 : Value) (o7_4 : Value), val 7 = .pointer (some ⟨b4_7, 0, none⟩) ∧ G 7 = Law.boxG b4_7 29 #[o7_0, o7_1, o7_2, o7_3, o7_4]
  | 8 => ∃ (b4_8 : Nat) (o8_0 : Value) (o8_1 : Value) (o8_2 : Value) (o8_3 : Value), val 8 = .pointer (some ⟨b4_8, 0, none⟩) ∧ G 8 = Law.boxG b4_8 35 #[o8_0, o8_1, o8_2, o8_3]
  | 9 => ∃ (b4_7 : Nat) (q4_1 : Option Addr) (d4_1 : Nat) (q4_2 : Option Addr) (d4_2 : Nat) (q4_3 : Option Addr) (d4_3 : Nat) (q4_4 : Option Addr) (d4_4 : Nat), val 7 = .pointer (some ⟨b4_7, 0, none⟩) ∧ val 5 = .agg #[.int .i64 R9, .slice q4_1 m1 d4_1, .slice q4_2 m2 d4_2, .slice q4_3 m3 d4_3, .slice q4_4 m4 d4_4] ∧ G 7 = Law.boxG b4_7 29 #[.int .i64 R9, .slice q4_1 m1 d4_1, .slice q4_2 m2 d4_2, .slice q4_3 m3 d4_3, .slice q4_4 m4 d4_4]
  | 10 => ∃ (b4_8 : Nat), val 8 = .pointer (some ⟨b4_8, 0, none⟩) ∧ val 6 = .agg #[.int .i64 y1_0, .int .i64 y1_1, .int .i64 y1_2, .int .i64 y1_3] ∧ G 8 = Law.boxG b4_8 35 #[.int .i64 y1_0, .int .i64 y1_1, .int .i64 y1_2, .int .i64 y1_3]
  | _ => True
def ExApplyBorder7Dep : Nat → List Nat
  | 2 => [1] | 3 => [0, 2] | 4 => [3] | 5 => [4] | 6 => [4] | 9 => [7, 5] | 10 => [8, 6] | _ => []
theorem ExApplyBorder7_local (a0_0 : Int) (n0_1 : Nat) (n0_2 : Nat) (n0_3 : Nat) (n0_4 : Nat) (a1_0 : Int) (a1_1 : Int) (a1_2 : Int) (R9 : Int) (m1 : Nat) (m2 : Nat) (m3 : Nat) (m4 : Nat) (ys : List Mesh.C3) (mr : List Int) (tr : List Int) (br : List Int) (y1_0 : Int) (y1_1 : Int) (y1_2 : Int) (y1_3 : Int) (g2_1 : Nat) (g2_2 : Nat) (g2_3 : Nat) (g2_4 : Nat) : Local ExApplyBorder7Dep (ExApplyBorder7 a0_0 n0_1 n0_2 n0_3 n0_4 a1_0 a1_1 a1_2 R9 m1 m2 m3 m4 ys mr tr br y1_0 y1_1 y1_2 y1_3 g2_1 g2_2 g2_3 g2_4) := by
  intro val val' G G' j hk h
  match j with
  | 0 => exact (hk 0 (.inl rfl)).1.trans h
  | 1 => exact (hk 1 (.inl rfl)).1.trans h
  | 2 => exact (hk 2 (.inl rfl)).1.trans h
  | 3 => obtain ⟨q4_1, d4_1, q4_2, d4_2, q4_3, d4_3, q4_4, d4_4, h0, h1⟩ := h; exact ⟨q4_1, d4_1, q4_2, d4_2, q4_3, d4_3, q4_4, d4_4, (hk 3 (.inl rfl)).1.trans h0, (hk 3 (.inl rfl)).2.trans h1⟩
  | 4 => obtain ⟨q4_1, d4_1, q4_2, d4_2, q4_3, d4_3, q4_4, d4_4, h0, h1⟩ := h; exact ⟨q4_1, d4_1, q4_2, d4_2, q4_3, d4_3, q4_4, d4_4, (hk 4 (.inl rfl)).1.trans h0, (hk 3 (.inr (by simp [ExApplyBorder7Dep]))).1.trans h1⟩
  | 5 => obtain ⟨q4_1, d4_1, q4_2, d4_2, q4_3, d4_3, q4_4, d4_4, h0, h1⟩ := h; exact ⟨q4_1, d4_1, q4_2, d4_2, q4_3, d4_3, q4_4, d4_4, (hk 5 (.inl rfl)).1.trans h0, (hk 4 (.inr (by simp [ExApplyBorder7Dep]))).1.trans h1⟩
  | 6 => exact (hk 6 (.inl rfl)).1.trans h
  | 7 => obtain ⟨b4_7, o7_0, o7_1, o7_2, o7_3, o7_4, h0, h1⟩ := h; exact ⟨b4_7, o7_0, o7_1, o7_2, o7_3, o7_4, (hk 7 (.inl rfl)).1.trans h0, (hk 7 (.inl rfl)).2.trans h1⟩
  | 8 => obtain ⟨b4_8, o8_0, o8_1, o8_2, o8_3, h0, h1⟩ := h; exact ⟨b4_8, o8_0, o8_1, o8_2, o8_3, (hk 8 (.inl rfl)).1.trans h0, (hk 8 (.inl rfl)).2.trans h1⟩
  | 9 => obtain ⟨b4_7, q4_1, d4_1, q4_2, d4_2, q4_3, d4_3, q4_4, d4_4, h0, h1, h2⟩ := h; exact ⟨b4_7, q4_1, d4_1, q4_2, d4_2, q4_3, d4_3, q4_4, d4_4, (hk 7 (.inr (by simp [ExApplyBorder7Dep]))).1.trans h0, (hk 5 (.inr (by simp [ExApplyBorder7Dep]))).1.trans h1, (hk 7 (.inr (by simp [ExApplyBorder7Dep]))).2.trans h2⟩
  | 10 => obtain ⟨b4_8, h0, h1, h2⟩ := h; exact ⟨b4_8, (hk 8 (.inr (by simp [ExApplyBorder7Dep]))).1.trans h0, (hk 6 (.inr (by simp [ExApplyBorder7Dep]))).1.trans h1, (hk 8 (.inr (by simp [ExApplyBorder7Dep]))).2.trans h2⟩
  | _ + 11 => trivial

/-- What each operation leaves. -/
def ExApplyBorder24 (a0_0 : Int) (a0_1 : Option Addr) (n0_1 : Nat) (c0_1 : Nat) (a0_2 : Option Addr) (n0_2 : Nat) (c0_2 : Nat) (a0_3 : Option Addr) (n0_3 : Nat) (c0_3 : Nat) (a0_4 : Option Addr) (n0_4 : Nat) (c0_4 : Nat) (xs0 : List Mesh.C3) (ms0 : List Int) (ts0 : List Int) (bs0 : List Int) (a1_0 : Int) (a1_1 : Int) (a1_2 : Int) (R9 : Int) (m1 : Nat) (m2 : Nat) (m3 : Nat) (m4 : Nat) (ys : List Mesh.C3) (mr : List Int) (tr : List Int) (br : List Int) (y1_0 : Int) (y1_1 : Int) (y1_2 : Int) (y1_3 : Int) (x1_1 : Nat) (x1_2 : Nat) (x1_3 : Nat) (x1_4 : Nat) (val : Nat → Value) (G : Nat → Grp) : Nat → Prop
  | 0 => val 0 = .agg #[.int .i64 a0_0, .slice a0_1 n0_1 c0_1, .slice a0_2 n0_2 c0_2, .slice a0_3 n0_3 c0_3, .slice a0_4 n0_4 c0_4]
  | 1 => ∃ (x1_1 : Nat) (x1_2 : Nat) (x1_3 : Nat) (x1_4 : Nat), val 1 = .agg #[.int .i64 a0_0, .slice (some ⟨x1_1, 0, none⟩) n0_1 n0_1, .slice (some ⟨x1_2, 0, none⟩) n0_2 n0_2, .slice (some ⟨x1_3, 0, none⟩) n0_3 n0_3, .slice (some ⟨x1_4, 0, none⟩) n0_4 n0_4] ∧ G 1 = State.stateG (.slice (some ⟨x1_1, 0, none⟩) n0_1 n0_1) (.slice (some ⟨x1_2, 0, none⟩) n0_2 n0_2) (.slice (some ⟨x1_3, 0, none⟩) n0_3 n0_3) (.slice (some ⟨x1_4, 0, none⟩) n0_4 n0_4) n0_1 n0_2 n0_3 n0_4 xs0 ms0 ts0 bs0
  | 2 => val 2 = .agg #[.int .i64 a1_0, .int .i64 a1_1, .int .i64 a1_2]
  | 3 => val 3 = .agg #[.int .i64 a1_0, .int .i64 a1_1, .int .i64 a1_2]
  | 4 => ∃ (q14_1 : Option Addr) (d14_1 : Nat) (q14_2 : Option Addr) (d14_2 : Nat) (q14_3 : Option Addr) (d14_3 : Nat) (q14_4 : Option Addr) (d14_4 : Nat), val 4 = .tuple #[.agg #[.int .i64 R9, .slice q14_1 m1 d14_1, .slice q14_2 m2 d14_2, .slice q14_3 m3 d14_3, .slice q14_4 m4 d14_4], .agg #[.int .i64 y1_0, .int .i64 y1_1, .int .i64 y1_2, .int .i64 y1_3]] ∧ G 4 = State.stateG (.slice q14_1 m1 d14_1) (.slice q14_2 m2 d14_2) (.slice q14_3 m3 d14_3) (.slice q14_4 m4 d14_4) m1 m2 m3 m4 ys mr tr br
  | 5 => ∃ (q14_1 : Option Addr) (d14_1 : Nat) (q14_2 : Option Addr) (d14_2 : Nat) (q14_3 : Option Addr) (d14_3 : Nat) (q14_4 : Option Addr) (d14_4 : Nat), val 5 = .tuple #[.agg #[.int .i64 R9, .slice q14_1 m1 d14_1, .slice q14_2 m2 d14_2, .slice q14_3 m3 d14_3, .slice q14_4 m4 d14_4], .agg #[.int .i64 y1_0, .int .i64 y1_1, .int .i64 y1_2, .int .i64 y1_3]] ∧ val 4 = .tuple #[.agg #[.int .i64 R9, .slice q14_1 m1 d14_1, .slice q14_2 m2 d14_2, .slice q14_3 m3 d14_3, .slice q14_4 m4 d14_4], .agg #[.int .i64 y1_0, .int .i64 y1_1, .int .i64 y1_2, .int .i64 y1_3]]
  | 6 => ∃ (q14_1 : Option Addr) (d14_1 : Nat) (q14_2 : Option Addr) (d14_2 : Nat) (q14_3 : Option Addr) (d14_3 : Nat) (q14_4 : Option Addr) (d14_4 : Nat), val 6 = .agg #[.int .i64 R9, .slice q14_1 m1 d14_1, .slice q14_2 m2 d14_2, .slice q14_3 m3 d14_3, .slice q14_4 m4 d14_4] ∧ val 5 = .tuple #[.agg #[.int .i64 R9, .slice q14_1 m1 d14_1, .slice q14_2 m2 d14_2, .slice q14_3 m3 d14_3, .slice q14_4 m4 d14_4], .agg #[.int .i64 y1_0, .int .i64 y1_1, .int .i64 y1_2, .int .i64 y1_3]]
  | 7 => val 7 = .agg #[.int .i64 y1_0, .int .i64 y1_1, .int .i64 y1_2, .int .i64 y1_3]
  | 8 => ∃ (b14_8 : Nat) (o8_0 : Value) (o8_1 : Value) (o8_2 : Value) (o8_3 : Value) (o8_4 : Value), val 8 = .pointer (some ⟨b14_8, 0, none⟩) ∧ G 8 = Law.boxG b14_8 29 #[o8_0, o8_1, o8_2, o8_3, o8_4]
  | 9 => ∃ (b14_9 : Nat) (o9_0 : Value) (o9_1 : Value) (o9_2 : Value) (o9_3 : Value), val 9 = .pointer (some ⟨b14_9, 0, none⟩) ∧ G 9 = Law.boxG b14_9 35 #[o9_0, o9_1, o9_2, o9_3]
  | 10 => ∃ (b14_8 : Nat) (q14_1 : Option Addr) (d14_1 : Nat) (q14_2 : Option Addr) (d14_2 : Nat) (q14_3 : Option Addr) (d14_3 : Nat) (q14_4 : Option Addr) (d14_4 : Nat), val 8 = .pointer (some ⟨b14_8, 0, none⟩) ∧ val 6 = .agg #[.int .i64 R9, .slice q14_1 m1 d14_1, .slice q14_2 m2 d14_2, .slice q14_3 m3 d14_3, .slice q14_4 m4 d14_4] ∧ G 8 = Law.boxG b14_8 29 #[.int .i64 R9, .slice q14_1 m1 d14_1, .slice q14_2 m2 d14_2, .slice q14_3 m3 d14_3, .slice q14_4 m4 d14_4]
  | 11 => ∃ (b14_9 : Nat), val 9 = .pointer (some ⟨b14_9, 0, none⟩) ∧ val 7 = .agg #[.int .i64 y1_0, .int .i64 y1_1, .int .i64 y1_2, .int .i64 y1_3] ∧ G 9 = Law.boxG b14_9 35 #[.int .i64 y1_0, .int .i64 y1_1, .int .i64 y1_2, .int .i64 y1_3]
  | _ => True
def ExApplyBorder24Dep : Nat → List Nat
  | 1 => [0] | 3 => [2] | 4 => [1, 3] | 5 => [4] | 6 => [5] | 7 => [5] | 10 => [8, 6] | 11 => [9, 7] | _ => []
theorem ExApplyBorder24_local (a0_0 : Int) (a0_1 : Option Addr) (n0_1 : Nat) (c0_1 : Nat) (a0_2 : Option Addr) (n0_2 : Nat) (c0_2 : Nat) (a0_3 : Option Addr) (n0_3 : Nat) (c0_3 : Nat) (a0_4 : Option Addr) (n0_4 : Nat) (c0_4 : Nat) (xs0 : List Mesh.C3) (ms0 : List Int) (ts0 : List Int) (bs0 : List Int) (a1_0 : Int) (a1_1 : Int) (a1_2 : Int) (R9 : Int) (m1 : Nat) (m2 : Nat) (m3 : Nat) (m4 : Nat) (ys : List Mesh.C3) (mr : List Int) (tr : List Int) (br : List Int) (y1_0 : Int) (y1_1 : Int) (y1_2 : Int) (y1_3 : Int) (x1_1 : Nat) (x1_2 : Nat) (x1_3 : Nat) (x1_4 : Nat) : Local ExApplyBorder24Dep (ExApplyBorder24 a0_0 a0_1 n0_1 c0_1 a0_2 n0_2 c0_2 a0_3 n0_3 c0_3 a0_4 n0_4 c0_4 xs0 ms0 ts0 bs0 a1_0 a1_1 a1_2 R9 m1 m2 m3 m4 ys mr tr br y1_0 y1_1 y1_2 y1_3 x1_1 x1_2 x1_3 x1_4) := by
  intro val val' G G' j hk h
  match j with
  | 0 => exact (hk 0 (.inl rfl)).1.trans h
  | 1 => obtain ⟨x1_1, x1_2, x1_3, x1_4, h0, h1⟩ := h; exact ⟨x1_1, x1_2, x1_3, x1_4, (hk 1 (.inl rfl)).1.trans h0, (hk 1 (.inl rfl)).2.trans h1⟩
  | 2 => exact (hk 2 (.inl rfl)).1.trans h
  | 3 => exact (hk 3 (.inl rfl)).1.trans h
  | 4 => obtain ⟨q14_1, d14_1, q14_2, d14_2, q14_3, d14_3, q14_4, d14_4, h0, h1⟩ := h; exact ⟨q14_1, d14_1, q14_2, d14_2, q14_3, d14_3, q14_4, d14_4, (hk 4 (.inl rfl)).1.trans h0, (hk 4 (.inl rfl)).2.trans h1⟩
  | 5 => obtain ⟨q14_1, d14_1, q14_2, d14_2, q14_3, d14_3, q14_4, d14_4, h0, h1⟩ := h; exact ⟨q14_1, d14_1, q14_2, d14_2, q14_3, d14_3, q14_4, d14_4, (hk 5 (.inl rfl)).1.trans h0, (hk 4 (.inr (by simp [ExApplyBorder24Dep]))).1.trans h1⟩
  | 6 => obtain ⟨q14_1, d14_1, q14_2, d14_2, q14_3, d14_3, q14_4, d14_4, h0, h1⟩ := h; exact ⟨q14_1, d14_1, q14_2, d14_2, q14_3, d14_3, q14_4, d14_4, (hk 6 (.inl rfl)).1.trans h0, (hk 5 (.inr (by simp [ExApplyBorder24Dep]))).1.trans h1⟩
  | 7 => exact (hk 7 (.inl rfl)).1.trans h
  | 8 => obtain ⟨b14_8, o8_0, o8_1, o8_2, o8_3, o8_4, h0, h1⟩ := h; exact ⟨b14_8, o8_0, o8_1, o8_2, o8_3, o8_4, (hk 8 (.inl rfl)).1.trans h0, (hk 8 (.inl rfl)).2.trans h1⟩
  | 9 => obtain ⟨b14_9, o9_0, o9_1, o9_2, o9_3, h0, h1⟩ := h; exact ⟨b14_9, o9_0, o9_1, o9_2, o9_3, (hk 9 (.inl rfl)).1.trans h0, (hk 9 (.inl rfl)).2.trans h1⟩
  | 10 => obtain ⟨b14_8, q14_1, d14_1, q14_2, d14_2, q14_3, d14_3, q14_4, d14_4, h0, h1, h2⟩ := h; exact ⟨b14_8, q14_1, d14_1, q14_2, d14_2, q14_3, d14_3, q14_4, d14_4, (hk 8 (.inr (by simp [ExApplyBorder24Dep]))).1.trans h0, (hk 6 (.inr (by simp [ExApplyBorder24Dep]))).1.trans h1, (hk 8 (.inr (by simp [ExApplyBorder24Dep]))).2.trans h2⟩
  | 11 => obtain ⟨b14_9, h0, h1, h2⟩ := h; exact ⟨b14_9, (hk 9 (.inr (by simp [ExApplyBorder24Dep]))).1.trans h0, (hk 7 (.inr (by simp [ExApplyBorder24Dep]))).1.trans h1, (hk 9 (.inr (by simp [ExApplyBorder24Dep]))).2.trans h2⟩
  | _ + 12 => trivial
end Go.Proofs.Ytngacnckejnllaa.State
