/- Rain and losses: the tables of the regions of the laws of chapter 14 that draw their order (written by wip/tools/fnrain.py).
   Conditions: none. -/
import Derived.Test.YtmbmeajneankpaaStPutL
import Derived.Test.YtmbmeajneankpaaStLedK
import Derived.Test.YtmbmeajneankpaaPkReg
set_option maxRecDepth 100000
namespace Go.Proofs.Ytmbmeajneankpaa.State
open Go.ChangeShapes Go.WideShapes Go.ChangeAt Go.RowKit Go.Proofs.Ytmbmeajneankpaa.Cell Go.Proofs.Ytmbmeajneankpaa.Mesh Go.Proofs.Ytmbmeajneankpaa.Law Go.Proofs.Ytmbmeajneankpaa.Ints Go.Proofs.Ytmbmeajneankpaa.Draws
set_option linter.unusedVariables false

/-- What each operation leaves. -/
def RainG (R p0 p1 p2 : Int) (g1 g2 g3 g4 n1 n2 c1 c2 c3 c4 B3 gp cp : Nat) (xs : List Mesh.C3) (bs : List Int) (mx ts : List Int) (rl : Int) (val : Nat → Value) (G : Nat → Grp) : Nat → Prop
  | 0 => val 0 = .agg #[.int .i64 R, .slice (some ⟨g1, 0, none⟩) n1 c1, .slice (some ⟨g2, 0, none⟩) n1 c2, .slice (some ⟨g3, 0, none⟩) n1 c3, .slice (some ⟨g4, 0, none⟩) n2 c4]
  | 1 => val 1 = .slice (some ⟨gp, 0, none⟩) 12 cp
  | 2 => val 2 = .pointer (some ⟨gp, 0, none⟩)
  | 3 => val 3 = .int .i64 p0
  | 4 => ∃ (q1 : Option Addr) (d1 : Nat) (q2 : Option Addr) (d2 : Nat) (q3 : Option Addr) (d3 : Nat) (q4 : Option Addr) (d4 : Nat), val 4 = .tuple #[.agg #[.int .i64 R, .slice q1 n1 d1, .slice q2 n1 d2, .slice q3 n1 d3, .slice q4 n2 d4], .agg #[.int .i64 rl, .int .i64 0, .int .i64 0, .int .i64 0]] ∧ G 4 = State.stateG (.slice q1 n1 d1) (.slice q2 n1 d2) (.slice q3 n1 d3) (.slice q4 n2 d4) n1 n1 n1 n2 xs mx ts bs
  | 5 => ∃ (q1 : Option Addr) (d1 : Nat) (q2 : Option Addr) (d2 : Nat) (q3 : Option Addr) (d3 : Nat) (q4 : Option Addr) (d4 : Nat), val 5 = .tuple #[.agg #[.int .i64 R, .slice q1 n1 d1, .slice q2 n1 d2, .slice q3 n1 d3, .slice q4 n2 d4], .agg #[.int .i64 rl, .int .i64 0, .int .i64 0, .int .i64 0]] ∧ val 4 = .tuple #[.agg #[.int .i64 R, .slice q1 n1 d1, .slice q2 n1 d2, .slice q3 n1 d3, .slice q4 n2 d4], .agg #[.int .i64 rl, .int .i64 0, .int .i64 0, .int .i64 0]]
  | 6 => ∃ (q1 : Option Addr) (d1 : Nat) (q2 : Option Addr) (d2 : Nat) (q3 : Option Addr) (d3 : Nat) (q4 : Option Addr) (d4 : Nat), val 6 = .agg #[.int .i64 R, .slice q1 n1 d1, .slice q2 n1 d2, .slice q3 n1 d3, .slice q4 n2 d4] ∧ val 5 = .tuple #[.agg #[.int .i64 R, .slice q1 n1 d1, .slice q2 n1 d2, .slice q3 n1 d3, .slice q4 n2 d4], .agg #[.int .i64 rl, .int .i64 0, .int .i64 0, .int .i64 0]]
  | 7 => val 7 = .agg #[.int .i64 rl, .int .i64 0, .int .i64 0, .int .i64 0]
  | 8 => ∃ (B5 : Nat) (o8_0 : Value) (o8_1 : Value) (o8_2 : Value) (o8_3 : Value) (o8_4 : Value), val 8 = .pointer (some ⟨B5, 0, none⟩) ∧ G 8 = Law.boxG B5 29 #[o8_0, o8_1, o8_2, o8_3, o8_4]
  | 9 => ∃ (B6 : Nat) (o9_0 : Value) (o9_1 : Value) (o9_2 : Value) (o9_3 : Value), val 9 = .pointer (some ⟨B6, 0, none⟩) ∧ G 9 = Law.boxG B6 33 #[o9_0, o9_1, o9_2, o9_3]
  | 10 => ∃ (B5 : Nat) (q1 : Option Addr) (d1 : Nat) (q2 : Option Addr) (d2 : Nat) (q3 : Option Addr) (d3 : Nat) (q4 : Option Addr) (d4 : Nat), val 8 = .pointer (some ⟨B5, 0, none⟩) ∧ val 6 = .agg #[.int .i64 R, .slice q1 n1 d1, .slice q2 n1 d2, .slice q3 n1 d3, .slice q4 n2 d4] ∧ G 8 = Law.boxG B5 29 #[.int .i64 R, .slice q1 n1 d1, .slice q2 n1 d2, .slice q3 n1 d3, .slice q4 n2 d4]
  | 11 => ∃ (B6 : Nat), val 9 = .pointer (some ⟨B6, 0, none⟩) ∧ val 7 = .agg #[.int .i64 rl, .int .i64 0, .int .i64 0, .int .i64 0] ∧ G 9 = Law.boxG B6 33 #[.int .i64 rl, .int .i64 0, .int .i64 0, .int .i64 0]
  | _ => True
def RainGDep : Nat → List Nat
  | 2 => [1] | 3 => [2] | 4 => [0, 3] | 5 => [4] | 6 => [5] | 7 => [5] | 10 => [8, 6] | 11 => [9, 7] | _ => []
theorem RainG_local (R p0 p1 p2 : Int) (g1 g2 g3 g4 n1 n2 c1 c2 c3 c4 B3 gp cp : Nat) (xs : List Mesh.C3) (bs : List Int) (mx ts : List Int) (rl : Int) : Local RainGDep (RainG R p0 p1 p2 g1 g2 g3 g4 n1 n2 c1 c2 c3 c4 B3 gp cp xs bs mx ts rl) := by
  intro val val' G G' j hk h
  match j with
  | 0 => exact (hk 0 (.inl rfl)).1.trans h
  | 1 => exact (hk 1 (.inl rfl)).1.trans h
  | 2 => exact (hk 2 (.inl rfl)).1.trans h
  | 3 => exact (hk 3 (.inl rfl)).1.trans h
  | 4 => obtain ⟨q1, d1, q2, d2, q3, d3, q4, d4, h0, h1⟩ := h; exact ⟨q1, d1, q2, d2, q3, d3, q4, d4, (hk 4 (.inl rfl)).1.trans h0, (hk 4 (.inl rfl)).2.trans h1⟩
  | 5 => obtain ⟨q1, d1, q2, d2, q3, d3, q4, d4, h0, h1⟩ := h; exact ⟨q1, d1, q2, d2, q3, d3, q4, d4, (hk 5 (.inl rfl)).1.trans h0, (hk 4 (.inr (by simp [RainGDep]))).1.trans h1⟩
  | 6 => obtain ⟨q1, d1, q2, d2, q3, d3, q4, d4, h0, h1⟩ := h; exact ⟨q1, d1, q2, d2, q3, d3, q4, d4, (hk 6 (.inl rfl)).1.trans h0, (hk 5 (.inr (by simp [RainGDep]))).1.trans h1⟩
  | 7 => exact (hk 7 (.inl rfl)).1.trans h
  | 8 => obtain ⟨B5, o8_0, o8_1, o8_2, o8_3, o8_4, h0, h1⟩ := h; exact ⟨B5, o8_0, o8_1, o8_2, o8_3, o8_4, (hk 8 (.inl rfl)).1.trans h0, (hk 8 (.inl rfl)).2.trans h1⟩
  | 9 => obtain ⟨B6, o9_0, o9_1, o9_2, o9_3, h0, h1⟩ := h; exact ⟨B6, o9_0, o9_1, o9_2, o9_3, (hk 9 (.inl rfl)).1.trans h0, (hk 9 (.inl rfl)).2.trans h1⟩
  | 10 => obtain ⟨B5, q1, d1, q2, d2, q3, d3, q4, d4, h0, h1, h2⟩ := h; exact ⟨B5, q1, d1, q2, d2, q3, d3, q4, d4, (hk 8 (.inr (by simp [RainGDep]))).1.trans h0, (hk 6 (.inr (by simp [RainGDep]))).1.trans h1, (hk 8 (.inr (by simp [RainGDep]))).2.trans h2⟩
  | 11 => obtain ⟨B6, h0, h1, h2⟩ := h; exact ⟨B6, (hk 9 (.inr (by simp [RainGDep]))).1.trans h0, (hk 7 (.inr (by simp [RainGDep]))).1.trans h1, (hk 9 (.inr (by simp [RainGDep]))).2.trans h2⟩
  | _ + 12 => trivial

/-- What each operation leaves. -/
def SoakG (R p0 p1 p2 : Int) (g1 g2 g3 g4 n1 n2 c1 c2 c3 c4 B3 gp cp : Nat) (xs : List Mesh.C3) (bs : List Int) (q1 : Option Addr) (d1 : Nat) (q2 : Option Addr) (d2 : Nat) (q3 : Option Addr) (d3 : Nat) (q4 : Option Addr) (d4 B5 B6 : Nat) (my ty : List Int) (m1 m3 : Int) (val : Nat → Value) (G : Nat → Grp) : Nat → Prop
  | 0 => val 0 = .agg #[.int .i64 R, .slice q1 n1 d1, .slice q2 n1 d2, .slice q3 n1 d3, .slice q4 n2 d4]
  | 1 => val 1 = .slice (some ⟨gp, 0, none⟩) 12 cp
  | 2 => val 2 = .pointer (some ⟨gp, 1, none⟩)
  | 3 => val 3 = .int .i64 p1
  | 4 => ∃ (s1 : Option Addr) (j1 : Nat) (s2 : Option Addr) (j2 : Nat) (s3 : Option Addr) (j3 : Nat) (s4 : Option Addr) (j4 : Nat), val 4 = .tuple #[.agg #[.int .i64 R, .slice s1 n1 j1, .slice s2 n1 j2, .slice s3 n1 j3, .slice s4 n2 j4], .agg #[.int .i64 0, .int .i64 m1, .int .i64 0, .int .i64 m3]] ∧ G 4 = State.stateG (.slice s1 n1 j1) (.slice s2 n1 j2) (.slice s3 n1 j3) (.slice s4 n2 j4) n1 n1 n1 n2 xs my ty bs
  | 5 => ∃ (s1 : Option Addr) (j1 : Nat) (s2 : Option Addr) (j2 : Nat) (s3 : Option Addr) (j3 : Nat) (s4 : Option Addr) (j4 : Nat), val 5 = .tuple #[.agg #[.int .i64 R, .slice s1 n1 j1, .slice s2 n1 j2, .slice s3 n1 j3, .slice s4 n2 j4], .agg #[.int .i64 0, .int .i64 m1, .int .i64 0, .int .i64 m3]] ∧ val 4 = .tuple #[.agg #[.int .i64 R, .slice s1 n1 j1, .slice s2 n1 j2, .slice s3 n1 j3, .slice s4 n2 j4], .agg #[.int .i64 0, .int .i64 m1, .int .i64 0, .int .i64 m3]]
  | 6 => ∃ (s1 : Option Addr) (j1 : Nat) (s2 : Option Addr) (j2 : Nat) (s3 : Option Addr) (j3 : Nat) (s4 : Option Addr) (j4 : Nat), val 6 = .agg #[.int .i64 R, .slice s1 n1 j1, .slice s2 n1 j2, .slice s3 n1 j3, .slice s4 n2 j4] ∧ val 5 = .tuple #[.agg #[.int .i64 R, .slice s1 n1 j1, .slice s2 n1 j2, .slice s3 n1 j3, .slice s4 n2 j4], .agg #[.int .i64 0, .int .i64 m1, .int .i64 0, .int .i64 m3]]
  | 7 => val 7 = .agg #[.int .i64 0, .int .i64 m1, .int .i64 0, .int .i64 m3]
  | 8 => ∃ (B7 : Nat) (o8_0 : Value) (o8_1 : Value) (o8_2 : Value) (o8_3 : Value) (o8_4 : Value), val 8 = .pointer (some ⟨B7, 0, none⟩) ∧ G 8 = Law.boxG B7 29 #[o8_0, o8_1, o8_2, o8_3, o8_4]
  | 9 => ∃ (B8 : Nat) (o9_0 : Value) (o9_1 : Value) (o9_2 : Value) (o9_3 : Value), val 9 = .pointer (some ⟨B8, 0, none⟩) ∧ G 9 = Law.boxG B8 33 #[o9_0, o9_1, o9_2, o9_3]
  | 10 => ∃ (B7 : Nat) (s1 : Option Addr) (j1 : Nat) (s2 : Option Addr) (j2 : Nat) (s3 : Option Addr) (j3 : Nat) (s4 : Option Addr) (j4 : Nat), val 8 = .pointer (some ⟨B7, 0, none⟩) ∧ val 6 = .agg #[.int .i64 R, .slice s1 n1 j1, .slice s2 n1 j2, .slice s3 n1 j3, .slice s4 n2 j4] ∧ G 8 = Law.boxG B7 29 #[.int .i64 R, .slice s1 n1 j1, .slice s2 n1 j2, .slice s3 n1 j3, .slice s4 n2 j4]
  | 11 => ∃ (B8 : Nat), val 9 = .pointer (some ⟨B8, 0, none⟩) ∧ val 7 = .agg #[.int .i64 0, .int .i64 m1, .int .i64 0, .int .i64 m3] ∧ G 9 = Law.boxG B8 33 #[.int .i64 0, .int .i64 m1, .int .i64 0, .int .i64 m3]
  | _ => True
def SoakGDep : Nat → List Nat
  | 2 => [1] | 3 => [2] | 4 => [0, 3] | 5 => [4] | 6 => [5] | 7 => [5] | 10 => [8, 6] | 11 => [9, 7] | _ => []
theorem SoakG_local (R p0 p1 p2 : Int) (g1 g2 g3 g4 n1 n2 c1 c2 c3 c4 B3 gp cp : Nat) (xs : List Mesh.C3) (bs : List Int) (q1 : Option Addr) (d1 : Nat) (q2 : Option Addr) (d2 : Nat) (q3 : Option Addr) (d3 : Nat) (q4 : Option Addr) (d4 B5 B6 : Nat) (my ty : List Int) (m1 m3 : Int) : Local SoakGDep (SoakG R p0 p1 p2 g1 g2 g3 g4 n1 n2 c1 c2 c3 c4 B3 gp cp xs bs q1 d1 q2 d2 q3 d3 q4 d4 B5 B6 my ty m1 m3) := by
  intro val val' G G' j hk h
  match j with
  | 0 => exact (hk 0 (.inl rfl)).1.trans h
  | 1 => exact (hk 1 (.inl rfl)).1.trans h
  | 2 => exact (hk 2 (.inl rfl)).1.trans h
  | 3 => exact (hk 3 (.inl rfl)).1.trans h
  | 4 => obtain ⟨s1, j1, s2, j2, s3, j3, s4, j4, h0, h1⟩ := h; exact ⟨s1, j1, s2, j2, s3, j3, s4, j4, (hk 4 (.inl rfl)).1.trans h0, (hk 4 (.inl rfl)).2.trans h1⟩
  | 5 => obtain ⟨s1, j1, s2, j2, s3, j3, s4, j4, h0, h1⟩ := h; exact ⟨s1, j1, s2, j2, s3, j3, s4, j4, (hk 5 (.inl rfl)).1.trans h0, (hk 4 (.inr (by simp [SoakGDep]))).1.trans h1⟩
  | 6 => obtain ⟨s1, j1, s2, j2, s3, j3, s4, j4, h0, h1⟩ := h; exact ⟨s1, j1, s2, j2, s3, j3, s4, j4, (hk 6 (.inl rfl)).1.trans h0, (hk 5 (.inr (by simp [SoakGDep]))).1.trans h1⟩
  | 7 => exact (hk 7 (.inl rfl)).1.trans h
  | 8 => obtain ⟨B7, o8_0, o8_1, o8_2, o8_3, o8_4, h0, h1⟩ := h; exact ⟨B7, o8_0, o8_1, o8_2, o8_3, o8_4, (hk 8 (.inl rfl)).1.trans h0, (hk 8 (.inl rfl)).2.trans h1⟩
  | 9 => obtain ⟨B8, o9_0, o9_1, o9_2, o9_3, h0, h1⟩ := h; exact ⟨B8, o9_0, o9_1, o9_2, o9_3, (hk 9 (.inl rfl)).1.trans h0, (hk 9 (.inl rfl)).2.trans h1⟩
  | 10 => obtain ⟨B7, s1, j1, s2, j2, s3, j3, s4, j4, h0, h1, h2⟩ := h; exact ⟨B7, s1, j1, s2, j2, s3, j3, s4, j4, (hk 8 (.inr (by simp [SoakGDep]))).1.trans h0, (hk 6 (.inr (by simp [SoakGDep]))).1.trans h1, (hk 8 (.inr (by simp [SoakGDep]))).2.trans h2⟩
  | 11 => obtain ⟨B8, h0, h1, h2⟩ := h; exact ⟨B8, (hk 9 (.inr (by simp [SoakGDep]))).1.trans h0, (hk 7 (.inr (by simp [SoakGDep]))).1.trans h1, (hk 9 (.inr (by simp [SoakGDep]))).2.trans h2⟩
  | _ + 12 => trivial

/-- What each operation leaves. -/
def HoldG (R rl m1 m3 Y : Int) (g1 g2 g3 g4 n1 n2 c1 c2 c3 c4 B3 B5 B6 B7 B8 : Nat) (q1 q2 q3 q4 s1 s2 s3 s4 : Option Addr) (d1 d2 d3 d4 j1 j2 j3 j4 : Nat) (val : Nat → Value) (G : Nat → Grp) : Nat → Prop
  | 0 => val 0 = .agg #[.int .i64 R, .slice (some ⟨g1, 0, none⟩) n1 c1, .slice (some ⟨g2, 0, none⟩) n1 c2, .slice (some ⟨g3, 0, none⟩) n1 c3, .slice (some ⟨g4, 0, none⟩) n2 c4]
  | 1 => val 1 = .agg #[.int .i64 R, .slice q1 n1 d1, .slice q2 n1 d2, .slice q3 n1 d3, .slice q4 n2 d4]
  | 2 => val 2 = .agg #[.int .i64 rl, .int .i64 0, .int .i64 0, .int .i64 0]
  | 3 => val 3 = .bool true
  | 4 => val 4 = .bool true
  | 5 => val 5 = .agg #[.int .i64 R, .slice q1 n1 d1, .slice q2 n1 d2, .slice q3 n1 d3, .slice q4 n2 d4]
  | 6 => val 6 = .agg #[.int .i64 R, .slice s1 n1 j1, .slice s2 n1 j2, .slice s3 n1 j3, .slice s4 n2 j4]
  | 7 => val 7 = .agg #[.int .i64 0, .int .i64 m1, .int .i64 0, .int .i64 m3]
  | 8 => val 8 = .bool true
  | 9 => val 9 = .bool true
  | 10 => val 10 = .bool true
  | 11 => val 11 = .agg #[.int .i64 R, .slice q1 n1 d1, .slice q2 n1 d2, .slice q3 n1 d3, .slice q4 n2 d4]
  | 12 => val 12 = .int .i64 Y
  | 13 => val 13 = .agg #[.int .i64 R, .slice (some ⟨g1, 0, none⟩) n1 c1, .slice (some ⟨g2, 0, none⟩) n1 c2, .slice (some ⟨g3, 0, none⟩) n1 c3, .slice (some ⟨g4, 0, none⟩) n2 c4]
  | 14 => val 14 = .int .i64 Y
  | 15 => val 15 = .bool true
  | 16 => val 16 = .bool true
  | 17 => val 17 = .bool true
  | 18 => val 18 = .pointer (some ⟨B6, 1, none⟩)
  | 19 => val 19 = .int .i64 0
  | 20 => val 20 = .bool true
  | 21 => val 21 = .bool true
  | 22 => val 22 = .bool true
  | 23 => val 23 = .pointer (some ⟨B8, 0, none⟩)
  | 24 => val 24 = .int .i64 0
  | 25 => val 25 = .bool true
  | 26 => val 26 = .bool true
  | 27 => val 27 = .bool true
  | 28 => val 28 = .agg #[.int .i64 R, .slice (some ⟨g1, 0, none⟩) n1 c1, .slice (some ⟨g2, 0, none⟩) n1 c2, .slice (some ⟨g3, 0, none⟩) n1 c3, .slice (some ⟨g4, 0, none⟩) n2 c4]
  | 29 => val 29 = .agg #[.int .i64 R, .slice s1 n1 j1, .slice s2 n1 j2, .slice s3 n1 j3, .slice s4 n2 j4]
  | 30 => val 30 = .agg #[.int .i64 rl, .int .i64 0, .int .i64 0, .int .i64 0]
  | 31 => val 31 = .agg #[.int .i64 0, .int .i64 m1, .int .i64 0, .int .i64 m3]
  | 32 => val 32 = .agg #[.int .i64 rl, .int .i64 m1, .int .i64 0, .int .i64 m3]
  | 33 => val 33 = .bool true
  | 34 => val 34 = .bool true
  | 35 => val 35 = .bool true
  | _ => True
def HoldGDep : Nat → List Nat
  | 3 => [0, 1, 2] | 4 => [3] | 5 => [4] | 6 => [4] | 7 => [4] | 8 => [5, 6, 7, 4] | 9 => [4, 8] | 10 => [9] | 11 => [10] | 12 => [11, 10] | 13 => [10] | 14 => [13, 10] | 15 => [12, 14, 10] | 16 => [10, 15] | 17 => [16] | 18 => [17] | 19 => [18, 17] | 20 => [19, 17] | 21 => [17, 20] | 22 => [21] | 23 => [22] | 24 => [23, 22] | 25 => [24, 22] | 26 => [22, 25] | 27 => [26] | 28 => [27] | 29 => [27] | 30 => [27] | 31 => [27] | 32 => [30, 31, 27] | 33 => [28, 29, 32, 27] | 34 => [27, 33] | 35 => [34] | _ => []
theorem HoldG_local (R rl m1 m3 Y : Int) (g1 g2 g3 g4 n1 n2 c1 c2 c3 c4 B3 B5 B6 B7 B8 : Nat) (q1 q2 q3 q4 s1 s2 s3 s4 : Option Addr) (d1 d2 d3 d4 j1 j2 j3 j4 : Nat) : Local HoldGDep (HoldG R rl m1 m3 Y g1 g2 g3 g4 n1 n2 c1 c2 c3 c4 B3 B5 B6 B7 B8 q1 q2 q3 q4 s1 s2 s3 s4 d1 d2 d3 d4 j1 j2 j3 j4) := by
  intro val val' G G' j hk h
  match j with
  | 0 => exact (hk 0 (.inl rfl)).1.trans h
  | 1 => exact (hk 1 (.inl rfl)).1.trans h
  | 2 => exact (hk 2 (.inl rfl)).1.trans h
  | 3 => exact (hk 3 (.inl rfl)).1.trans h
  | 4 => exact (hk 4 (.inl rfl)).1.trans h
  | 5 => exact (hk 5 (.inl rfl)).1.trans h
  | 6 => exact (hk 6 (.inl rfl)).1.trans h
  | 7 => exact (hk 7 (.inl rfl)).1.trans h
  | 8 => exact (hk 8 (.inl rfl)).1.trans h
  | 9 => exact (hk 9 (.inl rfl)).1.trans h
  | 10 => exact (hk 10 (.inl rfl)).1.trans h
  | 11 => exact (hk 11 (.inl rfl)).1.trans h
  | 12 => exact (hk 12 (.inl rfl)).1.trans h
  | 13 => exact (hk 13 (.inl rfl)).1.trans h
  | 14 => exact (hk 14 (.inl rfl)).1.trans h
  | 15 => exact (hk 15 (.inl rfl)).1.trans h
  | 16 => exact (hk 16 (.inl rfl)).1.trans h
  | 17 => exact (hk 17 (.inl rfl)).1.trans h
  | 18 => exact (hk 18 (.inl rfl)).1.trans h
  | 19 => exact (hk 19 (.inl rfl)).1.trans h
  | 20 => exact (hk 20 (.inl rfl)).1.trans h
  | 21 => exact (hk 21 (.inl rfl)).1.trans h
  | 22 => exact (hk 22 (.inl rfl)).1.trans h
  | 23 => exact (hk 23 (.inl rfl)).1.trans h
  | 24 => exact (hk 24 (.inl rfl)).1.trans h
  | 25 => exact (hk 25 (.inl rfl)).1.trans h
  | 26 => exact (hk 26 (.inl rfl)).1.trans h
  | 27 => exact (hk 27 (.inl rfl)).1.trans h
  | 28 => exact (hk 28 (.inl rfl)).1.trans h
  | 29 => exact (hk 29 (.inl rfl)).1.trans h
  | 30 => exact (hk 30 (.inl rfl)).1.trans h
  | 31 => exact (hk 31 (.inl rfl)).1.trans h
  | 32 => exact (hk 32 (.inl rfl)).1.trans h
  | 33 => exact (hk 33 (.inl rfl)).1.trans h
  | 34 => exact (hk 34 (.inl rfl)).1.trans h
  | 35 => exact (hk 35 (.inl rfl)).1.trans h
  | _ + 36 => trivial

/-- What each operation leaves. -/
def DrySG (R p0 p1 p2 : Int) (g1 g2 g3 g4 n1 n2 c1 c2 c3 c4 B3 gp cp : Nat) (xs : List Mesh.C3) (bs : List Int) (mx tx : List Int) (m1 m3 : Int) (val : Nat → Value) (G : Nat → Grp) : Nat → Prop
  | 0 => val 0 = .agg #[.int .i64 R, .slice (some ⟨g1, 0, none⟩) n1 c1, .slice (some ⟨g2, 0, none⟩) n1 c2, .slice (some ⟨g3, 0, none⟩) n1 c3, .slice (some ⟨g4, 0, none⟩) n2 c4]
  | 1 => val 1 = .slice (some ⟨gp, 0, none⟩) 12 cp
  | 2 => val 2 = .pointer (some ⟨gp, 0, none⟩)
  | 3 => val 3 = .int .i64 p0
  | 4 => ∃ (q1 : Option Addr) (d1 : Nat) (q2 : Option Addr) (d2 : Nat) (q3 : Option Addr) (d3 : Nat) (q4 : Option Addr) (d4 : Nat), val 4 = .tuple #[.agg #[.int .i64 R, .slice q1 n1 d1, .slice q2 n1 d2, .slice q3 n1 d3, .slice q4 n2 d4], .agg #[.int .i64 0, .int .i64 m1, .int .i64 0, .int .i64 m3]] ∧ G 4 = State.stateG (.slice q1 n1 d1) (.slice q2 n1 d2) (.slice q3 n1 d3) (.slice q4 n2 d4) n1 n1 n1 n2 xs mx tx bs
  | 5 => ∃ (q1 : Option Addr) (d1 : Nat) (q2 : Option Addr) (d2 : Nat) (q3 : Option Addr) (d3 : Nat) (q4 : Option Addr) (d4 : Nat), val 5 = .tuple #[.agg #[.int .i64 R, .slice q1 n1 d1, .slice q2 n1 d2, .slice q3 n1 d3, .slice q4 n2 d4], .agg #[.int .i64 0, .int .i64 m1, .int .i64 0, .int .i64 m3]] ∧ val 4 = .tuple #[.agg #[.int .i64 R, .slice q1 n1 d1, .slice q2 n1 d2, .slice q3 n1 d3, .slice q4 n2 d4], .agg #[.int .i64 0, .int .i64 m1, .int .i64 0, .int .i64 m3]]
  | 6 => ∃ (q1 : Option Addr) (d1 : Nat) (q2 : Option Addr) (d2 : Nat) (q3 : Option Addr) (d3 : Nat) (q4 : Option Addr) (d4 : Nat), val 6 = .agg #[.int .i64 R, .slice q1 n1 d1, .slice q2 n1 d2, .slice q3 n1 d3, .slice q4 n2 d4] ∧ val 5 = .tuple #[.agg #[.int .i64 R, .slice q1 n1 d1, .slice q2 n1 d2, .slice q3 n1 d3, .slice q4 n2 d4], .agg #[.int .i64 0, .int .i64 m1, .int .i64 0, .int .i64 m3]]
  | 7 => val 7 = .agg #[.int .i64 0, .int .i64 m1, .int .i64 0, .int .i64 m3]
  | 8 => ∃ (B5 : Nat) (o8_0 : Value) (o8_1 : Value) (o8_2 : Value) (o8_3 : Value) (o8_4 : Value), val 8 = .pointer (some ⟨B5, 0, none⟩) ∧ G 8 = Law.boxG B5 29 #[o8_0, o8_1, o8_2, o8_3, o8_4]
  | 9 => ∃ (B6 : Nat) (o9_0 : Value) (o9_1 : Value) (o9_2 : Value) (o9_3 : Value), val 9 = .pointer (some ⟨B6, 0, none⟩) ∧ G 9 = Law.boxG B6 33 #[o9_0, o9_1, o9_2, o9_3]
  | 10 => ∃ (B5 : Nat) (q1 : Option Addr) (d1 : Nat) (q2 : Option Addr) (d2 : Nat) (q3 : Option Addr) (d3 : Nat) (q4 : Option Addr) (d4 : Nat), val 8 = .pointer (some ⟨B5, 0, none⟩) ∧ val 6 = .agg #[.int .i64 R, .slice q1 n1 d1, .slice q2 n1 d2, .slice q3 n1 d3, .slice q4 n2 d4] ∧ G 8 = Law.boxG B5 29 #[.int .i64 R, .slice q1 n1 d1, .slice q2 n1 d2, .slice q3 n1 d3, .slice q4 n2 d4]
  | 11 => ∃ (B6 : Nat), val 9 = .pointer (some ⟨B6, 0, none⟩) ∧ val 7 = .agg #[.int .i64 0, .int .i64 m1, .int .i64 0, .int .i64 m3] ∧ G 9 = Law.boxG B6 33 #[.int .i64 0, .int .i64 m1, .int .i64 0, .int .i64 m3]
  | _ => True
def DrySGDep : Nat → List Nat
  | 2 => [1] | 3 => [2] | 4 => [0, 3] | 5 => [4] | 6 => [5] | 7 => [5] | 10 => [8, 6] | 11 => [9, 7] | _ => []
theorem DrySG_local (R p0 p1 p2 : Int) (g1 g2 g3 g4 n1 n2 c1 c2 c3 c4 B3 gp cp : Nat) (xs : List Mesh.C3) (bs : List Int) (mx tx : List Int) (m1 m3 : Int) : Local DrySGDep (DrySG R p0 p1 p2 g1 g2 g3 g4 n1 n2 c1 c2 c3 c4 B3 gp cp xs bs mx tx m1 m3) := by
  intro val val' G G' j hk h
  match j with
  | 0 => exact (hk 0 (.inl rfl)).1.trans h
  | 1 => exact (hk 1 (.inl rfl)).1.trans h
  | 2 => exact (hk 2 (.inl rfl)).1.trans h
  | 3 => exact (hk 3 (.inl rfl)).1.trans h
  | 4 => obtain ⟨q1, d1, q2, d2, q3, d3, q4, d4, h0, h1⟩ := h; exact ⟨q1, d1, q2, d2, q3, d3, q4, d4, (hk 4 (.inl rfl)).1.trans h0, (hk 4 (.inl rfl)).2.trans h1⟩
  | 5 => obtain ⟨q1, d1, q2, d2, q3, d3, q4, d4, h0, h1⟩ := h; exact ⟨q1, d1, q2, d2, q3, d3, q4, d4, (hk 5 (.inl rfl)).1.trans h0, (hk 4 (.inr (by simp [DrySGDep]))).1.trans h1⟩
  | 6 => obtain ⟨q1, d1, q2, d2, q3, d3, q4, d4, h0, h1⟩ := h; exact ⟨q1, d1, q2, d2, q3, d3, q4, d4, (hk 6 (.inl rfl)).1.trans h0, (hk 5 (.inr (by simp [DrySGDep]))).1.trans h1⟩
  | 7 => exact (hk 7 (.inl rfl)).1.trans h
  | 8 => obtain ⟨B5, o8_0, o8_1, o8_2, o8_3, o8_4, h0, h1⟩ := h; exact ⟨B5, o8_0, o8_1, o8_2, o8_3, o8_4, (hk 8 (.inl rfl)).1.trans h0, (hk 8 (.inl rfl)).2.trans h1⟩
  | 9 => obtain ⟨B6, o9_0, o9_1, o9_2, o9_3, h0, h1⟩ := h; exact ⟨B6, o9_0, o9_1, o9_2, o9_3, (hk 9 (.inl rfl)).1.trans h0, (hk 9 (.inl rfl)).2.trans h1⟩
  | 10 => obtain ⟨B5, q1, d1, q2, d2, q3, d3, q4, d4, h0, h1, h2⟩ := h; exact ⟨B5, q1, d1, q2, d2, q3, d3, q4, d4, (hk 8 (.inr (by simp [DrySGDep]))).1.trans h0, (hk 6 (.inr (by simp [DrySGDep]))).1.trans h1, (hk 8 (.inr (by simp [DrySGDep]))).2.trans h2⟩
  | 11 => obtain ⟨B6, h0, h1, h2⟩ := h; exact ⟨B6, (hk 9 (.inr (by simp [DrySGDep]))).1.trans h0, (hk 7 (.inr (by simp [DrySGDep]))).1.trans h1, (hk 9 (.inr (by simp [DrySGDep]))).2.trans h2⟩
  | _ + 12 => trivial

/-- What each operation leaves. -/
def DryCG (R p0 : Int) (g1 g2 g3 g4 n1 n2 c1 c2 c3 c4 B3 B5 gp cp m : Nat) (q1 q2 q3 q4 : Option Addr) (d1 d2 d3 d4 : Nat) (val : Nat → Value) (G : Nat → Grp) : Nat → Prop
  | 0 => val 0 = .pointer (some ⟨B5, 2, none⟩)
  | 1 => val 1 = .slice q2 n1 d2
  | 2 => val 2 = .int .i64 (n1 : Int)
  | 3 => val 3 = .pointer (some ⟨B3, 2, none⟩)
  | 4 => val 4 = .slice (some ⟨g2, 0, none⟩) n1 c2
  | 5 => val 5 = .int .i64 (n1 : Int)
  | 6 => val 6 = .bool true
  | 7 => val 7 = .bool true
  | 8 => val 8 = .agg #[.int .i64 R, .slice (some ⟨g1, 0, none⟩) n1 c1, .slice (some ⟨g2, 0, none⟩) n1 c2, .slice (some ⟨g3, 0, none⟩) n1 c3, .slice (some ⟨g4, 0, none⟩) n2 c4]
  | 9 => val 9 = .slice (some ⟨gp, 0, none⟩) 12 cp
  | 10 => val 10 = .pointer (some ⟨gp, 0, none⟩)
  | 11 => val 11 = .int .i64 p0
  | 12 => val 12 = .int .i64 (m : Int)
  | 13 => val 13 = .int .i64 (m : Int)
  | 14 => val 14 = .bool true
  | 15 => val 15 = .bool true
  | 16 => val 16 = .bool true
  | _ => True
def DryCGDep : Nat → List Nat
  | 1 => [0] | 2 => [1] | 4 => [3] | 5 => [4] | 6 => [2, 5] | 7 => [6] | 8 => [7] | 9 => [7] | 10 => [9, 7] | 11 => [10, 7] | 12 => [8, 11, 7] | 13 => [7] | 14 => [12, 13, 7] | 15 => [7, 14] | 16 => [15] | _ => []
theorem DryCG_local (R p0 : Int) (g1 g2 g3 g4 n1 n2 c1 c2 c3 c4 B3 B5 gp cp m : Nat) (q1 q2 q3 q4 : Option Addr) (d1 d2 d3 d4 : Nat) : Local DryCGDep (DryCG R p0 g1 g2 g3 g4 n1 n2 c1 c2 c3 c4 B3 B5 gp cp m q1 q2 q3 q4 d1 d2 d3 d4) := by
  intro val val' G G' j hk h
  match j with
  | 0 => exact (hk 0 (.inl rfl)).1.trans h
  | 1 => exact (hk 1 (.inl rfl)).1.trans h
  | 2 => exact (hk 2 (.inl rfl)).1.trans h
  | 3 => exact (hk 3 (.inl rfl)).1.trans h
  | 4 => exact (hk 4 (.inl rfl)).1.trans h
  | 5 => exact (hk 5 (.inl rfl)).1.trans h
  | 6 => exact (hk 6 (.inl rfl)).1.trans h
  | 7 => exact (hk 7 (.inl rfl)).1.trans h
  | 8 => exact (hk 8 (.inl rfl)).1.trans h
  | 9 => exact (hk 9 (.inl rfl)).1.trans h
  | 10 => exact (hk 10 (.inl rfl)).1.trans h
  | 11 => exact (hk 11 (.inl rfl)).1.trans h
  | 12 => exact (hk 12 (.inl rfl)).1.trans h
  | 13 => exact (hk 13 (.inl rfl)).1.trans h
  | 14 => exact (hk 14 (.inl rfl)).1.trans h
  | 15 => exact (hk 15 (.inl rfl)).1.trans h
  | 16 => exact (hk 16 (.inl rfl)).1.trans h
  | _ + 17 => trivial
end Go.Proofs.Ytmbmeajneankpaa.State
