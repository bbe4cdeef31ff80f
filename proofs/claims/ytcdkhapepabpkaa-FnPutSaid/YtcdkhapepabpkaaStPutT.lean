/- States: the tables of the regions of the law of put leaves that draw their order (written by wip/tools/fnput.py).
   Conditions: none. -/
import Derived.Test.YtcdkhapepabpkaaStPutL
import Derived.Test.YtcdkhapepabpkaaRegGuard
set_option maxRecDepth 100000
namespace Go.Proofs.Ytcdkhapepabpkaa.State
open Go.ChangeShapes Go.WideShapes Go.ChangeAt Go.RowKit Go.Proofs.Ytcdkhapepabpkaa.Cell Go.Proofs.Ytcdkhapepabpkaa.Mesh Go.Proofs.Ytcdkhapepabpkaa.Law Go.Proofs.Ytcdkhapepabpkaa.Ints Go.Proofs.Ytcdkhapepabpkaa.Draws
set_option linter.unusedVariables false

/-- What each operation leaves. -/
def PutG (R : Int) (g1 g2 g3 g4 n1 n2 c1 c2 c3 c4 k gp cp B3 : Nat) (p1 p2 q : Int) (xs : List C3) (ms ts bs : List Int) (val : Nat → Value) (G : Nat → Grp) : Nat → Prop
  | 0 => val 0 = .agg #[.int .i64 R, .slice (some ⟨g1, 0, none⟩) n1 c1, .slice (some ⟨g2, 0, none⟩) n1 c2, .slice (some ⟨g3, 0, none⟩) n1 c3, .slice (some ⟨g4, 0, none⟩) n2 c4]
  | 1 => val 1 = .int .i64 (k : Int)
  | 2 => val 2 = .slice (some ⟨gp, 0, none⟩) 12 cp
  | 3 => val 3 = .pointer (some ⟨gp, 1, none⟩)
  | 4 => val 4 = .int .i64 p1
  | 5 => val 5 = .slice (some ⟨gp, 0, none⟩) 12 cp
  | 6 => val 6 = .pointer (some ⟨gp, 1, none⟩)
  | 7 => val 7 = .int .i64 p1
  | 8 => val 8 = .slice (some ⟨gp, 0, none⟩) 12 cp
  | 9 => val 9 = .pointer (some ⟨gp, 2, none⟩)
  | 10 => val 10 = .int .i64 p2
  | 11 => val 11 = .int .i64 (p1 * p2)
  | 12 => val 12 = .int .i64 q
  | 13 => ∃ (b1 : Option Addr) (d1 : Nat) (b2 : Option Addr) (d2 : Nat) (b3 : Option Addr) (d3 : Nat) (b4 : Option Addr) (d4 : Nat), val 13 = .tuple #[.agg #[.int .i64 R, .slice b1 n1 d1, .slice b2 n1 d2, .slice b3 n1 d3, .slice b4 n2 d4], .bool true] ∧ G 13 = stateG (.slice b1 n1 d1) (.slice b2 n1 d2) (.slice b3 n1 d3) (.slice b4 n2 d4) n1 n1 n1 n2 xs (ms.set k p1) (ts.set k q) bs
  | 14 => ∃ (b1 : Option Addr) (d1 : Nat) (b2 : Option Addr) (d2 : Nat) (b3 : Option Addr) (d3 : Nat) (b4 : Option Addr) (d4 : Nat), val 14 = .tuple #[.agg #[.int .i64 R, .slice b1 n1 d1, .slice b2 n1 d2, .slice b3 n1 d3, .slice b4 n2 d4], .bool true] ∧ val 13 = .tuple #[.agg #[.int .i64 R, .slice b1 n1 d1, .slice b2 n1 d2, .slice b3 n1 d3, .slice b4 n2 d4], .bool true]
  | 15 => ∃ (b1 : Option Addr) (d1 : Nat) (b2 : Option Addr) (d2 : Nat) (b3 : Option Addr) (d3 : Nat) (b4 : Option Addr) (d4 : Nat), val 15 = .agg #[.int .i64 R, .slice b1 n1 d1, .slice b2 n1 d2, .slice b3 n1 d3, .slice b4 n2 d4] ∧ val 14 = .tuple #[.agg #[.int .i64 R, .slice b1 n1 d1, .slice b2 n1 d2, .slice b3 n1 d3, .slice b4 n2 d4], .bool true]
  | 16 => val 16 = .bool true
  | 17 => ∃ (B6 : Nat) (o0 : Value) (o1 : Value) (o2 : Value) (o3 : Value) (o4 : Value), val 17 = .pointer (some ⟨B6, 0, none⟩) ∧ G 17 = boxG B6 31 #[o0, o1, o2, o3, o4]
  | 18 => ∃ (B6 : Nat) (b1 : Option Addr) (d1 : Nat) (b2 : Option Addr) (d2 : Nat) (b3 : Option Addr) (d3 : Nat) (b4 : Option Addr) (d4 : Nat), val 17 = .pointer (some ⟨B6, 0, none⟩) ∧ val 15 = .agg #[.int .i64 R, .slice b1 n1 d1, .slice b2 n1 d2, .slice b3 n1 d3, .slice b4 n2 d4] ∧ G 17 = boxG B6 31 #[.int .i64 R, .slice b1 n1 d1, .slice b2 n1 d2, .slice b3 n1 d3, .slice b4 n2 d4]
  | 19 => val 19 = .bool true
  | _ => True
def PutGDep : Nat → List Nat
  | 3 => [2] | 4 => [3] | 6 => [5] | 7 => [6] | 9 => [8] | 10 => [9] | 11 => [7, 10] | 12 => [11] | 13 => [0, 1, 4, 12] | 14 => [13] | 15 => [14] | 16 => [14] | 18 => [17, 15] | 19 => [16] | _ => []
theorem PutG_local (R : Int) (g1 g2 g3 g4 n1 n2 c1 c2 c3 c4 k gp cp B3 : Nat) (p1 p2 q : Int) (xs : List C3) (ms ts bs : List Int) : Local PutGDep (PutG R g1 g2 g3 g4 n1 n2 c1 c2 c3 c4 k gp cp B3 p1 p2 q xs ms ts bs) := by
  intro val val' G G' j hk h
  match j with
  | 0 => exact (hk 0 (.inl rfl)).1.trans h
  | 1 => exact (hk 1 (.inl rfl)).1.trans h
  | 2 => exact (hk 2 (.inl rfl)).1.trans h
  | 3 => exact (hk 3 (.inl rfl)).1.trans h
  | 4 => exact (hk 4 (.inl rfl)).1.trans h
  | 5 => exact (hk 5 (.inl rfl)).1.trans h
  | 6 => exact (hk 6 (.inl rfl)).1.trans h
  | 7 => exact (hk 7 (.inl rfl)).1.trans h
  | 8 => exact (hk 8 (.inl rfl)).1.trans h
  | 9 => exact (hk 9 (.inl rfl)).1.trans h
  | 10 => exact (hk 10 (.inl rfl)).1.trans h
  | 11 => exact (hk 11 (.inl rfl)).1.trans h
  | 12 => exact (hk 12 (.inl rfl)).1.trans h
  | 13 => obtain ⟨b1, d1, b2, d2, b3, d3, b4, d4, h0, h1⟩ := h; exact ⟨b1, d1, b2, d2, b3, d3, b4, d4, (hk 13 (.inl rfl)).1.trans h0, (hk 13 (.inl rfl)).2.trans h1⟩
  | 14 => obtain ⟨b1, d1, b2, d2, b3, d3, b4, d4, h0, h1⟩ := h; exact ⟨b1, d1, b2, d2, b3, d3, b4, d4, (hk 14 (.inl rfl)).1.trans h0, (hk 13 (.inr (by simp [PutGDep]))).1.trans h1⟩
  | 15 => obtain ⟨b1, d1, b2, d2, b3, d3, b4, d4, h0, h1⟩ := h; exact ⟨b1, d1, b2, d2, b3, d3, b4, d4, (hk 15 (.inl rfl)).1.trans h0, (hk 14 (.inr (by simp [PutGDep]))).1.trans h1⟩
  | 16 => exact (hk 16 (.inl rfl)).1.trans h
  | 17 => obtain ⟨B6, o0, o1, o2, o3, o4, h0, h1⟩ := h; exact ⟨B6, o0, o1, o2, o3, o4, (hk 17 (.inl rfl)).1.trans h0, (hk 17 (.inl rfl)).2.trans h1⟩
  | 18 => obtain ⟨B6, b1, d1, b2, d2, b3, d3, b4, d4, h0, h1, h2⟩ := h; exact ⟨B6, b1, d1, b2, d2, b3, d3, b4, d4, (hk 17 (.inr (by simp [PutGDep]))).1.trans h0, (hk 15 (.inr (by simp [PutGDep]))).1.trans h1, (hk 17 (.inr (by simp [PutGDep]))).2.trans h2⟩
  | 19 => exact (hk 19 (.inl rfl)).1.trans h
  | _ + 20 => trivial

/-- What each operation leaves. -/
def BadG (R : Int) (g1 g2 g3 g4 n1 n2 c1 c2 c3 c4 k gp cp B3 : Nat) (p1 p2 q : Int) (xs : List C3) (ms ts bs : List Int) (val : Nat → Value) (G : Nat → Grp) : Nat → Prop
  | 0 => val 0 = .agg #[.int .i64 R, .slice (some ⟨g1, 0, none⟩) n1 c1, .slice (some ⟨g2, 0, none⟩) n1 c2, .slice (some ⟨g3, 0, none⟩) n1 c3, .slice (some ⟨g4, 0, none⟩) n2 c4]
  | 1 => val 1 = .int .i64 (k : Int)
  | 2 => val 2 = .slice (some ⟨gp, 0, none⟩) 12 cp
  | 3 => val 3 = .pointer (some ⟨gp, 1, none⟩)
  | 4 => val 4 = .int .i64 p1
  | 5 => val 5 = .slice (some ⟨gp, 0, none⟩) 12 cp
  | 6 => val 6 = .pointer (some ⟨gp, 1, none⟩)
  | 7 => val 7 = .int .i64 p1
  | 8 => val 8 = .int .i64 (1000 * p1)
  | 9 => val 9 = .int .i64 (1000 * p1 + 1)
  | 10 => ∃ (r1 : Option Addr) (s1 : Nat) (r2 : Option Addr) (s2 : Nat) (r3 : Option Addr) (s3 : Nat) (r4 : Option Addr) (s4 : Nat), val 10 = .tuple #[.agg #[.int .i64 R, .slice r1 n1 s1, .slice r2 n1 s2, .slice r3 n1 s3, .slice r4 n2 s4], .bool false] ∧ G 10 = stateG (.slice r1 n1 s1) (.slice r2 n1 s2) (.slice r3 n1 s3) (.slice r4 n2 s4) n1 n1 n1 n2 xs (ms) (ts) bs
  | 11 => ∃ (r1 : Option Addr) (s1 : Nat) (r2 : Option Addr) (s2 : Nat) (r3 : Option Addr) (s3 : Nat) (r4 : Option Addr) (s4 : Nat), val 11 = .tuple #[.agg #[.int .i64 R, .slice r1 n1 s1, .slice r2 n1 s2, .slice r3 n1 s3, .slice r4 n2 s4], .bool false] ∧ val 10 = .tuple #[.agg #[.int .i64 R, .slice r1 n1 s1, .slice r2 n1 s2, .slice r3 n1 s3, .slice r4 n2 s4], .bool false]
  | 12 => ∃ (r1 : Option Addr) (s1 : Nat) (r2 : Option Addr) (s2 : Nat) (r3 : Option Addr) (s3 : Nat) (r4 : Option Addr) (s4 : Nat), val 12 = .agg #[.int .i64 R, .slice r1 n1 s1, .slice r2 n1 s2, .slice r3 n1 s3, .slice r4 n2 s4] ∧ val 11 = .tuple #[.agg #[.int .i64 R, .slice r1 n1 s1, .slice r2 n1 s2, .slice r3 n1 s3, .slice r4 n2 s4], .bool false]
  | 13 => val 13 = .bool false
  | 14 => ∃ (B8 : Nat) (o0 : Value) (o1 : Value) (o2 : Value) (o3 : Value) (o4 : Value), val 14 = .pointer (some ⟨B8, 0, none⟩) ∧ G 14 = boxG B8 31 #[o0, o1, o2, o3, o4]
  | 15 => ∃ (B8 : Nat) (r1 : Option Addr) (s1 : Nat) (r2 : Option Addr) (s2 : Nat) (r3 : Option Addr) (s3 : Nat) (r4 : Option Addr) (s4 : Nat), val 14 = .pointer (some ⟨B8, 0, none⟩) ∧ val 12 = .agg #[.int .i64 R, .slice r1 n1 s1, .slice r2 n1 s2, .slice r3 n1 s3, .slice r4 n2 s4] ∧ G 14 = boxG B8 31 #[.int .i64 R, .slice r1 n1 s1, .slice r2 n1 s2, .slice r3 n1 s3, .slice r4 n2 s4]
  | 16 => val 16 = .bool false
  | _ => True
def BadGDep : Nat → List Nat
  | 3 => [2] | 4 => [3] | 6 => [5] | 7 => [6] | 8 => [7] | 9 => [8] | 10 => [0, 1, 4, 9] | 11 => [10] | 12 => [11] | 13 => [11] | 15 => [14, 12] | 16 => [13] | _ => []
theorem BadG_local (R : Int) (g1 g2 g3 g4 n1 n2 c1 c2 c3 c4 k gp cp B3 : Nat) (p1 p2 q : Int) (xs : List C3) (ms ts bs : List Int) : Local BadGDep (BadG R g1 g2 g3 g4 n1 n2 c1 c2 c3 c4 k gp cp B3 p1 p2 q xs ms ts bs) := by
  intro val val' G G' j hk h
  match j with
  | 0 => exact (hk 0 (.inl rfl)).1.trans h
  | 1 => exact (hk 1 (.inl rfl)).1.trans h
  | 2 => exact (hk 2 (.inl rfl)).1.trans h
  | 3 => exact (hk 3 (.inl rfl)).1.trans h
  | 4 => exact (hk 4 (.inl rfl)).1.trans h
  | 5 => exact (hk 5 (.inl rfl)).1.trans h
  | 6 => exact (hk 6 (.inl rfl)).1.trans h
  | 7 => exact (hk 7 (.inl rfl)).1.trans h
  | 8 => exact (hk 8 (.inl rfl)).1.trans h
  | 9 => exact (hk 9 (.inl rfl)).1.trans h
  | 10 => obtain ⟨r1, s1, r2, s2, r3, s3, r4, s4, h0, h1⟩ := h; exact ⟨r1, s1, r2, s2, r3, s3, r4, s4, (hk 10 (.inl rfl)).1.trans h0, (hk 10 (.inl rfl)).2.trans h1⟩
  | 11 => obtain ⟨r1, s1, r2, s2, r3, s3, r4, s4, h0, h1⟩ := h; exact ⟨r1, s1, r2, s2, r3, s3, r4, s4, (hk 11 (.inl rfl)).1.trans h0, (hk 10 (.inr (by simp [BadGDep]))).1.trans h1⟩
  | 12 => obtain ⟨r1, s1, r2, s2, r3, s3, r4, s4, h0, h1⟩ := h; exact ⟨r1, s1, r2, s2, r3, s3, r4, s4, (hk 12 (.inl rfl)).1.trans h0, (hk 11 (.inr (by simp [BadGDep]))).1.trans h1⟩
  | 13 => exact (hk 13 (.inl rfl)).1.trans h
  | 14 => obtain ⟨B8, o0, o1, o2, o3, o4, h0, h1⟩ := h; exact ⟨B8, o0, o1, o2, o3, o4, (hk 14 (.inl rfl)).1.trans h0, (hk 14 (.inl rfl)).2.trans h1⟩
  | 15 => obtain ⟨B8, r1, s1, r2, s2, r3, s3, r4, s4, h0, h1, h2⟩ := h; exact ⟨B8, r1, s1, r2, s2, r3, s3, r4, s4, (hk 14 (.inr (by simp [BadGDep]))).1.trans h0, (hk 12 (.inr (by simp [BadGDep]))).1.trans h1, (hk 14 (.inr (by simp [BadGDep]))).2.trans h2⟩
  | 16 => exact (hk 16 (.inl rfl)).1.trans h
  | _ + 17 => trivial

/-- What each operation leaves. -/
def LastG (R : Int) (g1 g2 g3 g4 n1 n2 c1 c2 c3 c4 k gp cp B3 B6 : Nat) (b1 b2 b3 b4 : Option Addr) (d1 d2 d3 d4 : Nat) (p1 p2 q M T m t : Int) (val : Nat → Value) (G : Nat → Grp) : Nat → Prop
  | 0 => val 0 = .bool true
  | 1 => val 1 = .bool true
  | 2 => val 2 = .bool false
  | 3 => val 3 = .bool true
  | 4 => val 4 = .bool true
  | 5 => val 5 = .bool true
  | 6 => val 6 = .agg #[.int .i64 R, .slice b1 n1 d1, .slice b2 n1 d2, .slice b3 n1 d3, .slice b4 n2 d4]
  | 7 => val 7 = .int .i64 (M - m + p1)
  | 8 => val 8 = .agg #[.int .i64 R, .slice (some ⟨g1, 0, none⟩) n1 c1, .slice (some ⟨g2, 0, none⟩) n1 c2, .slice (some ⟨g3, 0, none⟩) n1 c3, .slice (some ⟨g4, 0, none⟩) n2 c4]
  | 9 => val 9 = .int .i64 M
  | 10 => val 10 = .pointer (some ⟨B3, 2, none⟩)
  | 11 => val 11 = .slice (some ⟨g2, 0, none⟩) n1 c2
  | 12 => val 12 = .int .i64 (k : Int)
  | 13 => val 13 = .pointer (some ⟨g2, k, none⟩)
  | 14 => val 14 = .int .i64 m
  | 15 => val 15 = .int .i64 (M - m)
  | 16 => val 16 = .slice (some ⟨gp, 0, none⟩) 12 cp
  | 17 => val 17 = .pointer (some ⟨gp, 1, none⟩)
  | 18 => val 18 = .int .i64 p1
  | 19 => val 19 = .int .i64 (M - m + p1)
  | 20 => val 20 = .bool true
  | 21 => val 21 = .bool true
  | 22 => val 22 = .bool true
  | 23 => val 23 = .agg #[.int .i64 R, .slice b1 n1 d1, .slice b2 n1 d2, .slice b3 n1 d3, .slice b4 n2 d4]
  | 24 => val 24 = .int .i64 (T - t + q)
  | 25 => val 25 = .agg #[.int .i64 R, .slice (some ⟨g1, 0, none⟩) n1 c1, .slice (some ⟨g2, 0, none⟩) n1 c2, .slice (some ⟨g3, 0, none⟩) n1 c3, .slice (some ⟨g4, 0, none⟩) n2 c4]
  | 26 => val 26 = .int .i64 T
  | 27 => val 27 = .pointer (some ⟨B3, 3, none⟩)
  | 28 => val 28 = .slice (some ⟨g3, 0, none⟩) n1 c3
  | 29 => val 29 = .int .i64 (k : Int)
  | 30 => val 30 = .pointer (some ⟨g3, k, none⟩)
  | 31 => val 31 = .int .i64 t
  | 32 => val 32 = .int .i64 (T - t)
  | 33 => val 33 = .slice (some ⟨gp, 0, none⟩) 12 cp
  | 34 => val 34 = .pointer (some ⟨gp, 1, none⟩)
  | 35 => val 35 = .int .i64 p1
  | 36 => val 36 = .slice (some ⟨gp, 0, none⟩) 12 cp
  | 37 => val 37 = .pointer (some ⟨gp, 2, none⟩)
  | 38 => val 38 = .int .i64 p2
  | 39 => val 39 = .int .i64 (p1 * p2)
  | 40 => val 40 = .int .i64 q
  | 41 => val 41 = .int .i64 (T - t + q)
  | 42 => val 42 = .bool true
  | 43 => val 43 = .bool true
  | 44 => val 44 = .bool true
  | _ => True
def LastGDep : Nat → List Nat
  | 1 => [0] | 2 => [1] | 3 => [2, 1] | 4 => [1, 3] | 5 => [4] | 6 => [5] | 7 => [6, 5] | 8 => [5] | 9 => [8, 5] | 10 => [5] | 11 => [10, 5] | 12 => [5] | 13 => [11, 12, 5] | 14 => [13, 5] | 15 => [9, 14, 5] | 16 => [5] | 17 => [16, 5] | 18 => [17, 5] | 19 => [15, 18, 5] | 20 => [7, 19, 5] | 21 => [5, 20] | 22 => [21] | 23 => [22] | 24 => [23, 22] | 25 => [22] | 26 => [25, 22] | 27 => [22] | 28 => [27, 22] | 29 => [22] | 30 => [28, 29, 22] | 31 => [30, 22] | 32 => [26, 31, 22] | 33 => [22] | 34 => [33, 22] | 35 => [34, 22] | 36 => [22] | 37 => [36, 22] | 38 => [37, 22] | 39 => [35, 38, 22] | 40 => [39, 22] | 41 => [32, 40, 22] | 42 => [24, 41, 22] | 43 => [22, 42] | 44 => [43] | _ => []
theorem LastG_local (R : Int) (g1 g2 g3 g4 n1 n2 c1 c2 c3 c4 k gp cp B3 B6 : Nat) (b1 b2 b3 b4 : Option Addr) (d1 d2 d3 d4 : Nat) (p1 p2 q M T m t : Int) : Local LastGDep (LastG R g1 g2 g3 g4 n1 n2 c1 c2 c3 c4 k gp cp B3 B6 b1 b2 b3 b4 d1 d2 d3 d4 p1 p2 q M T m t) := by
  intro val val' G G' j hk h
  match j with
  | 0 => exact (hk 0 (.inl rfl)).1.trans h
  | 1 => exact (hk 1 (.inl rfl)).1.trans h
  | 2 => exact (hk 2 (.inl rfl)).1.trans h
  | 3 => exact (hk 3 (.inl rfl)).1.trans h
  | 4 => exact (hk 4 (.inl rfl)).1.trans h
  | 5 => exact (hk 5 (.inl rfl)).1.trans h
  | 6 => exact (hk 6 (.inl rfl)).1.trans h
  | 7 => exact (hk 7 (.inl rfl)).1.trans h
  | 8 => exact (hk 8 (.inl rfl)).1.trans h
  | 9 => exact (hk 9 (.inl rfl)).1.trans h
  | 10 => exact (hk 10 (.inl rfl)).1.trans h
  | 11 => exact (hk 11 (.inl rfl)).1.trans h
  | 12 => exact (hk 12 (.inl rfl)).1.trans h
  | 13 => exact (hk 13 (.inl rfl)).1.trans h
  | 14 => exact (hk 14 (.inl rfl)).1.trans h
  | 15 => exact (hk 15 (.inl rfl)).1.trans h
  | 16 => exact (hk 16 (.inl rfl)).1.trans h
  | 17 => exact (hk 17 (.inl rfl)).1.trans h
  | 18 => exact (hk 18 (.inl rfl)).1.trans h
  | 19 => exact (hk 19 (.inl rfl)).1.trans h
  | 20 => exact (hk 20 (.inl rfl)).1.trans h
  | 21 => exact (hk 21 (.inl rfl)).1.trans h
  | 22 => exact (hk 22 (.inl rfl)).1.trans h
  | 23 => exact (hk 23 (.inl rfl)).1.trans h
  | 24 => exact (hk 24 (.inl rfl)).1.trans h
  | 25 => exact (hk 25 (.inl rfl)).1.trans h
  | 26 => exact (hk 26 (.inl rfl)).1.trans h
  | 27 => exact (hk 27 (.inl rfl)).1.trans h
  | 28 => exact (hk 28 (.inl rfl)).1.trans h
  | 29 => exact (hk 29 (.inl rfl)).1.trans h
  | 30 => exact (hk 30 (.inl rfl)).1.trans h
  | 31 => exact (hk 31 (.inl rfl)).1.trans h
  | 32 => exact (hk 32 (.inl rfl)).1.trans h
  | 33 => exact (hk 33 (.inl rfl)).1.trans h
  | 34 => exact (hk 34 (.inl rfl)).1.trans h
  | 35 => exact (hk 35 (.inl rfl)).1.trans h
  | 36 => exact (hk 36 (.inl rfl)).1.trans h
  | 37 => exact (hk 37 (.inl rfl)).1.trans h
  | 38 => exact (hk 38 (.inl rfl)).1.trans h
  | 39 => exact (hk 39 (.inl rfl)).1.trans h
  | 40 => exact (hk 40 (.inl rfl)).1.trans h
  | 41 => exact (hk 41 (.inl rfl)).1.trans h
  | 42 => exact (hk 42 (.inl rfl)).1.trans h
  | 43 => exact (hk 43 (.inl rfl)).1.trans h
  | 44 => exact (hk 44 (.inl rfl)).1.trans h
  | _ + 45 => trivial
end Go.Proofs.Ytcdkhapepabpkaa.State
