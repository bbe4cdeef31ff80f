/- Borders and ledgers: the tables of the regions of the laws of chapter 13 that draw their order (written by wip/tools/fnborder.py).
   Conditions: none. -/
import Derived.Test.YtngacnckejnllaaStLedV
import Derived.Test.YtngacnckejnllaaPkReg
set_option maxRecDepth 100000
namespace Go.Proofs.Ytngacnckejnllaa.State
open Go.ChangeShapes Go.WideShapes Go.ChangeAt Go.RowKit Go.Proofs.Ytngacnckejnllaa.Cell Go.Proofs.Ytngacnckejnllaa.Mesh Go.Proofs.Ytngacnckejnllaa.Law Go.Proofs.Ytngacnckejnllaa.Ints Go.Proofs.Ytngacnckejnllaa.Draws
set_option linter.unusedVariables false

/-- What each operation leaves. -/
def BordG (R ei es eo M F T x : Int) (g1 g2 g3 g4 n1 n2 c1 c2 c3 c4 k B3 B4 B5 B6 B7 : Nat) (q1 q2 q3 q4 : Option Addr) (d1 d2 d3 d4 : Nat) (val : Nat → Value) (G : Nat → Grp) : Nat → Prop
  | 0 => val 0 = .agg #[.int .i64 R, .slice (some ⟨g1, 0, none⟩) n1 c1, .slice (some ⟨g2, 0, none⟩) n1 c2, .slice (some ⟨g3, 0, none⟩) n1 c3, .slice (some ⟨g4, 0, none⟩) n2 c4]
  | 1 => val 1 = .agg #[.int .i64 R, .slice q1 n1 d1, .slice q2 n1 d2, .slice q3 n1 d3, .slice q4 n2 d4]
  | 2 => val 2 = .agg #[.int .i64 ei, .int .i64 M, .int .i64 F, .int .i64 T]
  | 3 => val 3 = .bool true
  | 4 => val 4 = .bool true
  | 5 => val 5 = .agg #[.int .i64 R, .slice (some ⟨g1, 0, none⟩) n1 c1, .slice (some ⟨g2, 0, none⟩) n1 c2, .slice (some ⟨g3, 0, none⟩) n1 c3, .slice (some ⟨g4, 0, none⟩) n2 c4]
  | 6 => val 6 = .agg #[.int .i64 R, .slice q1 n1 d1, .slice q2 n1 d2, .slice q3 n1 d3, .slice q4 n2 d4]
  | 7 => val 7 = .agg #[.int .i64 (ei + 1), .int .i64 M, .int .i64 F, .int .i64 T]
  | 8 => val 8 = .bool false
  | 9 => val 9 = .bool true
  | 10 => val 10 = .bool true
  | 11 => val 11 = .bool true
  | 12 => val 12 = .agg #[.int .i64 R, .slice q1 n1 d1, .slice q2 n1 d2, .slice q3 n1 d3, .slice q4 n2 d4]
  | 13 => val 13 = .bool true
  | 14 => val 14 = .bool true
  | 15 => val 15 = .bool true
  | 16 => val 16 = .agg #[.int .i64 ei, .int .i64 es, .int .i64 eo]
  | 17 => val 17 = .bool true
  | 18 => val 18 = .bool true
  | 19 => val 19 = .bool true
  | 20 => val 20 = .pointer (some ⟨B6, 0, none⟩)
  | 21 => val 21 = .int .i64 ei
  | 22 => val 22 = .pointer (some ⟨B4, 0, none⟩)
  | 23 => val 23 = .int .i64 ei
  | 24 => val 24 = .bool true
  | 25 => val 25 = .bool true
  | 26 => val 26 = .bool true
  | 27 => val 27 = .pointer (some ⟨B6, 1, none⟩)
  | 28 => val 28 = .int .i64 M
  | 29 => val 29 = .pointer (some ⟨B3, 2, none⟩)
  | 30 => val 30 = .slice (some ⟨g2, 0, none⟩) n1 c2
  | 31 => val 31 = .int .i64 (k : Int)
  | 32 => val 32 = .pointer (some ⟨g2, k, none⟩)
  | 33 => val 33 = .int .i64 x
  | 34 => val 34 = .pointer (some ⟨B4, 2, none⟩)
  | 35 => val 35 = .int .i64 eo
  | 36 => val 36 = .int .i64 (x * eo)
  | 37 => val 37 = .int .i64 M
  | 38 => val 38 = .bool true
  | 39 => val 39 = .bool true
  | 40 => val 40 = .bool true
  | 41 => val 41 = .pointer (some ⟨B6, 2, none⟩)
  | 42 => val 42 = .int .i64 F
  | 43 => val 43 = .pointer (some ⟨B4, 0, none⟩)
  | 44 => val 44 = .int .i64 ei
  | 45 => val 45 = .pointer (some ⟨B4, 1, none⟩)
  | 46 => val 46 = .int .i64 es
  | 47 => val 47 = .int .i64 F
  | 48 => val 48 = .bool true
  | 49 => val 49 = .bool true
  | 50 => val 50 = .bool true
  | _ => True
def BordGDep : Nat → List Nat
  | 3 => [0, 1, 2] | 4 => [3] | 5 => [4] | 6 => [4] | 7 => [4] | 8 => [5, 6, 7, 4] | 9 => [8, 4] | 10 => [4, 9] | 11 => [10] | 12 => [11] | 13 => [12, 11] | 14 => [11, 13] | 15 => [14] | 16 => [15] | 17 => [16, 15] | 18 => [15, 17] | 19 => [18] | 20 => [19] | 21 => [20, 19] | 22 => [19] | 23 => [22, 19] | 24 => [21, 23, 19] | 25 => [19, 24] | 26 => [25] | 27 => [26] | 28 => [27, 26] | 29 => [26] | 30 => [29, 26] | 31 => [26] | 32 => [30, 31, 26] | 33 => [32, 26] | 34 => [26] | 35 => [34, 26] | 36 => [33, 35, 26] | 37 => [36, 26] | 38 => [28, 37, 26] | 39 => [26, 38] | 40 => [39] | 41 => [40] | 42 => [41, 40] | 43 => [40] | 44 => [43, 40] | 45 => [40] | 46 => [45, 40] | 47 => [44, 46, 40] | 48 => [42, 47, 40] | 49 => [40, 48] | 50 => [49] | _ => []
theorem BordG_local (R ei es eo M F T x : Int) (g1 g2 g3 g4 n1 n2 c1 c2 c3 c4 k B3 B4 B5 B6 B7 : Nat) (q1 q2 q3 q4 : Option Addr) (d1 d2 d3 d4 : Nat) : Local BordGDep (BordG R ei es eo M F T x g1 g2 g3 g4 n1 n2 c1 c2 c3 c4 k B3 B4 B5 B6 B7 q1 q2 q3 q4 d1 d2 d3 d4) := by
  intro val val' G G' j hk h
  match j with
  | 0 => exact (hk 0 (.inl rfl)).1.trans h
  | 1 => exact (hk 1 (.inl rfl)).1.trans h
  | 2 => exact (hk 2 (.inl rfl)).1.trans h
  | 3 => exact (hk 3 (.inl rfl)).1.trans h
  | 4 => exact (hk 4 (.inl rfl)).1.trans h
  | 5 => exact (hk 5 (.inl rfl)).1.trans h
  | 6 => exact (hk 6 (.inl rfl)).1.trans h
  | 7 => exact (hk 7 (.inl rfl)).1.trans h
  | 8 => exact (hk 8 (.inl rfl)).1.trans h
  | 9 => exact (hk 9 (.inl rfl)).1.trans h
  | 10 => exact (hk 10 (.inl rfl)).1.trans h
  | 11 => exact (hk 11 (.inl rfl)).1.trans h
  | 12 => exact (hk 12 (.inl rfl)).1.trans h
  | 13 => exact (hk 13 (.inl rfl)).1.trans h
  | 14 => exact (hk 14 (.inl rfl)).1.trans h
  | 15 => exact (hk 15 (.inl rfl)).1.trans h
  | 16 => exact (hk 16 (.inl rfl)).1.trans h
  | 17 => exact (hk 17 (.inl rfl)).1.trans h
  | 18 => exact (hk 18 (.inl rfl)).1.trans h
  | 19 => exact (hk 19 (.inl rfl)).1.trans h
  | 20 => exact (hk 20 (.inl rfl)).1.trans h
  | 21 => exact (hk 21 (.inl rfl)).1.trans h
  | 22 => exact (hk 22 (.inl rfl)).1.trans h
  | 23 => exact (hk 23 (.inl rfl)).1.trans h
  | 24 => exact (hk 24 (.inl rfl)).1.trans h
  | 25 => exact (hk 25 (.inl rfl)).1.trans h
  | 26 => exact (hk 26 (.inl rfl)).1.trans h
  | 27 => exact (hk 27 (.inl rfl)).1.trans h
  | 28 => exact (hk 28 (.inl rfl)).1.trans h
  | 29 => exact (hk 29 (.inl rfl)).1.trans h
  | 30 => exact (hk 30 (.inl rfl)).1.trans h
  | 31 => exact (hk 31 (.inl rfl)).1.trans h
  | 32 => exact (hk 32 (.inl rfl)).1.trans h
  | 33 => exact (hk 33 (.inl rfl)).1.trans h
  | 34 => exact (hk 34 (.inl rfl)).1.trans h
  | 35 => exact (hk 35 (.inl rfl)).1.trans h
  | 36 => exact (hk 36 (.inl rfl)).1.trans h
  | 37 => exact (hk 37 (.inl rfl)).1.trans h
  | 38 => exact (hk 38 (.inl rfl)).1.trans h
  | 39 => exact (hk 39 (.inl rfl)).1.trans h
  | 40 => exact (hk 40 (.inl rfl)).1.trans h
  | 41 => exact (hk 41 (.inl rfl)).1.trans h
  | 42 => exact (hk 42 (.inl rfl)).1.trans h
  | 43 => exact (hk 43 (.inl rfl)).1.trans h
  | 44 => exact (hk 44 (.inl rfl)).1.trans h
  | 45 => exact (hk 45 (.inl rfl)).1.trans h
  | 46 => exact (hk 46 (.inl rfl)).1.trans h
  | 47 => exact (hk 47 (.inl rfl)).1.trans h
  | 48 => exact (hk 48 (.inl rfl)).1.trans h
  | 49 => exact (hk 49 (.inl rfl)).1.trans h
  | 50 => exact (hk 50 (.inl rfl)).1.trans h
  | _ + 51 => trivial

/-- What each operation leaves. -/
def AddG (a0 a1 a2 a3 b0 b1 b2 b3 k0 k1 k2 k3 ab0 ab1 ab2 ab3 kb0 kb1 kb2 kb3 x0 x1 x2 x3 : Int) (gp cp B4 B5 B6 : Nat) (val : Nat → Value) (G : Nat → Grp) : Nat → Prop
  | 0 => val 0 = .agg #[.int .i64 a0, .int .i64 a1, .int .i64 a2, .int .i64 a3]
  | 1 => val 1 = .agg #[.int .i64 b0, .int .i64 b1, .int .i64 b2, .int .i64 b3]
  | 2 => val 2 = .agg #[.int .i64 ab0, .int .i64 ab1, .int .i64 ab2, .int .i64 ab3]
  | 3 => val 3 = .agg #[.int .i64 k0, .int .i64 k1, .int .i64 k2, .int .i64 k3]
  | 4 => val 4 = .agg #[.int .i64 x0, .int .i64 x1, .int .i64 x2, .int .i64 x3]
  | 5 => ∃ (B7 : Nat) (o0 : Value) (o1 : Value) (o2 : Value) (o3 : Value), val 5 = .pointer (some ⟨B7, 0, none⟩) ∧ G 5 = Law.boxG B7 35 #[o0, o1, o2, o3]
  | 6 => ∃ (B7 : Nat), val 5 = .pointer (some ⟨B7, 0, none⟩) ∧ val 4 = .agg #[.int .i64 x0, .int .i64 x1, .int .i64 x2, .int .i64 x3] ∧ G 5 = Law.boxG B7 35 #[.int .i64 x0, .int .i64 x1, .int .i64 x2, .int .i64 x3]
  | _ => True
def AddGDep : Nat → List Nat
  | 2 => [0, 1] | 4 => [2, 3] | 6 => [5, 4] | _ => []
theorem AddG_local (a0 a1 a2 a3 b0 b1 b2 b3 k0 k1 k2 k3 ab0 ab1 ab2 ab3 kb0 kb1 kb2 kb3 x0 x1 x2 x3 : Int) (gp cp B4 B5 B6 : Nat) : Local AddGDep (AddG a0 a1 a2 a3 b0 b1 b2 b3 k0 k1 k2 k3 ab0 ab1 ab2 ab3 kb0 kb1 kb2 kb3 x0 x1 x2 x3 gp cp B4 B5 B6) := by
  intro val val' G G' j hk h
  match j with
  | 0 => exact (hk 0 (.inl rfl)).1.trans h
  | 1 => exact (hk 1 (.inl rfl)).1.trans h
  | 2 => exact (hk 2 (.inl rfl)).1.trans h
  | 3 => exact (hk 3 (.inl rfl)).1.trans h
  | 4 => exact (hk 4 (.inl rfl)).1.trans h
  | 5 => obtain ⟨B7, o0, o1, o2, o3, h0, h1⟩ := h; exact ⟨B7, o0, o1, o2, o3, (hk 5 (.inl rfl)).1.trans h0, (hk 5 (.inl rfl)).2.trans h1⟩
  | 6 => obtain ⟨B7, h0, h1, h2⟩ := h; exact ⟨B7, (hk 5 (.inr (by simp [AddGDep]))).1.trans h0, (hk 4 (.inr (by simp [AddGDep]))).1.trans h1, (hk 5 (.inr (by simp [AddGDep]))).2.trans h2⟩
  | _ + 7 => trivial

/-- What each operation leaves. -/
def SumG (a0 a1 a2 a3 b0 b1 b2 b3 k0 k1 k2 k3 ab0 ab1 ab2 ab3 kb0 kb1 kb2 kb3 x0 x1 x2 x3 : Int) (gp cp B4 B5 B6 : Nat) (B7 : Nat) (val : Nat → Value) (G : Nat → Grp) : Nat → Prop
  | 0 => val 0 = .agg #[.int .i64 x0, .int .i64 x1, .int .i64 x2, .int .i64 x3]
  | 1 => val 1 = .agg #[.int .i64 a0, .int .i64 a1, .int .i64 a2, .int .i64 a3]
  | 2 => val 2 = .agg #[.int .i64 k0, .int .i64 k1, .int .i64 k2, .int .i64 k3]
  | 3 => val 3 = .agg #[.int .i64 b0, .int .i64 b1, .int .i64 b2, .int .i64 b3]
  | 4 => val 4 = .agg #[.int .i64 kb0, .int .i64 kb1, .int .i64 kb2, .int .i64 kb3]
  | 5 => val 5 = .agg #[.int .i64 x0, .int .i64 x1, .int .i64 x2, .int .i64 x3]
  | 6 => val 6 = .bool true
  | 7 => val 7 = .bool true
  | 8 => val 8 = .pointer (some ⟨B7, 0, none⟩)
  | 9 => val 9 = .int .i64 x0
  | 10 => val 10 = .slice (some ⟨gp, 0, none⟩) 12 cp
  | 11 => val 11 = .pointer (some ⟨gp, 0, none⟩)
  | 12 => val 12 = .int .i64 a0
  | 13 => val 13 = .slice (some ⟨gp, 0, none⟩) 12 cp
  | 14 => val 14 = .pointer (some ⟨gp, 4, none⟩)
  | 15 => val 15 = .int .i64 b0
  | 16 => val 16 = .int .i64 ab0
  | 17 => val 17 = .slice (some ⟨gp, 0, none⟩) 12 cp
  | 18 => val 18 = .pointer (some ⟨gp, 8, none⟩)
  | 19 => val 19 = .int .i64 k0
  | 20 => val 20 = .int .i64 x0
  | 21 => val 21 = .bool true
  | 22 => val 22 = .bool true
  | 23 => val 23 = .bool true
  | 24 => val 24 = .agg #[.int .i64 a0, .int .i64 a1, .int .i64 a2, .int .i64 a3]
  | 25 => val 25 = .agg #[.int .i64 0, .int .i64 0, .int .i64 0, .int .i64 0]
  | 26 => val 26 = .agg #[.int .i64 a0, .int .i64 a1, .int .i64 a2, .int .i64 a3]
  | 27 => val 27 = .agg #[.int .i64 a0, .int .i64 a1, .int .i64 a2, .int .i64 a3]
  | 28 => val 28 = .bool true
  | 29 => val 29 = .bool true
  | 30 => val 30 = .bool true
  | _ => True
def SumGDep : Nat → List Nat
  | 4 => [2, 3] | 5 => [1, 4] | 6 => [0, 5] | 7 => [6] | 8 => [7] | 9 => [8, 7] | 10 => [7] | 11 => [10, 7] | 12 => [11, 7] | 13 => [7] | 14 => [13, 7] | 15 => [14, 7] | 16 => [12, 15, 7] | 17 => [7] | 18 => [17, 7] | 19 => [18, 7] | 20 => [16, 19, 7] | 21 => [9, 20, 7] | 22 => [7, 21] | 23 => [22] | 24 => [23] | 25 => [23] | 26 => [24, 25, 23] | 27 => [23] | 28 => [26, 27, 23] | 29 => [23, 28] | 30 => [29] | _ => []
theorem SumG_local (a0 a1 a2 a3 b0 b1 b2 b3 k0 k1 k2 k3 ab0 ab1 ab2 ab3 kb0 kb1 kb2 kb3 x0 x1 x2 x3 : Int) (gp cp B4 B5 B6 : Nat) (B7 : Nat) : Local SumGDep (SumG a0 a1 a2 a3 b0 b1 b2 b3 k0 k1 k2 k3 ab0 ab1 ab2 ab3 kb0 kb1 kb2 kb3 x0 x1 x2 x3 gp cp B4 B5 B6 B7) := by
  intro val val' G G' j hk h
  match j with
  | 0 => exact (hk 0 (.inl rfl)).1.trans h
  | 1 => exact (hk 1 (.inl rfl)).1.trans h
  | 2 => exact (hk 2 (.inl rfl)).1.trans h
  | 3 => exact (hk 3 (.inl rfl)).1.trans h
  | 4 => exact (hk 4 (.inl rfl)).1.trans h
  | 5 => exact (hk 5 (.inl rfl)).1.trans h
  | 6 => exact (hk 6 (.inl rfl)).1.trans h
  | 7 => exact (hk 7 (.inl rfl)).1.trans h
  | 8 => exact (hk 8 (.inl rfl)).1.trans h
  | 9 => exact (hk 9 (.inl rfl)).1.trans h
  | 10 => exact (hk 10 (.inl rfl)).1.trans h
  | 11 => exact (hk 11 (.inl rfl)).1.trans h
  | 12 => exact (hk 12 (.inl rfl)).1.trans h
  | 13 => exact (hk 13 (.inl rfl)).1.trans h
  | 14 => exact (hk 14 (.inl rfl)).1.trans h
  | 15 => exact (hk 15 (.inl rfl)).1.trans h
  | 16 => exact (hk 16 (.inl rfl)).1.trans h
  | 17 => exact (hk 17 (.inl rfl)).1.trans h
  | 18 => exact (hk 18 (.inl rfl)).1.trans h
  | 19 => exact (hk 19 (.inl rfl)).1.trans h
  | 20 => exact (hk 20 (.inl rfl)).1.trans h
  | 21 => exact (hk 21 (.inl rfl)).1.trans h
  | 22 => exact (hk 22 (.inl rfl)).1.trans h
  | 23 => exact (hk 23 (.inl rfl)).1.trans h
  | 24 => exact (hk 24 (.inl rfl)).1.trans h
  | 25 => exact (hk 25 (.inl rfl)).1.trans h
  | 26 => exact (hk 26 (.inl rfl)).1.trans h
  | 27 => exact (hk 27 (.inl rfl)).1.trans h
  | 28 => exact (hk 28 (.inl rfl)).1.trans h
  | 29 => exact (hk 29 (.inl rfl)).1.trans h
  | 30 => exact (hk 30 (.inl rfl)).1.trans h
  | _ + 31 => trivial
end Go.Proofs.Ytngacnckejnllaa.State
