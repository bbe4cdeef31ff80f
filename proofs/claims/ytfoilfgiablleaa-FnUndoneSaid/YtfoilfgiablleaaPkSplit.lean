/- States: the tables of the regions of the program's split that draw their order (written by wip/tools/stsplit.py). States: the program's split of a leaf, as a contract: the state with the leaf's children, in memory of its own; nothing that was there is written (written by wip/tools/stsplit.py).
   Conditions: as each says. -/
import Derived.Test.YtfoilfgiablleaaStRoom
import Derived.Test.YtfoilfgiablleaaStPlace
import Derived.Test.YtfoilfgiablleaaStShare
set_option maxRecDepth 100000
namespace Go.Proofs.Ytfoilfgiablleaa.State
open Go.ChangeShapes Go.WideShapes Go.ChangeAt Go.RowKit Go.Proofs.Ytfoilfgiablleaa.Cell Go.Proofs.Ytfoilfgiablleaa.Mesh Go.Proofs.Ytfoilfgiablleaa.Law Go.Proofs.Ytfoilfgiablleaa.Ints Go.Proofs.Ytfoilfgiablleaa.Draws
set_option linter.unusedVariables false

/-- What each operation leaves. -/
def SpShG (R : Int) (g1 g2 g3 g4 n1 n2 n3 n4 c1 c2 c3 c4 k B : Nat) (xs : List C3) (ms ts bs : List Int) (m t lm tl : Int) (val : Nat → Value) (G : Nat → Grp) : Nat → Prop
  | 0 => val 0 = .pointer (some ⟨B, 3, none⟩)
  | 1 => val 1 = .slice (some ⟨g3, 0, none⟩) n3 c3
  | 2 => val 2 = .int .i64 (k : Int)
  | 3 => val 3 = .pointer (some ⟨g3, k, none⟩)
  | 4 => val 4 = .int .i64 t
  | 5 => val 5 = .int .i64 lm
  | 6 => val 6 = .pointer (some ⟨B, 2, none⟩)
  | 7 => val 7 = .slice (some ⟨g2, 0, none⟩) n2 c2
  | 8 => val 8 = .int .i64 (k : Int)
  | 9 => val 9 = .pointer (some ⟨g2, k, none⟩)
  | 10 => val 10 = .int .i64 m
  | 11 => val 11 = .int .i64 tl
  | 12 => val 12 = .int .i64 tl
  | _ => True
def SpShGDep : Nat → List Nat
  | 1 => [0] | 3 => [1, 2] | 4 => [3] | 7 => [6] | 9 => [7, 8] | 10 => [9] | 11 => [4, 5, 10] | 12 => [11] | _ => []
theorem SpShG_local (R : Int) (g1 g2 g3 g4 n1 n2 n3 n4 c1 c2 c3 c4 k B : Nat) (xs : List C3) (ms ts bs : List Int) (m t lm tl : Int) : Local SpShGDep (SpShG R g1 g2 g3 g4 n1 n2 n3 n4 c1 c2 c3 c4 k B xs ms ts bs m t lm tl) := by
  intro val val' G G' j hk h
  match j with
  | 0 => exact (hk 0 (.inl rfl)).1.trans h
  | 1 => exact (hk 1 (.inl rfl)).1.trans h
  | 2 => exact (hk 2 (.inl rfl)).1.trans h
  | 3 => exact (hk 3 (.inl rfl)).1.trans h
  | 4 => exact (hk 4 (.inl rfl)).1.trans h
  | 5 => exact (hk 5 (.inl rfl)).1.trans h
  | 6 => exact (hk 6 (.inl rfl)).1.trans h
  | 7 => exact (hk 7 (.inl rfl)).1.trans h
  | 8 => exact (hk 8 (.inl rfl)).1.trans h
  | 9 => exact (hk 9 (.inl rfl)).1.trans h
  | 10 => exact (hk 10 (.inl rfl)).1.trans h
  | 11 => exact (hk 11 (.inl rfl)).1.trans h
  | 12 => exact (hk 12 (.inl rfl)).1.trans h
  | _ + 13 => trivial

/-- What each operation leaves. -/
def SpMkG (R : Int) (g1 g2 g3 g4 n1 n2 n3 n4 c1 c2 c3 c4 k B : Nat) (xs : List C3) (ms ts bs : List Int) (m t lm tl : Int) (val : Nat → Value) (G : Nat → Grp) : Nat → Prop
  | 0 => val 0 = .pointer (some ⟨B, 0, none⟩)
  | 1 => val 1 = .pointer (some ⟨B, 0, none⟩)
  | 2 => val 2 = .int .i64 R
  | 3 => val 3 = .pointer (some ⟨B, 0, none⟩)
  | 4 => val 4 = .pointer (some ⟨B, 1, none⟩)
  | 5 => val 5 = .slice (some ⟨g1, 0, none⟩) n1 c1
  | 6 => ∃ (gc : Nat) (dc : Nat), val 6 = .slice (some ⟨gc, 0, none⟩) n1 dc ∧ ((val 8 = undef ∧ G 6 = rowG 36 3 (.slice (some ⟨gc, 0, none⟩) n1 dc) n1 (flatC xs)) ∨ ∃ (ge : Nat) (de : Nat), val 8 = .slice (some ⟨ge, 0, none⟩) (n1 + 1) de ∧ G 6 = rowG 36 3 (.slice (some ⟨ge, 0, none⟩) (n1 + 1) de) (n1 + 1) (flatC (split2 xs k)))
  | 7 => val 7 = .int .i64 (k : Int)
  | 8 => ∃ (ge : Nat) (de : Nat), val 8 = .slice (some ⟨ge, 0, none⟩) (n1 + 1) de ∧ G 6 = rowG 36 3 (.slice (some ⟨ge, 0, none⟩) (n1 + 1) de) (n1 + 1) (flatC (split2 xs k))
  | 9 => ∃ (ge : Nat) (de : Nat), val 9 = .agg #[.int .i64 R, .slice (some ⟨ge, 0, none⟩) (n1 + 1) de] ∧ val 8 = .slice (some ⟨ge, 0, none⟩) (n1 + 1) de
  | 10 => val 10 = .pointer (some ⟨B, 2, none⟩)
  | 11 => val 11 = .slice (some ⟨g2, 0, none⟩) n2 c2
  | 12 => val 12 = .int .i64 (k : Int)
  | 13 => ∃ (gm : Nat), val 13 = .slice (some ⟨gm, 0, none⟩) (n2 + 1) (n2 + 1) ∧ G 13 = rowG 3 1 (.slice (some ⟨gm, 0, none⟩) (n2 + 1) (n2 + 1)) (n2 + 1) (vals (wide ms k))
  | 14 => val 14 = .pointer (some ⟨B, 3, none⟩)
  | 15 => val 15 = .slice (some ⟨g3, 0, none⟩) n3 c3
  | 16 => val 16 = .int .i64 (k : Int)
  | 17 => ∃ (gt : Nat), val 17 = .slice (some ⟨gt, 0, none⟩) (n3 + 1) (n3 + 1) ∧ G 17 = rowG 3 1 (.slice (some ⟨gt, 0, none⟩) (n3 + 1) (n3 + 1)) (n3 + 1) (vals (wide ts k))
  | 18 => val 18 = .pointer (some ⟨B, 4, none⟩)
  | 19 => val 19 = .slice (some ⟨g4, 0, none⟩) n4 c4
  | 20 => ∃ (b4 : Option Addr) (d4 : Nat), val 20 = .slice b4 n4 d4 ∧ G 20 = rowG 3 1 (.slice b4 n4 d4) n4 (vals bs)
  | 21 => ∃ (ge : Nat) (de : Nat) (gm : Nat) (gt : Nat) (b4 : Option Addr) (d4 : Nat), val 21 = .agg #[.int .i64 R, .slice (some ⟨ge, 0, none⟩) (n1 + 1) de, .slice (some ⟨gm, 0, none⟩) (n2 + 1) (n2 + 1), .slice (some ⟨gt, 0, none⟩) (n3 + 1) (n3 + 1), .slice b4 n4 d4] ∧ val 9 = .agg #[.int .i64 R, .slice (some ⟨ge, 0, none⟩) (n1 + 1) de] ∧ val 13 = .slice (some ⟨gm, 0, none⟩) (n2 + 1) (n2 + 1) ∧ val 17 = .slice (some ⟨gt, 0, none⟩) (n3 + 1) (n3 + 1) ∧ val 20 = .slice b4 n4 d4
  | 22 => ∃ (Bf : Nat) (o0 : Value) (o1 : Value) (o2 : Value) (o3 : Value) (o4 : Value), val 22 = .pointer (some ⟨Bf, 0, none⟩) ∧ G 22 = boxG Bf 29 #[o0, o1, o2, o3, o4]
  | 23 => ∃ (Bf : Nat) (ge : Nat) (de : Nat) (gm : Nat) (gt : Nat) (b4 : Option Addr) (d4 : Nat), val 22 = .pointer (some ⟨Bf, 0, none⟩) ∧ val 21 = .agg #[.int .i64 R, .slice (some ⟨ge, 0, none⟩) (n1 + 1) de, .slice (some ⟨gm, 0, none⟩) (n2 + 1) (n2 + 1), .slice (some ⟨gt, 0, none⟩) (n3 + 1) (n3 + 1), .slice b4 n4 d4] ∧ G 22 = boxG Bf 29 #[.int .i64 R, .slice (some ⟨ge, 0, none⟩) (n1 + 1) de, .slice (some ⟨gm, 0, none⟩) (n2 + 1) (n2 + 1), .slice (some ⟨gt, 0, none⟩) (n3 + 1) (n3 + 1), .slice b4 n4 d4]
  | _ => True
def SpMkGDep : Nat → List Nat
  | 1 => [0] | 2 => [1] | 4 => [3] | 5 => [4] | 6 => [5] | 8 => [6, 7] | 9 => [2, 8] | 11 => [10] | 13 => [11, 12] | 15 => [14] | 17 => [15, 16] | 19 => [18] | 20 => [19] | 21 => [9, 13, 17, 20] | 23 => [22, 21] | _ => []
def SpMkGFwd : Nat → List Nat
  | 6 => [8] | _ => []
theorem SpMkG_local (R : Int) (g1 g2 g3 g4 n1 n2 n3 n4 c1 c2 c3 c4 k B : Nat) (xs : List C3) (ms ts bs : List Int) (m t lm tl : Int) : Local (fun j => SpMkGDep j ++ SpMkGFwd j) (SpMkG R g1 g2 g3 g4 n1 n2 n3 n4 c1 c2 c3 c4 k B xs ms ts bs m t lm tl) := by
  intro val val' G G' j hk h
  match j with
  | 0 => exact (hk 0 (.inl rfl)).1.trans h
  | 1 => exact (hk 1 (.inl rfl)).1.trans h
  | 2 => exact (hk 2 (.inl rfl)).1.trans h
  | 3 => exact (hk 3 (.inl rfl)).1.trans h
  | 4 => exact (hk 4 (.inl rfl)).1.trans h
  | 5 => exact (hk 5 (.inl rfl)).1.trans h
  | 6 =>
    show ∃ (gc : Nat) (dc : Nat), val' 6 = .slice (some ⟨gc, 0, none⟩) n1 dc ∧ ((val' 8 = undef ∧ G' 6 = rowG 36 3 (.slice (some ⟨gc, 0, none⟩) n1 dc) n1 (flatC xs)) ∨ ∃ (ge : Nat) (de : Nat), val' 8 = .slice (some ⟨ge, 0, none⟩) (n1 + 1) de ∧ G' 6 = rowG 36 3 (.slice (some ⟨ge, 0, none⟩) (n1 + 1) de) (n1 + 1) (flatC (split2 xs k)))
    rw [(hk 6 (.inl rfl)).1]
    rw [(hk 8 (.inr (by simp [SpMkGDep, SpMkGFwd]))).1]
    rw [(hk 6 (.inl rfl)).2]
    exact h
  | 7 => exact (hk 7 (.inl rfl)).1.trans h
  | 8 =>
    show ∃ (ge : Nat) (de : Nat), val' 8 = .slice (some ⟨ge, 0, none⟩) (n1 + 1) de ∧ G' 6 = rowG 36 3 (.slice (some ⟨ge, 0, none⟩) (n1 + 1) de) (n1 + 1) (flatC (split2 xs k))
    skip
    rw [(hk 8 (.inl rfl)).1]
    rw [(hk 6 (.inr (by simp [SpMkGDep, SpMkGFwd]))).2]
    exact h
  | 9 => obtain ⟨ge, de, h0, h1⟩ := h; exact ⟨ge, de, (hk 9 (.inl rfl)).1.trans h0, (hk 8 (.inr (by simp [SpMkGDep, SpMkGFwd]))).1.trans h1⟩
  | 10 => exact (hk 10 (.inl rfl)).1.trans h
  | 11 => exact (hk 11 (.inl rfl)).1.trans h
  | 12 => exact (hk 12 (.inl rfl)).1.trans h
  | 13 => obtain ⟨gm, h0, h1⟩ := h; exact ⟨gm, (hk 13 (.inl rfl)).1.trans h0, (hk 13 (.inl rfl)).2.trans h1⟩
  | 14 => exact (hk 14 (.inl rfl)).1.trans h
  | 15 => exact (hk 15 (.inl rfl)).1.trans h
  | 16 => exact (hk 16 (.inl rfl)).1.trans h
  | 17 => obtain ⟨gt, h0, h1⟩ := h; exact ⟨gt, (hk 17 (.inl rfl)).1.trans h0, (hk 17 (.inl rfl)).2.trans h1⟩
  | 18 => exact (hk 18 (.inl rfl)).1.trans h
  | 19 => exact (hk 19 (.inl rfl)).1.trans h
  | 20 => obtain ⟨b4, d4, h0, h1⟩ := h; exact ⟨b4, d4, (hk 20 (.inl rfl)).1.trans h0, (hk 20 (.inl rfl)).2.trans h1⟩
  | 21 => obtain ⟨ge, de, gm, gt, b4, d4, h0, h1, h2, h3, h4⟩ := h; exact ⟨ge, de, gm, gt, b4, d4, (hk 21 (.inl rfl)).1.trans h0, (hk 9 (.inr (by simp [SpMkGDep, SpMkGFwd]))).1.trans h1, (hk 13 (.inr (by simp [SpMkGDep, SpMkGFwd]))).1.trans h2, (hk 17 (.inr (by simp [SpMkGDep, SpMkGFwd]))).1.trans h3, (hk 20 (.inr (by simp [SpMkGDep, SpMkGFwd]))).1.trans h4⟩
  | 22 => obtain ⟨Bf, o0, o1, o2, o3, o4, h0, h1⟩ := h; exact ⟨Bf, o0, o1, o2, o3, o4, (hk 22 (.inl rfl)).1.trans h0, (hk 22 (.inl rfl)).2.trans h1⟩
  | 23 => obtain ⟨Bf, ge, de, gm, gt, b4, d4, h0, h1, h2⟩ := h; exact ⟨Bf, ge, de, gm, gt, b4, d4, (hk 22 (.inr (by simp [SpMkGDep, SpMkGFwd]))).1.trans h0, (hk 21 (.inr (by simp [SpMkGDep, SpMkGFwd]))).1.trans h1, (hk 22 (.inr (by simp [SpMkGDep, SpMkGFwd]))).2.trans h2⟩
  | _ + 24 => trivial

/-- What each operation leaves. -/
def SpPuG (R : Int) (g1 g2 g3 g4 n1 n2 n3 n4 c1 c2 c3 c4 k B : Nat) (xs : List C3) (ms ts bs : List Int) (m t lm tl : Int) (ge gm gt de d4 Bf : Nat) (b4 : Option Addr) (val : Nat → Value) (G : Nat → Grp) : Nat → Prop
  | 0 => val 0 = .agg #[.int .i64 R, .slice (some ⟨ge, 0, none⟩) (n1 + 1) de, .slice (some ⟨gm, 0, none⟩) (n2 + 1) (n2 + 1), .slice (some ⟨gt, 0, none⟩) (n3 + 1) (n3 + 1), .slice b4 n4 d4]
  | 1 => val 1 = .int .i64 (k : Int)
  | 2 => val 2 = .int .i64 ((k : Int) + 1)
  | 3 => val 3 = .agg #[.pointer (some ⟨gm, (k + 1), none⟩), .pointer (some ⟨gt, (k + 1), none⟩)]
  | 4 => val 4 = .int .i64 (m - lm)
  | 5 => val 5 = .pointer (some ⟨B, 3, none⟩)
  | 6 => val 6 = .slice (some ⟨g3, 0, none⟩) n3 c3
  | 7 => val 7 = .int .i64 (k : Int)
  | 8 => val 8 = .pointer (some ⟨g3, k, none⟩)
  | 9 => val 9 = .int .i64 t
  | 10 => val 10 = .int .i64 tl
  | 11 => val 11 = .int .i64 (t - tl)
  | 12 => G 12 = stateG (.slice (some ⟨ge, 0, none⟩) (n1 + 1) de) (.slice (some ⟨gm, 0, none⟩) (n2 + 1) (n2 + 1)) (.slice (some ⟨gt, 0, none⟩) (n3 + 1) (n3 + 1)) (.slice b4 n4 d4) (n1 + 1) (n2 + 1) (n3 + 1) n4 (split2 xs k) (((wide ms k).set k lm).set (k + 1) (m - lm)) (((wide ts k).set k tl).set (k + 1) (t - tl)) bs
  | _ => True
def SpPuGDep : Nat → List Nat
  | 2 => [1] | 3 => [0, 2] | 6 => [5] | 8 => [6, 7] | 9 => [8] | 11 => [9, 10] | 12 => [3, 4, 11] | _ => []
theorem SpPuG_local (R : Int) (g1 g2 g3 g4 n1 n2 n3 n4 c1 c2 c3 c4 k B : Nat) (xs : List C3) (ms ts bs : List Int) (m t lm tl : Int) (ge gm gt de d4 Bf : Nat) (b4 : Option Addr) : Local SpPuGDep (SpPuG R g1 g2 g3 g4 n1 n2 n3 n4 c1 c2 c3 c4 k B xs ms ts bs m t lm tl ge gm gt de d4 Bf b4) := by
  intro val val' G G' j hk h
  match j with
  | 0 => exact (hk 0 (.inl rfl)).1.trans h
  | 1 => exact (hk 1 (.inl rfl)).1.trans h
  | 2 => exact (hk 2 (.inl rfl)).1.trans h
  | 3 => exact (hk 3 (.inl rfl)).1.trans h
  | 4 => exact (hk 4 (.inl rfl)).1.trans h
  | 5 => exact (hk 5 (.inl rfl)).1.trans h
  | 6 => exact (hk 6 (.inl rfl)).1.trans h
  | 7 => exact (hk 7 (.inl rfl)).1.trans h
  | 8 => exact (hk 8 (.inl rfl)).1.trans h
  | 9 => exact (hk 9 (.inl rfl)).1.trans h
  | 10 => exact (hk 10 (.inl rfl)).1.trans h
  | 11 => exact (hk 11 (.inl rfl)).1.trans h
  | 12 =>
    show G' 12 = stateG (.slice (some ⟨ge, 0, none⟩) (n1 + 1) de) (.slice (some ⟨gm, 0, none⟩) (n2 + 1) (n2 + 1)) (.slice (some ⟨gt, 0, none⟩) (n3 + 1) (n3 + 1)) (.slice b4 n4 d4) (n1 + 1) (n2 + 1) (n3 + 1) n4 (split2 xs k) (((wide ms k).set k lm).set (k + 1) (m - lm)) (((wide ts k).set k tl).set (k + 1) (t - tl)) bs
    skip
    rw [(hk 12 (.inl rfl)).2]
    exact h
  | _ + 13 => trivial
end Go.Proofs.Ytfoilfgiablleaa.State

namespace Go.Proofs.Ytfoilfgiablleaa.State
open Go.ChangeShapes Go.WideShapes Go.ChangeAt Go.RowKit Go.Joins Go.Proofs.Ytfoilfgiablleaa.Cell Go.Proofs.Ytfoilfgiablleaa.Mesh Go.Proofs.Ytfoilfgiablleaa.Law Go.Proofs.Ytfoilfgiablleaa.Ints Go.Proofs.Ytfoilfgiablleaa.Draws Go.Deep
set_option linter.unusedVariables false

/-- A row that turned lies in its own block or in a new one. -/
theorem turned_in {W W' : World} {g0 g' n n0 c c0 s base : Nat} {t : TypeId} {ys zs : List Value} (hv : g' = g0 ∨ W.heap.size ≤ g') (ho : W'.ownsRow base t s (.slice (some ⟨g', 0, none⟩) n c) n ys) :
    ∀ b ∈ (rowG t s (.slice (some ⟨g', 0, none⟩) n c) n ys).B, (b ∈ (rowG t s (.slice (some ⟨g0, 0, none⟩) n0 c0) n0 zs).B ∨ W.heap.size ≤ b) ∧ b < W'.heap.size := by
  intro b hb
  have hb' : b = g' := by have h := hb; simp [rowG, Value.ownBlock] at h; omega
  subst hb'
  refine ⟨?_, (ho.lt _ rfl).2⟩
  rcases hv with rfl | h
  · left; simp [rowG, Value.ownBlock]
  · exact .inr h

set_option maxHeartbeats 16000000 in
theorem stSplit_is (R : Int) (g1 g2 g3 g4 n1 n2 n3 n4 c1 c2 c3 c4 k : Nat) (xs : List C3) (ms ts bs : List Int) (x : C3) (w : World) (h : RoomS w (some ⟨g1, 0, none⟩) (some ⟨g2, 0, none⟩) (some ⟨g3, 0, none⟩) (some ⟨g4, 0, none⟩) n1 n2 n3 n4 c1 c2 c3 c4 xs ms ts bs)
    (hp : PreS R xs ms ts bs) (hx : xs[k]? = some x) (hl : x.2.1 < 4) :
    Calls Try.prog 51 #[.agg #[.int .i64 R, .slice (some ⟨g1, 0, none⟩) n1 c1, .slice (some ⟨g2, 0, none⟩) n2 c2, .slice (some ⟨g3, 0, none⟩) n3 c3, .slice (some ⟨g4, 0, none⟩) n4 c4], .int .i64 (k : Int)] w (GivesS R (n1 + 1) (n2 + 1) (n3 + 1) n4 (split2 xs k) (splitM ms k) (splitT ms ts k) bs w) := by
  obtain ⟨ho, hn1, hn1'⟩ := mesh_parts hp.mesh
  obtain ⟨r1, r2, -⟩ : 1 ≤ R ∧ R ≤ 8 ∧ run xs = some (R * 16) := of_decide_eq_true hp.mesh
  have hkx := (List.getElem?_eq_some_iff.1 hx).1
  have e1 := h.r.l.len; have e2 := h.r.m.len; have e3 := h.r.t.len; have e4 := h.r.b.len
  have q1 := hp.lm; have q2 := hp.lt; have q3 := hp.lb
  obtain ⟨m, t, hm, ht, hmo⟩ := hp.at_ hkx
  obtain ⟨b1, b2, b3, b4⟩ : 0 ≤ m ∧ m ≤ 10000000 ∧ 0 ≤ t ∧ t ≤ 1000 * m := of_decide_eq_true hmo
  obtain ⟨-, -, b5, b6⟩ := mass_split hmo
  obtain ⟨b7, b8, -⟩ := leftM_bounds b1
  have hEV := fun u => even_is m b1 b2 u
  have hSH := fun u => share_is t (leftM m) m u
  have hSM : splitM ms k = two ms k (leftM m) (m - leftM m) := by unfold splitM; rw [atI_of hm]
  have hST : splitT ms ts k = two ts k (leftT m t) (t - leftT m t) := by unfold splitT; rw [atI_of hm, atI_of ht]
  have hSH' : ∀ u : World, Calls Try.prog 32 #[.int .i64 t, .int .i64 (leftM m), .int .i64 m] u fun e w' => e = .returned (.int .i64 (leftT m t)) ∧ u.grownBy w' none := hSH
  obtain ⟨lm, hlm⟩ : ∃ q, q = leftM m := ⟨_, rfl⟩
  obtain ⟨tl, htl⟩ : ∃ q, q = leftT m t := ⟨_, rfl⟩
  rw [← hlm] at hSM b7 b8 hSH'
  rw [← htl] at hST b5 b6 hSH'
  have HEV := Lib.hid (show ∀ u : World, Calls Try.prog 93 #[.int .i64 m] u fun e w' => e = .returned (.tuple #[.int .i64 lm, .int .i64 (m - lm)]) ∧ u.grownBy w' none from fun u => (hEV u).mono fun _ _ ⟨he, hw⟩ => ⟨by rw [he, hlm], hw ▸ grown_refl _⟩)
  have HSH := Lib.hid hSH'
  have HPM := Lib.hid (fun u (hu : w.grownBy u none) => withPlace_is g2 n2 c2 k ms u (h.r.m.on hu) (by omega) h.k2 (by omega))
  have HPT := Lib.hid (fun u (hu : w.grownBy u none) => withPlace_is g3 n3 c3 k ts u (h.r.t.on hu) (by omega) h.k3 (by omega))
  have HSM := Lib.hid (hSM.trans (wide_set (by omega) lm (m - lm)).symm)
  have HST := Lib.hid (hST.trans (wide_set (by omega) tl (t - tl)).symm)
  have HR := Lib.hid h.r; have HM := Lib.hid (And.intro hm ht); have HX := Lib.hid (And.intro hx (ho _ _ hx))
  have H1 := Lib.hid (show n1 ≤ 1048576 by omega); have H4 := Lib.hid (show n4 ≤ 1048576 by omega)
  have HN1 := Lib.hid (show 1 ≤ n1 by omega); have HN2 := Lib.hid (show n1 ≤ 1000 by omega)
  have HK2 := Lib.hid (show k < n2 by omega); have HK3 := Lib.hid (show k < n3 by omega)
  have i2 : (k : Int) < n2 := by omega
  have i3 : (k : Int) < n3 := by omega
  have i4 : (k : Int) ≤ 128 := by omega
  have hw1 : IntKind.i64.wrap (t - tl) = t - tl := IntWalk.i64_in _ (by omega)
  have hw2 : IntKind.i64.wrap ((k : Int) + 1) = (k : Int) + 1 := IntWalk.i64_in _ (by omega)
  have he := ((Held.nil w).box 29 #[.int .i64 R, .slice (some ⟨g1, 0, none⟩) n1 c1, .slice (some ⟨g2, 0, none⟩) n2 c2, .slice (some ⟨g3, 0, none⟩) n3 c3, .slice (some ⟨g4, 0, none⟩) n4 c4]).box 29 #[.int .i64 0, .slice none 0 0, .slice none 0 0, .slice none 0 0, .slice none 0 0]
  simp only [World.size_alloc] at he
  have HE := Lib.hid he; clear he
  clear h hp hx hl ho hn1 hn1' r1 r2 hkx e1 e2 e3 e4 q1 q2 q3 hmo b1 b2 b3 b4 b5 b6 b7 b8 hEV hSH hSH' hSM hST hlm htl hm ht i4
  go_enter Try.func51, Try.ntmps51
  go_upto_region 1 with fail
  generalize (w.alloc (.cells #[.int .i64 R, .slice (some ⟨g1, 0, none⟩) n1 c1, .slice (some ⟨g2, 0, none⟩) n2 c2, .slice (some ⟨g3, 0, none⟩) n3 c3, .slice (some ⟨g4, 0, none⟩) n4 c4] 29)).alloc (.cells #[.int .i64 0, .slice none 0 0, .slice none 0 0, .slice none 0 0, .slice none 0 0] 29) = W0 at *
  obtain ⟨z0, z1, z2, z3, z4⟩ := Law.box5 (HE.out.nth 0 rfl)
  have c7 := State.readsI_cell (HR.out.m.on HE.out.gr) HM.out.1
  go_upto_region 2 with (go_at_call 93; ((with_reducible refine (HEV.out _).mono ?_); rintro e w1 ⟨rfl, hg⟩; have HE1 := Lib.hid (HE.out.on hg); clear hg))
  clear z0 z1 z2 z3 z4 c7 HE HEV
  rename_i K hK
  refine Draws.wp_region_tabG (w := w) rfl (by kernel_rfl) (by kernel_rfl) State.SpShGDep (by kernel_rfl) [Law.boxG w.heap.size 29 #[.int .i64 R, .slice (some ⟨g1, 0, none⟩) n1 c1, .slice (some ⟨g2, 0, none⟩) n2 c2, .slice (some ⟨g3, 0, none⟩) n3 c3, .slice (some ⟨g4, 0, none⟩) n4 c4], Law.boxG (w.heap.size + 1) 29 #[.int .i64 0, .slice none 0 0, .slice none 0 0, .slice none 0 0, .slice none 0 0]] [] (fun _ => Law.emptyG) (State.SpShG R g1 g2 g3 g4 n1 n2 n3 n4 c1 c2 c3 c4 k w.heap.size xs ms ts bs m t lm tl) ?start ?step ?last
  case start => exact HE1.out.on (Mesh.gr_drew (Cell.grown_refl _))
  case step =>
    clear hK
    intro L a W val G i o hI ho hL hd
    have hi : i < 13 := by have := (Array.getElem?_eq_some_iff.1 ho).1; simpa using this
    have hloc := State.SpShG_local R g1 g2 g3 g4 n1 n2 n3 n4 c1 c2 c3 c4 k w.heap.size xs ms ts bs m t lm tl
    obtain ⟨z0, z1, z2, z3, z4⟩ := Law.box5 (hI.hd.nth 0 rfl)
    have c7 := State.readsI_cell (HR.out.m.on hI.hd.gr) HM.out.1
    have c8 := State.readsI_cell (HR.out.t.on hI.hd.gr) HM.out.2
    rcases (show i = 0 ∨ i = 1 ∨ i = 2 ∨ i = 3 ∨ i = 4 ∨ i = 5 ∨ i = 6 ∨ i = 7 ∨ i = 8 ∨ i = 9 ∨ i = 10 ∨ i = 11 ∨ i = 12 by omega) with rfl | rfl | rfl | rfl | rfl | rfl | rfl | rfl | rfl | rfl | rfl | rfl | rfl
    · obtain rfl := Option.some.inj ho
      have p2 := (hI.old 2 (by kernel_rfl) rfl).get
      refine Draws.wpOp_of (by rfl) rfl (State.wp_value (v := .pointer (some ⟨w.heap.size, 3, none⟩)) (w' := W) ?_ (hI.same hloc hL _ _ (Cell.grown_refl _) (Draws.upd_at _ _ _)))
      simp only [execOp]
      go_simp
    · obtain rfl := Option.some.inj ho
      have l0 := hd 0 (by simp [State.SpShGDep])
      have e0 := (hI.at_ 0 18 rfl l0).get
      rw [show val 0 = _ from hI.gd 0 l0] at e0
      refine Draws.wpOp_of (by rfl) rfl (State.wp_value (v := .slice (some ⟨g3, 0, none⟩) n3 c3) (w' := W) ?_ (hI.same hloc hL _ _ (Cell.grown_refl _) (Draws.upd_at _ _ _)))
      simp only [execOp]
      go_simp
    · obtain rfl := Option.some.inj ho
      have p1 := (hI.old 1 (by kernel_rfl) rfl).get
      refine Draws.wpOp_of (by rfl) rfl (State.wp_value (v := .int .i64 (k : Int)) (w' := W) ?_ (hI.same hloc hL _ _ (Cell.grown_refl _) (Draws.upd_at _ _ _)))
      simp only [execOp]
      go_simp
    · obtain rfl := Option.some.inj ho
      have l1 := hd 1 (by simp [State.SpShGDep])
      have e1 := (hI.at_ 1 19 rfl l1).get
      have l2 := hd 2 (by simp [State.SpShGDep])
      have e2 := (hI.at_ 2 20 rfl l2).get
      rw [show val 1 = _ from hI.gd 1 l1] at e1
      rw [show val 2 = _ from hI.gd 2 l2] at e2
      refine Draws.wpOp_of (by rfl) rfl (State.wp_value (v := .pointer (some ⟨g3, k, none⟩)) (w' := W) ?_ (hI.same hloc hL _ _ (Cell.grown_refl _) (Draws.upd_at _ _ _)))
      simp only [execOp]
      go_simp
    · obtain rfl := Option.some.inj ho
      have l3 := hd 3 (by simp [State.SpShGDep])
      have e3 := (hI.at_ 3 21 rfl l3).get
      rw [show val 3 = _ from hI.gd 3 l3] at e3
      refine Draws.wpOp_of (by rfl) rfl (State.wp_value (v := .int .i64 t) (w' := W) ?_ (hI.same hloc hL _ _ (Cell.grown_refl _) (Draws.upd_at _ _ _)))
      simp only [execOp]
      go_simp
    · obtain rfl := Option.some.inj ho
      have p5 := (hI.old 5 (by kernel_rfl) rfl).get
      refine Draws.wpOp_of (by rfl) rfl (State.wp_value (v := .int .i64 lm) (w' := W) ?_ (hI.same hloc hL _ _ (Cell.grown_refl _) (Draws.upd_at _ _ _)))
      simp only [execOp]
      go_simp
    · obtain rfl := Option.some.inj ho
      have p2 := (hI.old 2 (by kernel_rfl) rfl).get
      refine Draws.wpOp_of (by rfl) rfl (State.wp_value (v := .pointer (some ⟨w.heap.size, 2, none⟩)) (w' := W) ?_ (hI.same hloc hL _ _ (Cell.grown_refl _) (Draws.upd_at _ _ _)))
      simp only [execOp]
      go_simp
    · obtain rfl := Option.some.inj ho
      have l6 := hd 6 (by simp [State.SpShGDep])
      have e6 := (hI.at_ 6 24 rfl l6).get
      rw [show val 6 = _ from hI.gd 6 l6] at e6
      refine Draws.wpOp_of (by rfl) rfl (State.wp_value (v := .slice (some ⟨g2, 0, none⟩) n2 c2) (w' := W) ?_ (hI.same hloc hL _ _ (Cell.grown_refl _) (Draws.upd_at _ _ _)))
      simp only [execOp]
      go_simp
    · obtain rfl := Option.some.inj ho
      have p1 := (hI.old 1 (by kernel_rfl) rfl).get
      refine Draws.wpOp_of (by rfl) rfl (State.wp_value (v := .int .i64 (k : Int)) (w' := W) ?_ (hI.same hloc hL _ _ (Cell.grown_refl _) (Draws.upd_at _ _ _)))
      simp only [execOp]
      go_simp
    · obtain rfl := Option.some.inj ho
      have l7 := hd 7 (by simp [State.SpShGDep])
      have e7 := (hI.at_ 7 25 rfl l7).get
      have l8 := hd 8 (by simp [State.SpShGDep])
      have e8 := (hI.at_ 8 26 rfl l8).get
      rw [show val 7 = _ from hI.gd 7 l7] at e7
      rw [show val 8 = _ from hI.gd 8 l8] at e8
      refine Draws.wpOp_of (by rfl) rfl (State.wp_value (v := .pointer (some ⟨g2, k, none⟩)) (w' := W) ?_ (hI.same hloc hL _ _ (Cell.grown_refl _) (Draws.upd_at _ _ _)))
      simp only [execOp]
      go_simp
    · obtain rfl := Option.some.inj ho
      have l9 := hd 9 (by simp [State.SpShGDep])
      have e9 := (hI.at_ 9 27 rfl l9).get
      rw [show val 9 = _ from hI.gd 9 l9] at e9
      refine Draws.wpOp_of (by rfl) rfl (State.wp_value (v := .int .i64 m) (w' := W) ?_ (hI.same hloc hL _ _ (Cell.grown_refl _) (Draws.upd_at _ _ _)))
      simp only [execOp]
      go_simp
    · obtain rfl := Option.some.inj ho
      have l4 := hd 4 (by simp [State.SpShGDep])
      have e4 := (hI.at_ 4 22 rfl l4).get
      have l5 := hd 5 (by simp [State.SpShGDep])
      have e5 := (hI.at_ 5 23 rfl l5).get
      have l10 := hd 10 (by simp [State.SpShGDep])
      have e10 := (hI.at_ 10 28 rfl l10).get
      rw [show val 4 = _ from hI.gd 4 l4] at e4
      rw [show val 5 = _ from hI.gd 5 l5] at e5
      rw [show val 10 = _ from hI.gd 10 l10] at e10
      refine Draws.wpOp_of (by rfl) rfl ?_
      unfold Oper.wp
      simp only [execOp]
      go_simp
      refine Calls.mono (P := Try.prog) (HSH.out W) ?_
      rintro e w1 ⟨rfl, hg⟩
      exact hI.same hloc hL _ (.int .i64 tl) hg (Draws.upd_at _ _ _)
    · obtain rfl := Option.some.inj ho
      have l11 := hd 11 (by simp [State.SpShGDep])
      have e11 := (hI.at_ 11 29 rfl l11).get
      rw [show val 11 = _ from hI.gd 11 l11] at e11
      refine Draws.wpOp_of (by rfl) rfl (State.wp_value (v := .int .i64 tl) (w' := W) ?_ (hI.same hloc hL _ _ (Cell.grown_refl _) (Draws.upd_at _ _ _)))
      simp only [execOp]
      go_simp
  case last =>
    intro L a_ W val G hI hall
    have v12 : val 12 = .int .i64 tl := hI.gd 12 (hall 12 (by simp))
    have HE2 := Lib.hid (show Law.Held w W [Law.boxG w.heap.size 29 #[.int .i64 R, .slice (some ⟨g1, 0, none⟩) n1 c1, .slice (some ⟨g2, 0, none⟩) n2 c2, .slice (some ⟨g3, 0, none⟩) n3 c3, .slice (some ⟨g4, 0, none⟩) n4 c4], Law.boxG (w.heap.size + 1) 29 #[.int .i64 0, .slice none 0 0, .slice none 0 0, .slice none 0 0, .slice none 0 0]] from hI.hd)
    have ha := hI.frame (by kernel_rfl) hall
    refine hK _ _ ?_
    clear hK hI hall HE1 HSH
    simp [Draws.frameOf, Draws.slotOf, Act.put, List.range, List.range.loop] at ha
    subst ha
    rw [v12]
    clear v12
    go_upto_region 3 with fail
    rename_i K hK
    refine Draws.wp_region_tabG (w := w) rfl (by kernel_rfl) (by kernel_rfl) State.SpMkGDep (by kernel_rfl) [Law.boxG w.heap.size 29 #[.int .i64 R, .slice (some ⟨g1, 0, none⟩) n1 c1, .slice (some ⟨g2, 0, none⟩) n2 c2, .slice (some ⟨g3, 0, none⟩) n3 c3, .slice (some ⟨g4, 0, none⟩) n4 c4], Law.boxG (w.heap.size + 1) 29 #[.int .i64 0, .slice none 0 0, .slice none 0 0, .slice none 0 0, .slice none 0 0]] [22, 6, 13, 17, 20] (fun _ => Law.emptyG) (State.SpMkG R g1 g2 g3 g4 n1 n2 n3 n4 c1 c2 c3 c4 k w.heap.size xs ms ts bs m t lm tl) ?start ?step ?last
    case start => exact (((((HE2.out.on (Mesh.gr_drew (Cell.grown_refl _))).addE).addE).addE).addE).addE
    case step =>
      clear hK
      intro L a W val G i o hI ho hL hd
      have hi : i < 24 := by have := (Array.getElem?_eq_some_iff.1 ho).1; simpa using this
      have hloc := State.SpMkG_local R g1 g2 g3 g4 n1 n2 n3 n4 c1 c2 c3 c4 k w.heap.size xs ms ts bs m t lm tl
      obtain ⟨z0, z1, z2, z3, z4⟩ := Law.box5 (hI.hd.nth 0 rfl)
      rcases (show i = 0 ∨ i = 1 ∨ i = 2 ∨ i = 3 ∨ i = 4 ∨ i = 5 ∨ i = 6 ∨ i = 7 ∨ i = 8 ∨ i = 9 ∨ i = 10 ∨ i = 11 ∨ i = 12 ∨ i = 13 ∨ i = 14 ∨ i = 15 ∨ i = 16 ∨ i = 17 ∨ i = 18 ∨ i = 19 ∨ i = 20 ∨ i = 21 ∨ i = 22 ∨ i = 23 by omega) with rfl | rfl | rfl | rfl | rfl | rfl | rfl | rfl | rfl | rfl | rfl | rfl | rfl | rfl | rfl | rfl | rfl | rfl | rfl | rfl | rfl | rfl | rfl | rfl
      · obtain rfl := Option.some.inj ho
        have p2 := (hI.old 2 (by kernel_rfl) rfl).get
        refine Draws.wpOp_of (by rfl) rfl (State.wp_value (v := .pointer (some ⟨w.heap.size, 0, none⟩)) (w' := W) ?_ (hI.sameF hloc (by kernel_rfl) hL _ _ (Cell.grown_refl _) (Draws.upd_at _ _ _)))
        simp only [execOp]
        go_simp
      · obtain rfl := Option.some.inj ho
        have l0 := hd 0 (by simp [State.SpMkGDep])
        have e0 := (hI.at_ 0 30 rfl l0).get
        rw [show val 0 = _ from hI.gd 0 l0] at e0
        refine Draws.wpOp_of (by rfl) rfl (State.wp_value (v := .pointer (some ⟨w.heap.size, 0, none⟩)) (w' := W) ?_ (hI.sameF hloc (by kernel_rfl) hL _ _ (Cell.grown_refl _) (Draws.upd_at _ _ _)))
        simp only [execOp]
        go_simp
      · obtain rfl := Option.some.inj ho
        have l1 := hd 1 (by simp [State.SpMkGDep])
        have e1 := (hI.at_ 1 31 rfl l1).get
        rw [show val 1 = _ from hI.gd 1 l1] at e1
        refine Draws.wpOp_of (by rfl) rfl (State.wp_value (v := .int .i64 R) (w' := W) ?_ (hI.sameF hloc (by kernel_rfl) hL _ _ (Cell.grown_refl _) (Draws.upd_at _ _ _)))
        simp only [execOp]
        go_simp
      · obtain rfl := Option.some.inj ho
        have p2 := (hI.old 2 (by kernel_rfl) rfl).get
        refine Draws.wpOp_of (by rfl) rfl (State.wp_value (v := .pointer (some ⟨w.heap.size, 0, none⟩)) (w' := W) ?_ (hI.sameF hloc (by kernel_rfl) hL _ _ (Cell.grown_refl _) (Draws.upd_at _ _ _)))
        simp only [execOp]
        go_simp
      · obtain rfl := Option.some.inj ho
        have l3 := hd 3 (by simp [State.SpMkGDep])
        have e3 := (hI.at_ 3 33 rfl l3).get
        rw [show val 3 = _ from hI.gd 3 l3] at e3
        refine Draws.wpOp_of (by rfl) rfl (State.wp_value (v := .pointer (some ⟨w.heap.size, 1, none⟩)) (w' := W) ?_ (hI.sameF hloc (by kernel_rfl) hL _ _ (Cell.grown_refl _) (Draws.upd_at _ _ _)))
        simp only [execOp]
        go_simp
      · obtain rfl := Option.some.inj ho
        have l4 := hd 4 (by simp [State.SpMkGDep])
        have e4 := (hI.at_ 4 34 rfl l4).get
        rw [show val 4 = _ from hI.gd 4 l4] at e4
        refine Draws.wpOp_of (by rfl) rfl (State.wp_value (v := .slice (some ⟨g1, 0, none⟩) n1 c1) (w' := W) ?_ (hI.sameF hloc (by kernel_rfl) hL _ _ (Cell.grown_refl _) (Draws.upd_at _ _ _)))
        simp only [execOp]
        go_simp
      · obtain rfl := Option.some.inj ho
        have l5 := hd 5 (by simp [State.SpMkGDep])
        have e5 := (hI.at_ 5 35 rfl l5).get
        rw [show val 5 = _ from hI.gd 5 l5] at e5
        refine Draws.wpOp_of (by rfl) rfl ?_
        unfold Oper.wp
        simp only [execOp]
        go_simp
        refine Calls.mono (P := Try.prog) (State.cloneC_is W.heap.size _ n1 c1 xs W (HR.out.l.on hI.hd.gr) H1.out (Nat.le_refl _)) ?_
        rintro e w1 ⟨v, rfl, ho, hg⟩
        obtain ⟨gc, dc, rfl⟩ := Mesh.own_at1 ho HN1.out
        exact hI.madeF hloc (by kernel_rfl) hL _ (.slice (some ⟨gc, 0, none⟩) n1 dc) (Law.rowG 36 3 (.slice (some ⟨gc, 0, none⟩) n1 dc) n1 (Mesh.flatC xs)) (hI.hd.fill 3 (g' := Law.rowG 36 3 (.slice (some ⟨gc, 0, none⟩) n1 dc) n1 (Mesh.flatC xs)) (congrArg some (hI.no 6 hL)) hg (Law.own_zero ho) (fun b hb => ho.lt b (by simpa [Law.rowG] using hb))) ⟨gc, dc, Draws.upd_at _ _ _, .inl ⟨(Draws.upd_off _ _ (by decide)).trans (hI.nv 8 (hI.not_yet (j := 8) (by decide) hL)), Draws.upd_at _ _ _⟩⟩
      · obtain rfl := Option.some.inj ho
        have p1 := (hI.old 1 (by kernel_rfl) rfl).get
        refine Draws.wpOp_of (by rfl) rfl (State.wp_value (v := .int .i64 (k : Int)) (w' := W) ?_ (hI.sameF hloc (by kernel_rfl) hL _ _ (Cell.grown_refl _) (Draws.upd_at _ _ _)))
        simp only [execOp]
        go_simp
      · obtain rfl := Option.some.inj ho
        have l6 := hd 6 (by simp [State.SpMkGDep])
        have e6 := (hI.at_ 6 36 rfl l6).get
        have l7 := hd 7 (by simp [State.SpMkGDep])
        have e7 := (hI.at_ 7 37 rfl l7).get
        obtain ⟨gc, dc, v6, c6⟩ := hI.gd 6 l6
        rw [v6] at e6
        rw [show val 7 = _ from hI.gd 7 l7] at e7
        obtain ⟨-, g6⟩ | ⟨ge, de, v8, -⟩ := c6
        case inr => rw [hI.nv 8 hL] at v8; first | cases v8 | simp [undef] at v8
        case inl =>
          have hown := hI.hd.own 3 (congrArg some g6)
          refine Draws.wpOp_of (by rfl) rfl ?_
          unfold Oper.wp
          simp only [execOp]
          go_simp
          refine Calls.mono (P := Try.prog) (Mesh.splitLeaf_is w.heap.size gc n1 dc k xs x W hown HX.out.1 HX.out.2 HN2.out hI.hd.gr.size) ?_
          rintro e w1 ⟨ge, de, rfl, ho, hg, hnw⟩
          exact hI.turnedF (c := 6) hloc (by kernel_rfl) hL _ (.slice (some ⟨ge, 0, none⟩) (n1 + 1) de) (Law.rowG 36 3 (.slice (some ⟨ge, 0, none⟩) (n1 + 1) de) (n1 + 1) (Mesh.flatC (Mesh.split2 xs k))) (hI.hd.renew 3 (g' := Law.rowG 36 3 (.slice (some ⟨ge, 0, none⟩) (n1 + 1) de) (n1 + 1) (Mesh.flatC (Mesh.split2 xs k))) (congrArg some g6) (Law.Turned.of hg) (Law.own_zero ho) (State.turned_in hnw ho)) l6 (by kernel_rfl) ⟨gc, dc, (Draws.upd_off _ _ (by decide)).trans v6, .inr ⟨ge, de, Draws.upd_at _ _ _, Draws.upd_at _ _ _⟩⟩ ⟨ge, de, Draws.upd_at _ _ _, Draws.upd_at _ _ _⟩
      · obtain rfl := Option.some.inj ho
        have l2 := hd 2 (by simp [State.SpMkGDep])
        have e2 := (hI.at_ 2 32 rfl l2).get
        have l8 := hd 8 (by simp [State.SpMkGDep])
        have e8 := (hI.at_ 8 38 rfl l8).get
        rw [show val 2 = _ from hI.gd 2 l2] at e2
        obtain ⟨ge, de, v8, c8⟩ := hI.gd 8 l8
        rw [v8] at e8
        refine Draws.wpOp_of (by rfl) rfl (State.wp_value (v := .agg #[.int .i64 R, .slice (some ⟨ge, 0, none⟩) (n1 + 1) de]) (w' := W) ?_ (hI.sameF hloc (by kernel_rfl) hL _ _ (Cell.grown_refl _) ⟨ge, de, Draws.upd_at _ _ _, v8⟩))
        simp only [execOp]
        go_simp
      · obtain rfl := Option.some.inj ho
        have p2 := (hI.old 2 (by kernel_rfl) rfl).get
        refine Draws.wpOp_of (by rfl) rfl (State.wp_value (v := .pointer (some ⟨w.heap.size, 2, none⟩)) (w' := W) ?_ (hI.sameF hloc (by kernel_rfl) hL _ _ (Cell.grown_refl _) (Draws.upd_at _ _ _)))
        simp only [execOp]
        go_simp
      · obtain rfl := Option.some.inj ho
        have l10 := hd 10 (by simp [State.SpMkGDep])
        have e10 := (hI.at_ 10 40 rfl l10).get
        rw [show val 10 = _ from hI.gd 10 l10] at e10
        refine Draws.wpOp_of (by rfl) rfl (State.wp_value (v := .slice (some ⟨g2, 0, none⟩) n2 c2) (w' := W) ?_ (hI.sameF hloc (by kernel_rfl) hL _ _ (Cell.grown_refl _) (Draws.upd_at _ _ _)))
        simp only [execOp]
        go_simp
      · obtain rfl := Option.some.inj ho
        have p1 := (hI.old 1 (by kernel_rfl) rfl).get
        refine Draws.wpOp_of (by rfl) rfl (State.wp_value (v := .int .i64 (k : Int)) (w' := W) ?_ (hI.sameF hloc (by kernel_rfl) hL _ _ (Cell.grown_refl _) (Draws.upd_at _ _ _)))
        simp only [execOp]
        go_simp
      · obtain rfl := Option.some.inj ho
        have l11 := hd 11 (by simp [State.SpMkGDep])
        have e11 := (hI.at_ 11 41 rfl l11).get
        have l12 := hd 12 (by simp [State.SpMkGDep])
        have e12 := (hI.at_ 12 42 rfl l12).get
        rw [show val 11 = _ from hI.gd 11 l11] at e11
        rw [show val 12 = _ from hI.gd 12 l12] at e12
        refine Draws.wpOp_of (by rfl) rfl ?_
        unfold Oper.wp
        simp only [execOp]
        go_simp
        refine Calls.mono (P := Try.prog) (HPM.out W hI.hd.gr) ?_
        rintro e w1 ⟨gm, rfl, ho, hg⟩
        exact hI.madeF hloc (by kernel_rfl) hL _ (.slice (some ⟨gm, 0, none⟩) (n2 + 1) (n2 + 1)) (Law.rowG 3 1 (.slice (some ⟨gm, 0, none⟩) (n2 + 1) (n2 + 1)) (n2 + 1) (Ints.vals (State.wide ms k))) (hI.hd.fill 4 (g' := Law.rowG 3 1 (.slice (some ⟨gm, 0, none⟩) (n2 + 1) (n2 + 1)) (n2 + 1) (Ints.vals (State.wide ms k))) (congrArg some (hI.no 13 hL)) hg (Law.own_zero ho) (fun b hb => ho.lt b (by simpa [Law.rowG] using hb))) ⟨gm, Draws.upd_at _ _ _, Draws.upd_at _ _ _⟩
      · obtain rfl := Option.some.inj ho
        have p2 := (hI.old 2 (by kernel_rfl) rfl).get
        refine Draws.wpOp_of (by rfl) rfl (State.wp_value (v := .pointer (some ⟨w.heap.size, 3, none⟩)) (w' := W) ?_ (hI.sameF hloc (by kernel_rfl) hL _ _ (Cell.grown_refl _) (Draws.upd_at _ _ _)))
        simp only [execOp]
        go_simp
      · obtain rfl := Option.some.inj ho
        have l14 := hd 14 (by simp [State.SpMkGDep])
        have e14 := (hI.at_ 14 44 rfl l14).get
        rw [show val 14 = _ from hI.gd 14 l14] at e14
        refine Draws.wpOp_of (by rfl) rfl (State.wp_value (v := .slice (some ⟨g3, 0, none⟩) n3 c3) (w' := W) ?_ (hI.sameF hloc (by kernel_rfl) hL _ _ (Cell.grown_refl _) (Draws.upd_at _ _ _)))
        simp only [execOp]
        go_simp
      · obtain rfl := Option.some.inj ho
        have p1 := (hI.old 1 (by kernel_rfl) rfl).get
        refine Draws.wpOp_of (by rfl) rfl (State.wp_value (v := .int .i64 (k : Int)) (w' := W) ?_ (hI.sameF hloc (by kernel_rfl) hL _ _ (Cell.grown_refl _) (Draws.upd_at _ _ _)))
        simp only [execOp]
        go_simp
      · obtain rfl := Option.some.inj ho
        have l15 := hd 15 (by simp [State.SpMkGDep])
        have e15 := (hI.at_ 15 45 rfl l15).get
        have l16 := hd 16 (by simp [State.SpMkGDep])
        have e16 := (hI.at_ 16 46 rfl l16).get
        rw [show val 15 = _ from hI.gd 15 l15] at e15
        rw [show val 16 = _ from hI.gd 16 l16] at e16
        refine Draws.wpOp_of (by rfl) rfl ?_
        unfold Oper.wp
        simp only [execOp]
        go_simp
        refine Calls.mono (P := Try.prog) (HPT.out W hI.hd.gr) ?_
        rintro e w1 ⟨gt, rfl, ho, hg⟩
        exact hI.madeF hloc (by kernel_rfl) hL _ (.slice (some ⟨gt, 0, none⟩) (n3 + 1) (n3 + 1)) (Law.rowG 3 1 (.slice (some ⟨gt, 0, none⟩) (n3 + 1) (n3 + 1)) (n3 + 1) (Ints.vals (State.wide ts k))) (hI.hd.fill 5 (g' := Law.rowG 3 1 (.slice (some ⟨gt, 0, none⟩) (n3 + 1) (n3 + 1)) (n3 + 1) (Ints.vals (State.wide ts k))) (congrArg some (hI.no 17 hL)) hg (Law.own_zero ho) (fun b hb => ho.lt b (by simpa [Law.rowG] using hb))) ⟨gt, Draws.upd_at _ _ _, Draws.upd_at _ _ _⟩
      · obtain rfl := Option.some.inj ho
        have p2 := (hI.old 2 (by kernel_rfl) rfl).get
        refine Draws.wpOp_of (by rfl) rfl (State.wp_value (v := .pointer (some ⟨w.heap.size, 4, none⟩)) (w' := W) ?_ (hI.sameF hloc (by kernel_rfl) hL _ _ (Cell.grown_refl _) (Draws.upd_at _ _ _)))
        simp only [execOp]
        go_simp
      · obtain rfl := Option.some.inj ho
        have l18 := hd 18 (by simp [State.SpMkGDep])
        have e18 := (hI.at_ 18 48 rfl l18).get
        rw [show val 18 = _ from hI.gd 18 l18] at e18
        refine Draws.wpOp_of (by rfl) rfl (State.wp_value (v := .slice (some ⟨g4, 0, none⟩) n4 c4) (w' := W) ?_ (hI.sameF hloc (by kernel_rfl) hL _ _ (Cell.grown_refl _) (Draws.upd_at _ _ _)))
        simp only [execOp]
        go_simp
      · obtain rfl := Option.some.inj ho
        have l19 := hd 19 (by simp [State.SpMkGDep])
        have e19 := (hI.at_ 19 49 rfl l19).get
        rw [show val 19 = _ from hI.gd 19 l19] at e19
        refine Draws.wpOp_of (by rfl) rfl ?_
        unfold Oper.wp
        simp only [execOp]
        go_simp
        refine Calls.mono (P := Try.prog) (State.cloneI_is W.heap.size _ n4 c4 bs W (HR.out.b.on hI.hd.gr) H4.out (Nat.le_refl _)) ?_
        rintro e w1 ⟨v, rfl, ho, hg⟩
        obtain ⟨b4, d4, rfl⟩ := State.own_shapeAny ho
        exact hI.madeF hloc (by kernel_rfl) hL _ (.slice b4 n4 d4) (Law.rowG 3 1 (.slice b4 n4 d4) n4 (Ints.vals bs)) (hI.hd.fill 6 (g' := Law.rowG 3 1 (.slice b4 n4 d4) n4 (Ints.vals bs)) (congrArg some (hI.no 20 hL)) hg (Law.own_zero ho) (fun b hb => ho.lt b (by simpa [Law.rowG] using hb))) ⟨b4, d4, Draws.upd_at _ _ _, Draws.upd_at _ _ _⟩
      · obtain rfl := Option.some.inj ho
        have l9 := hd 9 (by simp [State.SpMkGDep])
        have e9 := (hI.at_ 9 39 rfl l9).get
        have l13 := hd 13 (by simp [State.SpMkGDep])
        have e13 := (hI.at_ 13 43 rfl l13).get
        have l17 := hd 17 (by simp [State.SpMkGDep])
        have e17 := (hI.at_ 17 47 rfl l17).get
        have l20 := hd 20 (by simp [State.SpMkGDep])
        have e20 := (hI.at_ 20 50 rfl l20).get
        obtain ⟨ge, de, v9, -⟩ := hI.gd 9 l9
        rw [v9] at e9
        obtain ⟨gm, v13, -⟩ := hI.gd 13 l13
        rw [v13] at e13
        obtain ⟨gt, v17, -⟩ := hI.gd 17 l17
        rw [v17] at e17
        obtain ⟨b4, d4, v20, -⟩ := hI.gd 20 l20
        rw [v20] at e20
        refine Draws.wpOp_of (by rfl) rfl (State.wp_value (v := .agg #[.int .i64 R, .slice (some ⟨ge, 0, none⟩) (n1 + 1) de, .slice (some ⟨gm, 0, none⟩) (n2 + 1) (n2 + 1), .slice (some ⟨gt, 0, none⟩) (n3 + 1) (n3 + 1), .slice b4 n4 d4]) (w' := W) ?_ (hI.sameF hloc (by kernel_rfl) hL _ _ (Cell.grown_refl _) ⟨ge, de, gm, gt, b4, d4, Draws.upd_at _ _ _, v9, v13, v17, v20⟩))
        simp only [execOp]
        go_simp
      · obtain rfl := Option.some.inj ho
        refine Draws.wpOp_of (by rfl) rfl (State.wp_value (v := .pointer (some ⟨W.heap.size, 0, none⟩)) (w' := W.alloc (.cells #[.int .i64 0, .slice none 0 0, .slice none 0 0, .slice none 0 0, .slice none 0 0] 29)) ?_ ?_)
        · simp only [execOp]
          go_simp
        exact hI.madeF hloc (by kernel_rfl) hL _ _ (Law.boxG W.heap.size 29 #[.int .i64 0, .slice none 0 0, .slice none 0 0, .slice none 0 0, .slice none 0 0]) (hI.hd.fill 2 (g' := Law.boxG W.heap.size 29 #[.int .i64 0, .slice none 0 0, .slice none 0 0, .slice none 0 0, .slice none 0 0]) (congrArg some (hI.no 22 hL)) (World.grownBy_alloc W _ none) (World.alloc_heap_new W _) (fun b hb => by have : b = W.heap.size := (by simpa [Law.boxG] using hb); subst this; simp)) ⟨W.heap.size, _, _, _, _, _, Draws.upd_at _ _ _, Draws.upd_at _ _ _⟩
      · obtain rfl := Option.some.inj ho
        have l22 := hd 22 (by simp [State.SpMkGDep])
        have e22 := (hI.at_ 22 8 rfl l22).get
        have l21 := hd 21 (by simp [State.SpMkGDep])
        have e21 := (hI.at_ 21 51 rfl l21).get
        obtain ⟨Bf, o0, o1, o2, o3, o4, v22, -⟩ := hI.gd 22 l22
        rw [v22] at e22
        obtain ⟨ge, de, gm, gt, b4, d4, v21, -⟩ := hI.gd 21 l21
        rw [v21] at e21
        obtain ⟨Bf', o0, o1, o2, o3, o4, v22', g22⟩ := hI.gd 22 l22
        rw [v22] at v22'
        cases v22'
        obtain ⟨y0, y1, y2, y3, y4⟩ := Law.box5 (hI.hd.nth 2 (congrArg some g22))
        obtain ⟨f0, f1, f2, f3, f4⟩ := Law.free5 (hI.hd.nth 2 (congrArg some g22))
        refine Draws.wpOp_of (by rfl) rfl (State.wp_skip (w' := ((((W.setCell ⟨Bf, 0, none⟩ (.int .i64 R)).setCell ⟨Bf, 1, none⟩ (.slice (some ⟨ge, 0, none⟩) (n1 + 1) de)).setCell ⟨Bf, 2, none⟩ (.slice (some ⟨gm, 0, none⟩) (n2 + 1) (n2 + 1))).setCell ⟨Bf, 3, none⟩ (.slice (some ⟨gt, 0, none⟩) (n3 + 1) (n3 + 1))).setCell ⟨Bf, 4, none⟩ (.slice b4 n4 d4)) ?_ ?_)
        · simp only [execOp]
          go_simp
        exact hI.turnedF (c := 22) hloc (by kernel_rfl) hL _ undef (Law.boxG Bf 29 #[.int .i64 R, .slice (some ⟨ge, 0, none⟩) (n1 + 1) de, .slice (some ⟨gm, 0, none⟩) (n2 + 1) (n2 + 1), .slice (some ⟨gt, 0, none⟩) (n3 + 1) (n3 + 1), .slice b4 n4 d4]) (hI.hd.put5 2 (congrArg some g22) (.int .i64 R) (.slice (some ⟨ge, 0, none⟩) (n1 + 1) de) (.slice (some ⟨gm, 0, none⟩) (n2 + 1) (n2 + 1)) (.slice (some ⟨gt, 0, none⟩) (n3 + 1) (n3 + 1)) (.slice b4 n4 d4)) l22 (by kernel_rfl) ⟨Bf, _, _, _, _, _, (Draws.upd_off _ _ (by decide)).trans v22, Draws.upd_at _ _ _⟩ ⟨Bf, ge, de, gm, gt, b4, d4, (Draws.upd_off _ _ (by decide)).trans v22, (Draws.upd_off _ _ (by decide)).trans v21, Draws.upd_at _ _ _⟩
    case last =>
      intro L a_ W val G hI hall
      have al : ∀ i, i < 24 → L i = true := fun i hi => hall i (by simpa using hi)
      obtain ⟨ge, de, gm, gt, b4, d4, v21, v9, v13, v17, v20⟩ := hI.gd 21 (al 21 (by decide))
      obtain ⟨Bf, ge', de', gm', gt', b4', d4', v22, u, r22⟩ := hI.gd 23 (al 23 (by decide))
      rw [v21] at u
      cases u
      obtain ⟨ge', de', u, v8⟩ := hI.gd 9 (al 9 (by decide))
      rw [v9] at u
      cases u
      obtain ⟨ge', de', u, r6⟩ := hI.gd 8 (al 8 (by decide))
      rw [v8] at u
      cases u
      obtain ⟨gm', u, r13⟩ := hI.gd 13 (al 13 (by decide))
      rw [v13] at u
      cases u
      obtain ⟨gt', u, r17⟩ := hI.gd 17 (al 17 (by decide))
      rw [v17] at u
      cases u
      obtain ⟨b4', d4', u, r20⟩ := hI.gd 20 (al 20 (by decide))
      rw [v20] at u
      cases u
      have hH : Law.Held w W [Law.boxG w.heap.size 29 #[.int .i64 R, .slice (some ⟨g1, 0, none⟩) n1 c1, .slice (some ⟨g2, 0, none⟩) n2 c2, .slice (some ⟨g3, 0, none⟩) n3 c3, .slice (some ⟨g4, 0, none⟩) n4 c4], Law.boxG (w.heap.size + 1) 29 #[.int .i64 0, .slice none 0 0, .slice none 0 0, .slice none 0 0, .slice none 0 0], G 22, G 6, G 13, G 17, G 20] := hI.hd
      rw [r6, r13, r17, r20, r22] at hH
      have hH2 : Law.Held w W [Law.boxG w.heap.size 29 #[.int .i64 R, .slice (some ⟨g1, 0, none⟩) n1 c1, .slice (some ⟨g2, 0, none⟩) n2 c2, .slice (some ⟨g3, 0, none⟩) n3 c3, .slice (some ⟨g4, 0, none⟩) n4 c4], Law.boxG (w.heap.size + 1) 29 #[.int .i64 0, .slice none 0 0, .slice none 0 0, .slice none 0 0, .slice none 0 0], Law.boxG Bf 29 #[.int .i64 R, .slice (some ⟨ge, 0, none⟩) (n1 + 1) de, .slice (some ⟨gm, 0, none⟩) (n2 + 1) (n2 + 1), .slice (some ⟨gt, 0, none⟩) (n3 + 1) (n3 + 1), .slice b4 n4 d4], State.stateG (.slice (some ⟨ge, 0, none⟩) (n1 + 1) de) (.slice (some ⟨gm, 0, none⟩) (n2 + 1) (n2 + 1)) (.slice (some ⟨gt, 0, none⟩) (n3 + 1) (n3 + 1)) (.slice b4 n4 d4) (n1 + 1) (n2 + 1) (n3 + 1) n4 (Mesh.split2 xs k) (State.wide ms k) (State.wide ts k) bs] := State.Held.asState (gs1 := [Law.boxG w.heap.size 29 #[.int .i64 R, .slice (some ⟨g1, 0, none⟩) n1 c1, .slice (some ⟨g2, 0, none⟩) n2 c2, .slice (some ⟨g3, 0, none⟩) n3 c3, .slice (some ⟨g4, 0, none⟩) n4 c4], Law.boxG (w.heap.size + 1) 29 #[.int .i64 0, .slice none 0 0, .slice none 0 0, .slice none 0 0, .slice none 0 0], Law.boxG Bf 29 #[.int .i64 R, .slice (some ⟨ge, 0, none⟩) (n1 + 1) de, .slice (some ⟨gm, 0, none⟩) (n2 + 1) (n2 + 1), .slice (some ⟨gt, 0, none⟩) (n3 + 1) (n3 + 1), .slice b4 n4 d4]]) (gs2 := []) hH
      have HE3 := Lib.hid hH2
      have ha := hI.frame (by kernel_rfl) hall
      refine hK _ _ ?_
      clear hK hI hH hH2 r6 r13 r17 r20 r22 hall al HPM HPT HE2
      simp [Draws.frameOf, Draws.slotOf, Act.put, List.range, List.range.loop] at ha
      subst ha
      rw [v22]
      clear v21 v9 v13 v17 v20 v22 v8
      obtain ⟨o0, o1, o2, o3, o4⟩ := Law.box5 (HE3.out.nth 2 rfl)
      have HNE := Lib.hid (show gm ≠ gt from fun e => (State.OwnS.mt (HE3.out.nth 3 rfl)) gm rfl (by rw [e]; rfl))
      have HPU := Lib.hid (show ∀ (j : Nat) (p q : Int) (u : World) (zs ys : List Int), j < n2 + 1 → j < n3 + 1 → u.ownsRow 0 3 1 (.slice (some ⟨gm, 0, none⟩) (n2 + 1) (n2 + 1)) (n2 + 1) (Ints.vals zs) → u.ownsRow 0 3 1 (.slice (some ⟨gt, 0, none⟩) (n3 + 1) (n3 + 1)) (n3 + 1) (Ints.vals ys) →
          Calls Try.prog 98 #[.agg #[.pointer (some ⟨gm, j, none⟩), .pointer (some ⟨gt, j, none⟩)], .int .i64 p, .int .i64 q] u fun e w' => e = .returned (.tuple #[]) ∧ ∃ W, u.grownBy W none ∧ w' = (W.setCell ⟨gm, j, none⟩ (.int .i64 p)).setCell ⟨gt, j, none⟩ (.int .i64 q) from fun j p q u zs ys j2 j3 om ot => by
        obtain ⟨g2', x2, e2, -, m2, u2⟩ := State.own_cellI om j2
        cases e2
        obtain ⟨g3', x3, e3, -, m3, u3⟩ := State.own_cellI ot j3
        cases e3
        exact State.put_is gm gt j p q u ⟨_, m2⟩ u2 ⟨_, m3⟩ u3 HNE.out)
      have HCO := Lib.hid (fun (j : Nat) (j2 : j < n2 + 1) (j3 : j < n3 + 1) u => State.contentOf_is R (some ⟨ge, 0, none⟩) b4 gm gt (n1 + 1) (n2 + 1) (n3 + 1) n4 de (n2 + 1) (n3 + 1) d4 j j2 j3 u)
      go_upto_region 5 with (first
        | (go_at_call 97; ((with_reducible refine (HCO.out k (by have := HK2.out; omega) (by have := HK3.out; omega) _).mono ?_); rintro e w4 ⟨rfl, hg⟩; have HE4 := Lib.hid (HE3.out.on hg); clear hg))
        | (go_at_call 98; ((with_reducible refine (HPU.out k lm tl _ _ _ (by have := HK2.out; omega) (by have := HK3.out; omega) (State.OwnS.m (HE4.out.nth 3 rfl)) (State.OwnS.t (HE4.out.nth 3 rfl))).mono ?_); rintro e w5 ⟨rfl, W, hg, rfl⟩; have HE5 := Lib.hid (State.Held.setTracer (State.Held.setMass (HE4.out.on hg) 3 rfl k lm) 3 rfl k tl); clear hg)))
      clear o0 o1 o2 o3 o4 HE3 HE4
      generalize (W.setCell ⟨gm, k, none⟩ (.int .i64 lm)).setCell ⟨gt, k, none⟩ (.int .i64 tl) = W5 at *
      have HCO1 := Lib.hid (show ∀ u : World, Calls Try.prog 97 #[.agg #[.int .i64 R, .slice (some ⟨ge, 0, none⟩) (n1 + 1) de, .slice (some ⟨gm, 0, none⟩) (n2 + 1) (n2 + 1), .slice (some ⟨gt, 0, none⟩) (n3 + 1) (n3 + 1), .slice b4 n4 d4], .int .i64 ((k : Int) + 1)] u fun e w' => e = .returned (.agg #[.pointer (some ⟨gm, (k + 1), none⟩), .pointer (some ⟨gt, (k + 1), none⟩)]) ∧ u.grownBy w' none from fun u => HCO.out (k + 1) (by have := HK2.out; omega) (by have := HK3.out; omega) u)
      have HPU1 := Lib.hid (fun u (om : u.ownsRow 0 3 1 (.slice (some ⟨gm, 0, none⟩) (n2 + 1) (n2 + 1)) (n2 + 1) (Ints.vals ((State.wide ms k).set k lm))) (ot : u.ownsRow 0 3 1 (.slice (some ⟨gt, 0, none⟩) (n3 + 1) (n3 + 1)) (n3 + 1) (Ints.vals ((State.wide ts k).set k tl))) => HPU.out (k + 1) (m - lm) (t - tl) u _ _ (by have := HK2.out; omega) (by have := HK3.out; omega) om ot)
      clear HCO HPU
      rename_i K hK
      refine Draws.wp_region_tabG (w := w) rfl (by kernel_rfl) (by kernel_rfl) State.SpPuGDep (by kernel_rfl) [Law.boxG w.heap.size 29 #[.int .i64 R, .slice (some ⟨g1, 0, none⟩) n1 c1, .slice (some ⟨g2, 0, none⟩) n2 c2, .slice (some ⟨g3, 0, none⟩) n3 c3, .slice (some ⟨g4, 0, none⟩) n4 c4], Law.boxG (w.heap.size + 1) 29 #[.int .i64 0, .slice none 0 0, .slice none 0 0, .slice none 0 0, .slice none 0 0], Law.boxG Bf 29 #[.int .i64 R, .slice (some ⟨ge, 0, none⟩) (n1 + 1) de, .slice (some ⟨gm, 0, none⟩) (n2 + 1) (n2 + 1), .slice (some ⟨gt, 0, none⟩) (n3 + 1) (n3 + 1), .slice b4 n4 d4]] [12] (fun _ => State.stateG (.slice (some ⟨ge, 0, none⟩) (n1 + 1) de) (.slice (some ⟨gm, 0, none⟩) (n2 + 1) (n2 + 1)) (.slice (some ⟨gt, 0, none⟩) (n3 + 1) (n3 + 1)) (.slice b4 n4 d4) (n1 + 1) (n2 + 1) (n3 + 1) n4 (Mesh.split2 xs k) ((State.wide ms k).set k lm) ((State.wide ts k).set k tl) bs) (State.SpPuG R g1 g2 g3 g4 n1 n2 n3 n4 c1 c2 c3 c4 k w.heap.size xs ms ts bs m t lm tl ge gm gt de d4 Bf b4) ?start ?step ?last
      case start => exact HE5.out.on (Mesh.gr_drew (Cell.grown_refl _))
      case step =>
        clear hK
        intro L a W val G i o hI ho hL hd
        have hi : i < 13 := by have := (Array.getElem?_eq_some_iff.1 ho).1; simpa using this
        have hloc := State.SpPuG_local R g1 g2 g3 g4 n1 n2 n3 n4 c1 c2 c3 c4 k w.heap.size xs ms ts bs m t lm tl ge gm gt de d4 Bf b4
        obtain ⟨z0, z1, z2, z3, z4⟩ := Law.box5 (hI.hd.nth 0 rfl)
        have c8 := State.readsI_cell (HR.out.t.on hI.hd.gr) HM.out.2
        obtain ⟨y0, y1, y2, y3, y4⟩ := Law.box5 (hI.hd.nth 2 rfl)
        rcases (show i = 0 ∨ i = 1 ∨ i = 2 ∨ i = 3 ∨ i = 4 ∨ i = 5 ∨ i = 6 ∨ i = 7 ∨ i = 8 ∨ i = 9 ∨ i = 10 ∨ i = 11 ∨ i = 12 by omega) with rfl | rfl | rfl | rfl | rfl | rfl | rfl | rfl | rfl | rfl | rfl | rfl | rfl
        · obtain rfl := Option.some.inj ho
          have p8 := (hI.old 8 (by kernel_rfl) rfl).get
          refine Draws.wpOp_of (by rfl) rfl (State.wp_value (v := .agg #[.int .i64 R, .slice (some ⟨ge, 0, none⟩) (n1 + 1) de, .slice (some ⟨gm, 0, none⟩) (n2 + 1) (n2 + 1), .slice (some ⟨gt, 0, none⟩) (n3 + 1) (n3 + 1), .slice b4 n4 d4]) (w' := W) ?_ (hI.same hloc hL _ _ (Cell.grown_refl _) (Draws.upd_at _ _ _)))
          simp only [execOp]
          go_simp
        · obtain rfl := Option.some.inj ho
          have p1 := (hI.old 1 (by kernel_rfl) rfl).get
          refine Draws.wpOp_of (by rfl) rfl (State.wp_value (v := .int .i64 (k : Int)) (w' := W) ?_ (hI.same hloc hL _ _ (Cell.grown_refl _) (Draws.upd_at _ _ _)))
          simp only [execOp]
          go_simp
        · obtain rfl := Option.some.inj ho
          have l1 := hd 1 (by simp [State.SpPuGDep])
          have e1 := (hI.at_ 1 59 rfl l1).get
          rw [show val 1 = _ from hI.gd 1 l1] at e1
          refine Draws.wpOp_of (by rfl) rfl (State.wp_value (v := .int .i64 ((k : Int) + 1)) (w' := W) ?_ (hI.same hloc hL _ _ (Cell.grown_refl _) (Draws.upd_at _ _ _)))
          simp only [execOp]
          go_simp
        · obtain rfl := Option.some.inj ho
          have l0 := hd 0 (by simp [State.SpPuGDep])
          have e0 := (hI.at_ 0 58 rfl l0).get
          have l2 := hd 2 (by simp [State.SpPuGDep])
          have e2 := (hI.at_ 2 60 rfl l2).get
          rw [show val 0 = _ from hI.gd 0 l0] at e0
          rw [show val 2 = _ from hI.gd 2 l2] at e2
          refine Draws.wpOp_of (by rfl) rfl ?_
          unfold Oper.wp
          simp only [execOp]
          go_simp
          refine Calls.mono (P := Try.prog) (HCO1.out W) ?_
          rintro e w1 ⟨rfl, hg⟩
          exact hI.same hloc hL _ (.agg #[.pointer (some ⟨gm, (k + 1), none⟩), .pointer (some ⟨gt, (k + 1), none⟩)]) hg (Draws.upd_at _ _ _)
        · obtain rfl := Option.some.inj ho
          have p6 := (hI.old 6 (by kernel_rfl) rfl).get
          refine Draws.wpOp_of (by rfl) rfl (State.wp_value (v := .int .i64 (m - lm)) (w' := W) ?_ (hI.same hloc hL _ _ (Cell.grown_refl _) (Draws.upd_at _ _ _)))
          simp only [execOp]
          go_simp
        · obtain rfl := Option.some.inj ho
          have p2 := (hI.old 2 (by kernel_rfl) rfl).get
          refine Draws.wpOp_of (by rfl) rfl (State.wp_value (v := .pointer (some ⟨w.heap.size, 3, none⟩)) (w' := W) ?_ (hI.same hloc hL _ _ (Cell.grown_refl _) (Draws.upd_at _ _ _)))
          simp only [execOp]
          go_simp
        · obtain rfl := Option.some.inj ho
          have l5 := hd 5 (by simp [State.SpPuGDep])
          have e5 := (hI.at_ 5 63 rfl l5).get
          rw [show val 5 = _ from hI.gd 5 l5] at e5
          refine Draws.wpOp_of (by rfl) rfl (State.wp_value (v := .slice (some ⟨g3, 0, none⟩) n3 c3) (w' := W) ?_ (hI.same hloc hL _ _ (Cell.grown_refl _) (Draws.upd_at _ _ _)))
          simp only [execOp]
          go_simp
        · obtain rfl := Option.some.inj ho
          have p1 := (hI.old 1 (by kernel_rfl) rfl).get
          refine Draws.wpOp_of (by rfl) rfl (State.wp_value (v := .int .i64 (k : Int)) (w' := W) ?_ (hI.same hloc hL _ _ (Cell.grown_refl _) (Draws.upd_at _ _ _)))
          simp only [execOp]
          go_simp
        · obtain rfl := Option.some.inj ho
          have l6 := hd 6 (by simp [State.SpPuGDep])
          have e6 := (hI.at_ 6 64 rfl l6).get
          have l7 := hd 7 (by simp [State.SpPuGDep])
          have e7 := (hI.at_ 7 65 rfl l7).get
          rw [show val 6 = _ from hI.gd 6 l6] at e6
          rw [show val 7 = _ from hI.gd 7 l7] at e7
          refine Draws.wpOp_of (by rfl) rfl (State.wp_value (v := .pointer (some ⟨g3, k, none⟩)) (w' := W) ?_ (hI.same hloc hL _ _ (Cell.grown_refl _) (Draws.upd_at _ _ _)))
          simp only [execOp]
          go_simp
        · obtain rfl := Option.some.inj ho
          have l8 := hd 8 (by simp [State.SpPuGDep])
          have e8 := (hI.at_ 8 66 rfl l8).get
          rw [show val 8 = _ from hI.gd 8 l8] at e8
          refine Draws.wpOp_of (by rfl) rfl (State.wp_value (v := .int .i64 t) (w' := W) ?_ (hI.same hloc hL _ _ (Cell.grown_refl _) (Draws.upd_at _ _ _)))
          simp only [execOp]
          go_simp
        · obtain rfl := Option.some.inj ho
          have p7 := (hI.old 7 (by kernel_rfl) rfl).get
          refine Draws.wpOp_of (by rfl) rfl (State.wp_value (v := .int .i64 tl) (w' := W) ?_ (hI.same hloc hL _ _ (Cell.grown_refl _) (Draws.upd_at _ _ _)))
          simp only [execOp]
          go_simp
        · obtain rfl := Option.some.inj ho
          have l9 := hd 9 (by simp [State.SpPuGDep])
          have e9 := (hI.at_ 9 67 rfl l9).get
          have l10 := hd 10 (by simp [State.SpPuGDep])
          have e10 := (hI.at_ 10 68 rfl l10).get
          rw [show val 9 = _ from hI.gd 9 l9] at e9
          rw [show val 10 = _ from hI.gd 10 l10] at e10
          refine Draws.wpOp_of (by rfl) rfl (State.wp_value (v := .int .i64 (t - tl)) (w' := W) ?_ (hI.same hloc hL _ _ (Cell.grown_refl _) (Draws.upd_at _ _ _)))
          simp only [execOp]
          go_simp
        · obtain rfl := Option.some.inj ho
          have l3 := hd 3 (by simp [State.SpPuGDep])
          have e3 := (hI.at_ 3 61 rfl l3).get
          have l4 := hd 4 (by simp [State.SpPuGDep])
          have e4 := (hI.at_ 4 62 rfl l4).get
          have l11 := hd 11 (by simp [State.SpPuGDep])
          have e11 := (hI.at_ 11 69 rfl l11).get
          rw [show val 3 = _ from hI.gd 3 l3] at e3
          rw [show val 4 = _ from hI.gd 4 l4] at e4
          rw [show val 11 = _ from hI.gd 11 l11] at e11
          refine Draws.wpOp_of (by rfl) rfl ?_
          unfold Oper.wp
          simp only [execOp]
          go_simp
          refine Calls.mono (P := Try.prog) (HPU1.out W (State.OwnS.m (hI.hd.nth 3 (congrArg some (hI.no 12 hL)))) (State.OwnS.t (hI.hd.nth 3 (congrArg some (hI.no 12 hL))))) ?_
          rintro e w1 ⟨rfl, W2, hg, rfl⟩
          exact hI.made hloc hL _ (.tuple #[]) (State.stateG (.slice (some ⟨ge, 0, none⟩) (n1 + 1) de) (.slice (some ⟨gm, 0, none⟩) (n2 + 1) (n2 + 1)) (.slice (some ⟨gt, 0, none⟩) (n3 + 1) (n3 + 1)) (.slice b4 n4 d4) (n1 + 1) (n2 + 1) (n3 + 1) n4 (Mesh.split2 xs k) (((State.wide ms k).set k lm).set (k + 1) (m - lm)) (((State.wide ts k).set k tl).set (k + 1) (t - tl)) bs) (State.Held.setTracer (State.Held.setMass (hI.hd.on hg) 3 (congrArg some (hI.no 12 hL)) (k + 1) (m - lm)) 3 rfl (k + 1) (t - tl)) (Draws.upd_at _ _ _)
      case last =>
        intro L a_ W val G hI hall
        have r12 : G 12 = State.stateG (.slice (some ⟨ge, 0, none⟩) (n1 + 1) de) (.slice (some ⟨gm, 0, none⟩) (n2 + 1) (n2 + 1)) (.slice (some ⟨gt, 0, none⟩) (n3 + 1) (n3 + 1)) (.slice b4 n4 d4) (n1 + 1) (n2 + 1) (n3 + 1) n4 (Mesh.split2 xs k) (((State.wide ms k).set k lm).set (k + 1) (m - lm)) (((State.wide ts k).set k tl).set (k + 1) (t - tl)) bs := hI.gd 12 (hall 12 (by simp))
        have hH : Law.Held w W [Law.boxG w.heap.size 29 #[.int .i64 R, .slice (some ⟨g1, 0, none⟩) n1 c1, .slice (some ⟨g2, 0, none⟩) n2 c2, .slice (some ⟨g3, 0, none⟩) n3 c3, .slice (some ⟨g4, 0, none⟩) n4 c4], Law.boxG (w.heap.size + 1) 29 #[.int .i64 0, .slice none 0 0, .slice none 0 0, .slice none 0 0, .slice none 0 0], Law.boxG Bf 29 #[.int .i64 R, .slice (some ⟨ge, 0, none⟩) (n1 + 1) de, .slice (some ⟨gm, 0, none⟩) (n2 + 1) (n2 + 1), .slice (some ⟨gt, 0, none⟩) (n3 + 1) (n3 + 1), .slice b4 n4 d4], G 12] := hI.hd
        rw [r12] at hH
        have HE6 := Lib.hid hH
        have ha := hI.frame (by kernel_rfl) hall
        refine hK _ _ ?_
        clear hK hI hH r12 hall HE5 HCO1 HPU1
        simp [Draws.frameOf, Draws.slotOf, Act.put, List.range, List.range.loop] at ha
        subst ha
        obtain ⟨o0, o1, o2, o3, o4⟩ := Law.box5 (HE6.out.nth 2 rfl)
        obtain ⟨r0, r1, r2, r3, r4⟩ := Law.box5 (HE6.out.nth 1 rfl)
        obtain ⟨f0, f1, f2, f3, f4⟩ := Law.free5 (HE6.out.nth 1 rfl)
        go_wp2_with fail
        have he := HE6.out.put5 1 rfl (.int .i64 R) (.slice (some ⟨ge, 0, none⟩) (n1 + 1) de) (.slice (some ⟨gm, 0, none⟩) (n2 + 1) (n2 + 1)) (.slice (some ⟨gt, 0, none⟩) (n3 + 1) (n3 + 1)) (.slice b4 n4 d4)
        rw [HSM.out, HST.out]
        exact bodyPost_ret_by (results_cell_row (fn := Try.f51) rfl _ _ (w.heap.size + 1) _ _ (0, 0) _ rfl (he.nth 1 rfl) Try.underlying29 rfl (by kernel_rfl)) rfl ⟨some ⟨ge, 0, none⟩, de, some ⟨gm, 0, none⟩, n2 + 1, some ⟨gt, 0, none⟩, n3 + 1, b4, d4, rfl, State.Held.stateOwn he 3 rfl, he.gr⟩
end Go.Proofs.Ytfoilfgiablleaa.State
