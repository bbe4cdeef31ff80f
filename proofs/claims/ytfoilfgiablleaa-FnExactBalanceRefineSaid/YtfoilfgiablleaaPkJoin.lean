/- States: the tables of the regions of the program's join that draw their order (written by wip/tools/stjoin.py). States: the program's join of two leaves, as a contract: the state with their parent, in memory of its own; nothing that was there is written (written by wip/tools/stjoin.py).
   Conditions: as each says. -/
import Derived.Test.YtfoilfgiablleaaStRoom
import Derived.Test.YtfoilfgiablleaaStPlace
set_option maxRecDepth 100000
namespace Go.Proofs.Ytfoilfgiablleaa.State
open Go.ChangeShapes Go.WideShapes Go.ChangeAt Go.RowKit Go.Proofs.Ytfoilfgiablleaa.Cell Go.Proofs.Ytfoilfgiablleaa.Mesh Go.Proofs.Ytfoilfgiablleaa.Law Go.Proofs.Ytfoilfgiablleaa.Ints Go.Proofs.Ytfoilfgiablleaa.Draws
set_option linter.unusedVariables false

/-- What each operation leaves. -/
def JoMkG (R : Int) (g1 g2 g3 g4 n1 n2 n3 n4 c1 c2 c3 c4 k B : Nat) (xs : List C3) (ms ts bs : List Int) (m m2 t t2 : Int) (val : Nat → Value) (G : Nat → Grp) : Nat → Prop
  | 0 => val 0 = .pointer (some ⟨B, 0, none⟩)
  | 1 => val 1 = .pointer (some ⟨B, 0, none⟩)
  | 2 => val 2 = .int .i64 R
  | 3 => val 3 = .pointer (some ⟨B, 0, none⟩)
  | 4 => val 4 = .pointer (some ⟨B, 1, none⟩)
  | 5 => val 5 = .slice (some ⟨g1, 0, none⟩) n1 c1
  | 6 => val 6 = .int .i64 (k : Int)
  | 7 => ∃ (b1 : Option Addr) (d1 : Nat), val 7 = .slice b1 (n1 - 1) d1 ∧ G 7 = rowG 36 3 (.slice b1 (n1 - 1) d1) (n1 - 1) (flatC (merge2 xs k))
  | 8 => ∃ (b1 : Option Addr) (d1 : Nat), val 8 = .agg #[.int .i64 R, .slice b1 (n1 - 1) d1] ∧ val 7 = .slice b1 (n1 - 1) d1
  | 9 => val 9 = .pointer (some ⟨B, 2, none⟩)
  | 10 => val 10 = .slice (some ⟨g2, 0, none⟩) n2 c2
  | 11 => val 11 = .int .i64 (k : Int)
  | 12 => ∃ (gm : Nat), val 12 = .slice (some ⟨gm, 0, none⟩) (n2 - 1) (n2 - 1) ∧ G 12 = rowG 3 1 (.slice (some ⟨gm, 0, none⟩) (n2 - 1) (n2 - 1)) (n2 - 1) (vals (slim ms k))
  | 13 => val 13 = .pointer (some ⟨B, 3, none⟩)
  | 14 => val 14 = .slice (some ⟨g3, 0, none⟩) n3 c3
  | 15 => val 15 = .int .i64 (k : Int)
  | 16 => ∃ (gt : Nat), val 16 = .slice (some ⟨gt, 0, none⟩) (n3 - 1) (n3 - 1) ∧ G 16 = rowG 3 1 (.slice (some ⟨gt, 0, none⟩) (n3 - 1) (n3 - 1)) (n3 - 1) (vals (slim ts k))
  | 17 => val 17 = .pointer (some ⟨B, 4, none⟩)
  | 18 => val 18 = .slice (some ⟨g4, 0, none⟩) n4 c4
  | 19 => ∃ (b4 : Option Addr) (d4 : Nat), val 19 = .slice b4 n4 d4 ∧ G 19 = rowG 3 1 (.slice b4 n4 d4) n4 (vals bs)
  | 20 => ∃ (b1 : Option Addr) (d1 : Nat) (gm : Nat) (gt : Nat) (b4 : Option Addr) (d4 : Nat), val 20 = .agg #[.int .i64 R, .slice b1 (n1 - 1) d1, .slice (some ⟨gm, 0, none⟩) (n2 - 1) (n2 - 1), .slice (some ⟨gt, 0, none⟩) (n3 - 1) (n3 - 1), .slice b4 n4 d4] ∧ val 8 = .agg #[.int .i64 R, .slice b1 (n1 - 1) d1] ∧ val 12 = .slice (some ⟨gm, 0, none⟩) (n2 - 1) (n2 - 1) ∧ val 16 = .slice (some ⟨gt, 0, none⟩) (n3 - 1) (n3 - 1) ∧ val 19 = .slice b4 n4 d4
  | 21 => ∃ (Bf : Nat) (o0 : Value) (o1 : Value) (o2 : Value) (o3 : Value) (o4 : Value), val 21 = .pointer (some ⟨Bf, 0, none⟩) ∧ G 21 = boxG Bf 29 #[o0, o1, o2, o3, o4]
  | 22 => ∃ (Bf : Nat) (b1 : Option Addr) (d1 : Nat) (gm : Nat) (gt : Nat) (b4 : Option Addr) (d4 : Nat), val 21 = .pointer (some ⟨Bf, 0, none⟩) ∧ val 20 = .agg #[.int .i64 R, .slice b1 (n1 - 1) d1, .slice (some ⟨gm, 0, none⟩) (n2 - 1) (n2 - 1), .slice (some ⟨gt, 0, none⟩) (n3 - 1) (n3 - 1), .slice b4 n4 d4] ∧ G 21 = boxG Bf 29 #[.int .i64 R, .slice b1 (n1 - 1) d1, .slice (some ⟨gm, 0, none⟩) (n2 - 1) (n2 - 1), .slice (some ⟨gt, 0, none⟩) (n3 - 1) (n3 - 1), .slice b4 n4 d4]
  | _ => True
def JoMkGDep : Nat → List Nat
  | 1 => [0] | 2 => [1] | 4 => [3] | 5 => [4] | 7 => [5, 6] | 8 => [2, 7] | 10 => [9] | 12 => [10, 11] | 14 => [13] | 16 => [14, 15] | 18 => [17] | 19 => [18] | 20 => [8, 12, 16, 19] | 22 => [21, 20] | _ => []
theorem JoMkG_local (R : Int) (g1 g2 g3 g4 n1 n2 n3 n4 c1 c2 c3 c4 k B : Nat) (xs : List C3) (ms ts bs : List Int) (m m2 t t2 : Int) : Local JoMkGDep (JoMkG R g1 g2 g3 g4 n1 n2 n3 n4 c1 c2 c3 c4 k B xs ms ts bs m m2 t t2) := by
  intro val val' G G' j hk h
  match j with
  | 0 => exact (hk 0 (.inl rfl)).1.trans h
  | 1 => exact (hk 1 (.inl rfl)).1.trans h
  | 2 => exact (hk 2 (.inl rfl)).1.trans h
  | 3 => exact (hk 3 (.inl rfl)).1.trans h
  | 4 => exact (hk 4 (.inl rfl)).1.trans h
  | 5 => exact (hk 5 (.inl rfl)).1.trans h
  | 6 => exact (hk 6 (.inl rfl)).1.trans h
  | 7 => obtain ⟨b1, d1, h0, h1⟩ := h; exact ⟨b1, d1, (hk 7 (.inl rfl)).1.trans h0, (hk 7 (.inl rfl)).2.trans h1⟩
  | 8 => obtain ⟨b1, d1, h0, h1⟩ := h; exact ⟨b1, d1, (hk 8 (.inl rfl)).1.trans h0, (hk 7 (.inr (by simp [JoMkGDep]))).1.trans h1⟩
  | 9 => exact (hk 9 (.inl rfl)).1.trans h
  | 10 => exact (hk 10 (.inl rfl)).1.trans h
  | 11 => exact (hk 11 (.inl rfl)).1.trans h
  | 12 => obtain ⟨gm, h0, h1⟩ := h; exact ⟨gm, (hk 12 (.inl rfl)).1.trans h0, (hk 12 (.inl rfl)).2.trans h1⟩
  | 13 => exact (hk 13 (.inl rfl)).1.trans h
  | 14 => exact (hk 14 (.inl rfl)).1.trans h
  | 15 => exact (hk 15 (.inl rfl)).1.trans h
  | 16 => obtain ⟨gt, h0, h1⟩ := h; exact ⟨gt, (hk 16 (.inl rfl)).1.trans h0, (hk 16 (.inl rfl)).2.trans h1⟩
  | 17 => exact (hk 17 (.inl rfl)).1.trans h
  | 18 => exact (hk 18 (.inl rfl)).1.trans h
  | 19 => obtain ⟨b4, d4, h0, h1⟩ := h; exact ⟨b4, d4, (hk 19 (.inl rfl)).1.trans h0, (hk 19 (.inl rfl)).2.trans h1⟩
  | 20 => obtain ⟨b1, d1, gm, gt, b4, d4, h0, h1, h2, h3, h4⟩ := h; exact ⟨b1, d1, gm, gt, b4, d4, (hk 20 (.inl rfl)).1.trans h0, (hk 8 (.inr (by simp [JoMkGDep]))).1.trans h1, (hk 12 (.inr (by simp [JoMkGDep]))).1.trans h2, (hk 16 (.inr (by simp [JoMkGDep]))).1.trans h3, (hk 19 (.inr (by simp [JoMkGDep]))).1.trans h4⟩
  | 21 => obtain ⟨Bf, o0, o1, o2, o3, o4, h0, h1⟩ := h; exact ⟨Bf, o0, o1, o2, o3, o4, (hk 21 (.inl rfl)).1.trans h0, (hk 21 (.inl rfl)).2.trans h1⟩
  | 22 => obtain ⟨Bf, b1, d1, gm, gt, b4, d4, h0, h1, h2⟩ := h; exact ⟨Bf, b1, d1, gm, gt, b4, d4, (hk 21 (.inr (by simp [JoMkGDep]))).1.trans h0, (hk 20 (.inr (by simp [JoMkGDep]))).1.trans h1, (hk 21 (.inr (by simp [JoMkGDep]))).2.trans h2⟩
  | _ + 23 => trivial

/-- What each operation leaves. -/
def JoPuG (R : Int) (g1 g2 g3 g4 n1 n2 n3 n4 c1 c2 c3 c4 k B : Nat) (xs : List C3) (ms ts bs : List Int) (m m2 t t2 : Int) (gm gt d1 d4 Bf : Nat) (b1 b4 : Option Addr) (val : Nat → Value) (G : Nat → Grp) : Nat → Prop
  | 0 => val 0 = .agg #[.int .i64 R, .slice b1 (n1 - 1) d1, .slice (some ⟨gm, 0, none⟩) (n2 - 1) (n2 - 1), .slice (some ⟨gt, 0, none⟩) (n3 - 1) (n3 - 1), .slice b4 n4 d4]
  | 1 => val 1 = .int .i64 (k : Int)
  | 2 => val 2 = .agg #[.pointer (some ⟨gm, k, none⟩), .pointer (some ⟨gt, k, none⟩)]
  | 3 => val 3 = .pointer (some ⟨B, 2, none⟩)
  | 4 => val 4 = .slice (some ⟨g2, 0, none⟩) n2 c2
  | 5 => val 5 = .int .i64 (k : Int)
  | 6 => val 6 = .pointer (some ⟨g2, k, none⟩)
  | 7 => val 7 = .int .i64 m
  | 8 => val 8 = .pointer (some ⟨B, 2, none⟩)
  | 9 => val 9 = .slice (some ⟨g2, 0, none⟩) n2 c2
  | 10 => val 10 = .int .i64 (k : Int)
  | 11 => val 11 = .int .i64 ((k : Int) + 1)
  | 12 => val 12 = .pointer (some ⟨g2, (k + 1), none⟩)
  | 13 => val 13 = .int .i64 m2
  | 14 => val 14 = .int .i64 (m + m2)
  | 15 => val 15 = .pointer (some ⟨B, 3, none⟩)
  | 16 => val 16 = .slice (some ⟨g3, 0, none⟩) n3 c3
  | 17 => val 17 = .int .i64 (k : Int)
  | 18 => val 18 = .pointer (some ⟨g3, k, none⟩)
  | 19 => val 19 = .int .i64 t
  | 20 => val 20 = .pointer (some ⟨B, 3, none⟩)
  | 21 => val 21 = .slice (some ⟨g3, 0, none⟩) n3 c3
  | 22 => val 22 = .int .i64 (k : Int)
  | 23 => val 23 = .int .i64 ((k : Int) + 1)
  | 24 => val 24 = .pointer (some ⟨g3, (k + 1), none⟩)
  | 25 => val 25 = .int .i64 t2
  | 26 => val 26 = .int .i64 (t + t2)
  | 27 => G 27 = stateG (.slice b1 (n1 - 1) d1) (.slice (some ⟨gm, 0, none⟩) (n2 - 1) (n2 - 1)) (.slice (some ⟨gt, 0, none⟩) (n3 - 1) (n3 - 1)) (.slice b4 n4 d4) (n1 - 1) (n2 - 1) (n3 - 1) n4 (merge2 xs k) ((slim ms k).set k (m + m2)) ((slim ts k).set k (t + t2)) bs
  | _ => True
def JoPuGDep : Nat → List Nat
  | 2 => [0, 1] | 4 => [3] | 6 => [4, 5] | 7 => [6] | 9 => [8] | 11 => [10] | 12 => [9, 11] | 13 => [12] | 14 => [7, 13] | 16 => [15] | 18 => [16, 17] | 19 => [18] | 21 => [20] | 23 => [22] | 24 => [21, 23] | 25 => [24] | 26 => [19, 25] | 27 => [2, 14, 26] | _ => []
theorem JoPuG_local (R : Int) (g1 g2 g3 g4 n1 n2 n3 n4 c1 c2 c3 c4 k B : Nat) (xs : List C3) (ms ts bs : List Int) (m m2 t t2 : Int) (gm gt d1 d4 Bf : Nat) (b1 b4 : Option Addr) : Local JoPuGDep (JoPuG R g1 g2 g3 g4 n1 n2 n3 n4 c1 c2 c3 c4 k B xs ms ts bs m m2 t t2 gm gt d1 d4 Bf b1 b4) := by
  intro val val' G G' j hk h
  match j with
  | 0 => exact (hk 0 (.inl rfl)).1.trans h
  | 1 => exact (hk 1 (.inl rfl)).1.trans h
  | 2 => exact (hk 2 (.inl rfl)).1.trans h
  | 3 => exact (hk 3 (.inl rfl)).1.trans h
  | 4 => exact (hk 4 (.inl rfl)).1.trans h
  | 5 => exact (hk 5 (.inl rfl)).1.trans h
  | 6 => exact (hk 6 (.inl rfl)).1.trans h
  | 7 => exact (hk 7 (.inl rfl)).1.trans h
  | 8 => exact (hk 8 (.inl rfl)).1.trans h
  | 9 => exact (hk 9 (.inl rfl)).1.trans h
  | 10 => exact (hk 10 (.inl rfl)).1.trans h
  | 11 => exact (hk 11 (.inl rfl)).1.trans h
  | 12 => exact (hk 12 (.inl rfl)).1.trans h
  | 13 => exact (hk 13 (.inl rfl)).1.trans h
  | 14 => exact (hk 14 (.inl rfl)).1.trans h
  | 15 => exact (hk 15 (.inl rfl)).1.trans h
  | 16 => exact (hk 16 (.inl rfl)).1.trans h
  | 17 => exact (hk 17 (.inl rfl)).1.trans h
  | 18 => exact (hk 18 (.inl rfl)).1.trans h
  | 19 => exact (hk 19 (.inl rfl)).1.trans h
  | 20 => exact (hk 20 (.inl rfl)).1.trans h
  | 21 => exact (hk 21 (.inl rfl)).1.trans h
  | 22 => exact (hk 22 (.inl rfl)).1.trans h
  | 23 => exact (hk 23 (.inl rfl)).1.trans h
  | 24 => exact (hk 24 (.inl rfl)).1.trans h
  | 25 => exact (hk 25 (.inl rfl)).1.trans h
  | 26 => exact (hk 26 (.inl rfl)).1.trans h
  | 27 =>
    show G' 27 = stateG (.slice b1 (n1 - 1) d1) (.slice (some ⟨gm, 0, none⟩) (n2 - 1) (n2 - 1)) (.slice (some ⟨gt, 0, none⟩) (n3 - 1) (n3 - 1)) (.slice b4 n4 d4) (n1 - 1) (n2 - 1) (n3 - 1) n4 (merge2 xs k) ((slim ms k).set k (m + m2)) ((slim ts k).set k (t + t2)) bs
    skip
    rw [(hk 27 (.inl rfl)).2]
    exact h
  | _ + 28 => trivial
end Go.Proofs.Ytfoilfgiablleaa.State

namespace Go.Proofs.Ytfoilfgiablleaa.State
open Go.ChangeShapes Go.WideShapes Go.ChangeAt Go.RowKit Go.Joins Go.Proofs.Ytfoilfgiablleaa.Cell Go.Proofs.Ytfoilfgiablleaa.Mesh Go.Proofs.Ytfoilfgiablleaa.Law Go.Proofs.Ytfoilfgiablleaa.Ints Go.Proofs.Ytfoilfgiablleaa.Draws Go.Deep

set_option maxHeartbeats 16000000 in
theorem stJoin_is (R : Int) (g1 g2 g3 g4 n1 n2 n3 n4 c1 c2 c3 c4 k : Nat) (xs : List C3) (ms ts bs : List Int) (x y : C3) (w : World) (h : RoomS w (some ⟨g1, 0, none⟩) (some ⟨g2, 0, none⟩) (some ⟨g3, 0, none⟩) (some ⟨g4, 0, none⟩) n1 n2 n3 n4 c1 c2 c3 c4 xs ms ts bs)
    (hp : PreS R xs ms ts bs) (hx : xs[k]? = some x) (hy : xs[k + 1]? = some y) (hs : sibOf x y = true) :
    Calls Try.prog 58 #[.agg #[.int .i64 R, .slice (some ⟨g1, 0, none⟩) n1 c1, .slice (some ⟨g2, 0, none⟩) n2 c2, .slice (some ⟨g3, 0, none⟩) n3 c3, .slice (some ⟨g4, 0, none⟩) n4 c4], .int .i64 (k : Int)] w (GivesS R (n1 - 1) (n2 - 1) (n3 - 1) n4 (merge2 xs k) (joinI ms k) (joinI ts k) bs w) := by
  obtain ⟨ho, hn1, hn1'⟩ := mesh_parts hp.mesh
  obtain ⟨r1, r2, -⟩ : 1 ≤ R ∧ R ≤ 8 ∧ run xs = some (R * 16) := of_decide_eq_true hp.mesh
  obtain ⟨-, -, -, -, hl1⟩ := sib_kids hs
  have hkx := (List.getElem?_eq_some_iff.1 hy).1
  have e1 := h.r.l.len; have e2 := h.r.m.len; have e3 := h.r.t.len; have e4 := h.r.b.len
  have q1 := hp.lm; have q2 := hp.lt; have q3 := hp.lb
  obtain ⟨m, t, hm, ht, hmo⟩ := hp.at_ (k := k) (by omega)
  obtain ⟨m2, t2, hm2, ht2, hmo2⟩ := hp.at_ (k := k + 1) hkx
  obtain ⟨b1, b2, b3, b4⟩ : 0 ≤ m ∧ m ≤ 10000000 ∧ 0 ≤ t ∧ t ≤ 1000 * m := of_decide_eq_true hmo
  obtain ⟨b5, b6, b7, b8⟩ : 0 ≤ m2 ∧ m2 ≤ 10000000 ∧ 0 ≤ t2 ∧ t2 ≤ 1000 * m2 := of_decide_eq_true hmo2
  have hSM : joinI ms k = one ms k (m + m2) := by unfold joinI; rw [atI_of hm, atI_of hm2]
  have hST : joinI ts k = one ts k (t + t2) := by unfold joinI; rw [atI_of ht, atI_of ht2]
  have HJL := Lib.hid (show ∀ u, w.grownBy u none → Calls Try.prog 101 #[.slice (some ⟨g1, 0, none⟩) n1 c1, .int .i64 (k : Int)] u fun e w' => ∃ v, e = .returned v ∧ w'.ownsRow u.heap.size 36 3 v (n1 - 1) (flatC (merge2 xs k)) ∧ u.grownBy w' none from fun u hu => by
    have := join_is g1 n1 c1 k xs x u (h.r.l.on hu) (by omega) h.k1 hx (ho _ _ hx) hl1 (by omega)
    rw [show k + 1 + (n1 - (k + 2)) = n1 - 1 by omega] at this
    exact this)
  have HPM := Lib.hid (fun u (hu : w.grownBy u none) => withoutPlace_is g2 n2 c2 k ms u (h.r.m.on hu) (by omega) h.k2 (by omega))
  have HPT := Lib.hid (fun u (hu : w.grownBy u none) => withoutPlace_is g3 n3 c3 k ts u (h.r.t.on hu) (by omega) h.k3 (by omega))
  have HSM := Lib.hid (hSM.trans (slim_set (by omega) (m + m2)).symm)
  have HST := Lib.hid (hST.trans (slim_set (by omega) (t + t2)).symm)
  have HR := Lib.hid h.r; have HM := Lib.hid (And.intro (And.intro hm hm2) (And.intro ht ht2))
  have H4 := Lib.hid (show n4 ≤ 1048576 by omega)
  have HK2 := Lib.hid (show k < n2 - 1 by omega); have HK3 := Lib.hid (show k < n3 - 1 by omega)
  have i2 : (k : Int) < n2 := by omega
  have i3 : (k : Int) < n3 := by omega
  have j2 : (k : Int) + 1 < n2 := by omega
  have j3 : (k : Int) + 1 < n3 := by omega
  have j4 : (0 : Int) ≤ (k : Int) + 1 := by omega
  have j5 : ((k : Int) + 1).toNat = k + 1 := by omega
  have hw1 : IntKind.i64.wrap (m + m2) = m + m2 := IntWalk.i64_in _ (by omega)
  have hw2 : IntKind.i64.wrap ((k : Int) + 1) = (k : Int) + 1 := IntWalk.i64_in _ (by omega)
  have hw3 : IntKind.i64.wrap (t + t2) = t + t2 := IntWalk.i64_in _ (by omega)
  have he := ((Held.nil w).box 29 #[.int .i64 R, .slice (some ⟨g1, 0, none⟩) n1 c1, .slice (some ⟨g2, 0, none⟩) n2 c2, .slice (some ⟨g3, 0, none⟩) n3 c3, .slice (some ⟨g4, 0, none⟩) n4 c4]).box 29 #[.int .i64 0, .slice none 0 0, .slice none 0 0, .slice none 0 0, .slice none 0 0]
  simp only [World.size_alloc] at he
  have HE := Lib.hid he; clear he
  clear h hp hx hy hs ho hn1 hn1' r1 r2 hkx e1 e2 e3 e4 q1 q2 q3 hmo hmo2 b1 b2 b3 b4 b5 b6 b7 b8 hSM hST hm ht hm2 ht2 hl1
  go_enter Try.func58, Try.ntmps58
  go_upto_region 1 with fail
  generalize (w.alloc (.cells #[.int .i64 R, .slice (some ⟨g1, 0, none⟩) n1 c1, .slice (some ⟨g2, 0, none⟩) n2 c2, .slice (some ⟨g3, 0, none⟩) n3 c3, .slice (some ⟨g4, 0, none⟩) n4 c4] 29)).alloc (.cells #[.int .i64 0, .slice none 0 0, .slice none 0 0, .slice none 0 0, .slice none 0 0] 29) = W0 at *
  rename_i K hK
  refine Draws.wp_region_tabG (w := w) rfl (by kernel_rfl) (by kernel_rfl) State.JoMkGDep (by kernel_rfl) [Law.boxG w.heap.size 29 #[.int .i64 R, .slice (some ⟨g1, 0, none⟩) n1 c1, .slice (some ⟨g2, 0, none⟩) n2 c2, .slice (some ⟨g3, 0, none⟩) n3 c3, .slice (some ⟨g4, 0, none⟩) n4 c4], Law.boxG (w.heap.size + 1) 29 #[.int .i64 0, .slice none 0 0, .slice none 0 0, .slice none 0 0, .slice none 0 0]] [21, 7, 12, 16, 19] (fun _ => Law.emptyG) (State.JoMkG R g1 g2 g3 g4 n1 n2 n3 n4 c1 c2 c3 c4 k w.heap.size xs ms ts bs m m2 t t2) ?start ?step ?last
  case start => exact (((((HE.out.on (Mesh.gr_drew (Cell.grown_refl _))).addE).addE).addE).addE).addE
  case step =>
    clear hK
    intro L a W val G i o hI ho hL hd
    have hi : i < 23 := by have := (Array.getElem?_eq_some_iff.1 ho).1; simpa using this
    have hloc := State.JoMkG_local R g1 g2 g3 g4 n1 n2 n3 n4 c1 c2 c3 c4 k w.heap.size xs ms ts bs m m2 t t2
    obtain ⟨z0, z1, z2, z3, z4⟩ := Law.box5 (hI.hd.nth 0 rfl)
    rcases (show i = 0 ∨ i = 1 ∨ i = 2 ∨ i = 3 ∨ i = 4 ∨ i = 5 ∨ i = 6 ∨ i = 7 ∨ i = 8 ∨ i = 9 ∨ i = 10 ∨ i = 11 ∨ i = 12 ∨ i = 13 ∨ i = 14 ∨ i = 15 ∨ i = 16 ∨ i = 17 ∨ i = 18 ∨ i = 19 ∨ i = 20 ∨ i = 21 ∨ i = 22 by omega) with rfl | rfl | rfl | rfl | rfl | rfl | rfl | rfl | rfl | rfl | rfl | rfl | rfl | rfl | rfl | rfl | rfl | rfl | rfl | rfl | rfl | rfl | rfl
    · obtain rfl := Option.some.inj ho
      have p2 := (hI.old 2 (by kernel_rfl) rfl).get
      refine Draws.wpOp_of (by rfl) rfl (State.wp_value (v := .pointer (some ⟨w.heap.size, 0, none⟩)) (w' := W) ?_ (hI.same hloc hL _ _ (Cell.grown_refl _) (Draws.upd_at _ _ _)))
      simp only [execOp]
      go_simp
    · obtain rfl := Option.some.inj ho
      have l0 := hd 0 (by simp [State.JoMkGDep])
      have e0 := (hI.at_ 0 6 rfl l0).get
      rw [show val 0 = _ from hI.gd 0 l0] at e0
      refine Draws.wpOp_of (by rfl) rfl (State.wp_value (v := .pointer (some ⟨w.heap.size, 0, none⟩)) (w' := W) ?_ (hI.same hloc hL _ _ (Cell.grown_refl _) (Draws.upd_at _ _ _)))
      simp only [execOp]
      go_simp
    · obtain rfl := Option.some.inj ho
      have l1 := hd 1 (by simp [State.JoMkGDep])
      have e1 := (hI.at_ 1 7 rfl l1).get
      rw [show val 1 = _ from hI.gd 1 l1] at e1
      refine Draws.wpOp_of (by rfl) rfl (State.wp_value (v := .int .i64 R) (w' := W) ?_ (hI.same hloc hL _ _ (Cell.grown_refl _) (Draws.upd_at _ _ _)))
      simp only [execOp]
      go_simp
    · obtain rfl := Option.some.inj ho
      have p2 := (hI.old 2 (by kernel_rfl) rfl).get
      refine Draws.wpOp_of (by rfl) rfl (State.wp_value (v := .pointer (some ⟨w.heap.size, 0, none⟩)) (w' := W) ?_ (hI.same hloc hL _ _ (Cell.grown_refl _) (Draws.upd_at _ _ _)))
      simp only [execOp]
      go_simp
    · obtain rfl := Option.some.inj ho
      have l3 := hd 3 (by simp [State.JoMkGDep])
      have e3 := (hI.at_ 3 9 rfl l3).get
      rw [show val 3 = _ from hI.gd 3 l3] at e3
      refine Draws.wpOp_of (by rfl) rfl (State.wp_value (v := .pointer (some ⟨w.heap.size, 1, none⟩)) (w' := W) ?_ (hI.same hloc hL _ _ (Cell.grown_refl _) (Draws.upd_at _ _ _)))
      simp only [execOp]
      go_simp
    · obtain rfl := Option.some.inj ho
      have l4 := hd 4 (by simp [State.JoMkGDep])
      have e4 := (hI.at_ 4 10 rfl l4).get
      rw [show val 4 = _ from hI.gd 4 l4] at e4
      refine Draws.wpOp_of (by rfl) rfl (State.wp_value (v := .slice (some ⟨g1, 0, none⟩) n1 c1) (w' := W) ?_ (hI.same hloc hL _ _ (Cell.grown_refl _) (Draws.upd_at _ _ _)))
      simp only [execOp]
      go_simp
    · obtain rfl := Option.some.inj ho
      have p1 := (hI.old 1 (by kernel_rfl) rfl).get
      refine Draws.wpOp_of (by rfl) rfl (State.wp_value (v := .int .i64 (k : Int)) (w' := W) ?_ (hI.same hloc hL _ _ (Cell.grown_refl _) (Draws.upd_at _ _ _)))
      simp only [execOp]
      go_simp
    · obtain rfl := Option.some.inj ho
      have l5 := hd 5 (by simp [State.JoMkGDep])
      have e5 := (hI.at_ 5 11 rfl l5).get
      have l6 := hd 6 (by simp [State.JoMkGDep])
      have e6 := (hI.at_ 6 12 rfl l6).get
      rw [show val 5 = _ from hI.gd 5 l5] at e5
      rw [show val 6 = _ from hI.gd 6 l6] at e6
      refine Draws.wpOp_of (by rfl) rfl ?_
      unfold Oper.wp
      simp only [execOp]
      go_simp
      refine Calls.mono (P := Try.prog) (HJL.out W hI.hd.gr) ?_
      rintro e w1 ⟨v, rfl, ho, hg⟩
      obtain ⟨b1, d1, rfl⟩ := State.own_shapeAny ho
      exact hI.made hloc hL _ (.slice b1 (n1 - 1) d1) (Law.rowG 36 3 (.slice b1 (n1 - 1) d1) (n1 - 1) (Mesh.flatC (Mesh.merge2 xs k))) (hI.hd.fill 3 (g' := Law.rowG 36 3 (.slice b1 (n1 - 1) d1) (n1 - 1) (Mesh.flatC (Mesh.merge2 xs k))) (congrArg some (hI.no 7 hL)) hg (Law.own_zero ho) (fun b hb => ho.lt b (by simpa [Law.rowG] using hb))) ⟨b1, d1, Draws.upd_at _ _ _, Draws.upd_at _ _ _⟩
    · obtain rfl := Option.some.inj ho
      have l2 := hd 2 (by simp [State.JoMkGDep])
      have e2 := (hI.at_ 2 8 rfl l2).get
      have l7 := hd 7 (by simp [State.JoMkGDep])
      have e7 := (hI.at_ 7 13 rfl l7).get
      rw [show val 2 = _ from hI.gd 2 l2] at e2
      obtain ⟨b1, d1, v7, -⟩ := hI.gd 7 l7
      rw [v7] at e7
      refine Draws.wpOp_of (by rfl) rfl (State.wp_value (v := .agg #[.int .i64 R, .slice b1 (n1 - 1) d1]) (w' := W) ?_ (hI.same hloc hL _ _ (Cell.grown_refl _) ⟨b1, d1, Draws.upd_at _ _ _, v7⟩))
      simp only [execOp]
      go_simp
    · obtain rfl := Option.some.inj ho
      have p2 := (hI.old 2 (by kernel_rfl) rfl).get
      refine Draws.wpOp_of (by rfl) rfl (State.wp_value (v := .pointer (some ⟨w.heap.size, 2, none⟩)) (w' := W) ?_ (hI.same hloc hL _ _ (Cell.grown_refl _) (Draws.upd_at _ _ _)))
      simp only [execOp]
      go_simp
    · obtain rfl := Option.some.inj ho
      have l9 := hd 9 (by simp [State.JoMkGDep])
      have e9 := (hI.at_ 9 15 rfl l9).get
      rw [show val 9 = _ from hI.gd 9 l9] at e9
      refine Draws.wpOp_of (by rfl) rfl (State.wp_value (v := .slice (some ⟨g2, 0, none⟩) n2 c2) (w' := W) ?_ (hI.same hloc hL _ _ (Cell.grown_refl _) (Draws.upd_at _ _ _)))
      simp only [execOp]
      go_simp
    · obtain rfl := Option.some.inj ho
      have p1 := (hI.old 1 (by kernel_rfl) rfl).get
      refine Draws.wpOp_of (by rfl) rfl (State.wp_value (v := .int .i64 (k : Int)) (w' := W) ?_ (hI.same hloc hL _ _ (Cell.grown_refl _) (Draws.upd_at _ _ _)))
      simp only [execOp]
      go_simp
    · obtain rfl := Option.some.inj ho
      have l10 := hd 10 (by simp [State.JoMkGDep])
      have e10 := (hI.at_ 10 16 rfl l10).get
      have l11 := hd 11 (by simp [State.JoMkGDep])
      have e11 := (hI.at_ 11 17 rfl l11).get
      rw [show val 10 = _ from hI.gd 10 l10] at e10
      rw [show val 11 = _ from hI.gd 11 l11] at e11
      refine Draws.wpOp_of (by rfl) rfl ?_
      unfold Oper.wp
      simp only [execOp]
      go_simp
      refine Calls.mono (P := Try.prog) (HPM.out W hI.hd.gr) ?_
      rintro e w1 ⟨gm, rfl, ho, hg⟩
      exact hI.made hloc hL _ (.slice (some ⟨gm, 0, none⟩) (n2 - 1) (n2 - 1)) (Law.rowG 3 1 (.slice (some ⟨gm, 0, none⟩) (n2 - 1) (n2 - 1)) (n2 - 1) (Ints.vals (State.slim ms k))) (hI.hd.fill 4 (g' := Law.rowG 3 1 (.slice (some ⟨gm, 0, none⟩) (n2 - 1) (n2 - 1)) (n2 - 1) (Ints.vals (State.slim ms k))) (congrArg some (hI.no 12 hL)) hg (Law.own_zero ho) (fun b hb => ho.lt b (by simpa [Law.rowG] using hb))) ⟨gm, Draws.upd_at _ _ _, Draws.upd_at _ _ _⟩
    · obtain rfl := Option.some.inj ho
      have p2 := (hI.old 2 (by kernel_rfl) rfl).get
      refine Draws.wpOp_of (by rfl) rfl (State.wp_value (v := .pointer (some ⟨w.heap.size, 3, none⟩)) (w' := W) ?_ (hI.same hloc hL _ _ (Cell.grown_refl _) (Draws.upd_at _ _ _)))
      simp only [execOp]
      go_simp
    · obtain rfl := Option.some.inj ho
      have l13 := hd 13 (by simp [State.JoMkGDep])
      have e13 := (hI.at_ 13 19 rfl l13).get
      rw [show val 13 = _ from hI.gd 13 l13] at e13
      refine Draws.wpOp_of (by rfl) rfl (State.wp_value (v := .slice (some ⟨g3, 0, none⟩) n3 c3) (w' := W) ?_ (hI.same hloc hL _ _ (Cell.grown_refl _) (Draws.upd_at _ _ _)))
      simp only [execOp]
      go_simp
    · obtain rfl := Option.some.inj ho
      have p1 := (hI.old 1 (by kernel_rfl) rfl).get
      refine Draws.wpOp_of (by rfl) rfl (State.wp_value (v := .int .i64 (k : Int)) (w' := W) ?_ (hI.same hloc hL _ _ (Cell.grown_refl _) (Draws.upd_at _ _ _)))
      simp only [execOp]
      go_simp
    · obtain rfl := Option.some.inj ho
      have l14 := hd 14 (by simp [State.JoMkGDep])
      have e14 := (hI.at_ 14 20 rfl l14).get
      have l15 := hd 15 (by simp [State.JoMkGDep])
      have e15 := (hI.at_ 15 21 rfl l15).get
      rw [show val 14 = _ from hI.gd 14 l14] at e14
      rw [show val 15 = _ from hI.gd 15 l15] at e15
      refine Draws.wpOp_of (by rfl) rfl ?_
      unfold Oper.wp
      simp only [execOp]
      go_simp
      refine Calls.mono (P := Try.prog) (HPT.out W hI.hd.gr) ?_
      rintro e w1 ⟨gt, rfl, ho, hg⟩
      exact hI.made hloc hL _ (.slice (some ⟨gt, 0, none⟩) (n3 - 1) (n3 - 1)) (Law.rowG 3 1 (.slice (some ⟨gt, 0, none⟩) (n3 - 1) (n3 - 1)) (n3 - 1) (Ints.vals (State.slim ts k))) (hI.hd.fill 5 (g' := Law.rowG 3 1 (.slice (some ⟨gt, 0, none⟩) (n3 - 1) (n3 - 1)) (n3 - 1) (Ints.vals (State.slim ts k))) (congrArg some (hI.no 16 hL)) hg (Law.own_zero ho) (fun b hb => ho.lt b (by simpa [Law.rowG] using hb))) ⟨gt, Draws.upd_at _ _ _, Draws.upd_at _ _ _⟩
    · obtain rfl := Option.some.inj ho
      have p2 := (hI.old 2 (by kernel_rfl) rfl).get
      refine Draws.wpOp_of (by rfl) rfl (State.wp_value (v := .pointer (some ⟨w.heap.size, 4, none⟩)) (w' := W) ?_ (hI.same hloc hL _ _ (Cell.grown_refl _) (Draws.upd_at _ _ _)))
      simp only [execOp]
      go_simp
    · obtain rfl := Option.some.inj ho
      have l17 := hd 17 (by simp [State.JoMkGDep])
      have e17 := (hI.at_ 17 23 rfl l17).get
      rw [show val 17 = _ from hI.gd 17 l17] at e17
      refine Draws.wpOp_of (by rfl) rfl (State.wp_value (v := .slice (some ⟨g4, 0, none⟩) n4 c4) (w' := W) ?_ (hI.same hloc hL _ _ (Cell.grown_refl _) (Draws.upd_at _ _ _)))
      simp only [execOp]
      go_simp
    · obtain rfl := Option.some.inj ho
      have l18 := hd 18 (by simp [State.JoMkGDep])
      have e18 := (hI.at_ 18 24 rfl l18).get
      rw [show val 18 = _ from hI.gd 18 l18] at e18
      refine Draws.wpOp_of (by rfl) rfl ?_
      unfold Oper.wp
      simp only [execOp]
      go_simp
      refine Calls.mono (P := Try.prog) (State.cloneI_is W.heap.size _ n4 c4 bs W (HR.out.b.on hI.hd.gr) H4.out (Nat.le_refl _)) ?_
      rintro e w1 ⟨v, rfl, ho, hg⟩
      obtain ⟨b4, d4, rfl⟩ := State.own_shapeAny ho
      exact hI.made hloc hL _ (.slice b4 n4 d4) (Law.rowG 3 1 (.slice b4 n4 d4) n4 (Ints.vals bs)) (hI.hd.fill 6 (g' := Law.rowG 3 1 (.slice b4 n4 d4) n4 (Ints.vals bs)) (congrArg some (hI.no 19 hL)) hg (Law.own_zero ho) (fun b hb => ho.lt b (by simpa [Law.rowG] using hb))) ⟨b4, d4, Draws.upd_at _ _ _, Draws.upd_at _ _ _⟩
    · obtain rfl := Option.some.inj ho
      have l8 := hd 8 (by simp [State.JoMkGDep])
      have e8 := (hI.at_ 8 14 rfl l8).get
      have l12 := hd 12 (by simp [State.JoMkGDep])
      have e12 := (hI.at_ 12 18 rfl l12).get
      have l16 := hd 16 (by simp [State.JoMkGDep])
      have e16 := (hI.at_ 16 22 rfl l16).get
      have l19 := hd 19 (by simp [State.JoMkGDep])
      have e19 := (hI.at_ 19 25 rfl l19).get
      obtain ⟨b1, d1, v8, -⟩ := hI.gd 8 l8
      rw [v8] at e8
      obtain ⟨gm, v12, -⟩ := hI.gd 12 l12
      rw [v12] at e12
      obtain ⟨gt, v16, -⟩ := hI.gd 16 l16
      rw [v16] at e16
      obtain ⟨b4, d4, v19, -⟩ := hI.gd 19 l19
      rw [v19] at e19
      refine Draws.wpOp_of (by rfl) rfl (State.wp_value (v := .agg #[.int .i64 R, .slice b1 (n1 - 1) d1, .slice (some ⟨gm, 0, none⟩) (n2 - 1) (n2 - 1), .slice (some ⟨gt, 0, none⟩) (n3 - 1) (n3 - 1), .slice b4 n4 d4]) (w' := W) ?_ (hI.same hloc hL _ _ (Cell.grown_refl _) ⟨b1, d1, gm, gt, b4, d4, Draws.upd_at _ _ _, v8, v12, v16, v19⟩))
      simp only [execOp]
      go_simp
    · obtain rfl := Option.some.inj ho
      refine Draws.wpOp_of (by rfl) rfl (State.wp_value (v := .pointer (some ⟨W.heap.size, 0, none⟩)) (w' := W.alloc (.cells #[.int .i64 0, .slice none 0 0, .slice none 0 0, .slice none 0 0, .slice none 0 0] 29)) ?_ ?_)
      · simp only [execOp]
        go_simp
      exact hI.made hloc hL _ _ (Law.boxG W.heap.size 29 #[.int .i64 0, .slice none 0 0, .slice none 0 0, .slice none 0 0, .slice none 0 0]) (hI.hd.fill 2 (g' := Law.boxG W.heap.size 29 #[.int .i64 0, .slice none 0 0, .slice none 0 0, .slice none 0 0, .slice none 0 0]) (congrArg some (hI.no 21 hL)) (World.grownBy_alloc W _ none) (World.alloc_heap_new W _) (fun b hb => by have : b = W.heap.size := (by simpa [Law.boxG] using hb); subst this; simp)) ⟨W.heap.size, _, _, _, _, _, Draws.upd_at _ _ _, Draws.upd_at _ _ _⟩
    · obtain rfl := Option.some.inj ho
      have l21 := hd 21 (by simp [State.JoMkGDep])
      have e21 := (hI.at_ 21 5 rfl l21).get
      have l20 := hd 20 (by simp [State.JoMkGDep])
      have e20 := (hI.at_ 20 26 rfl l20).get
      obtain ⟨Bf, o0, o1, o2, o3, o4, v21, -⟩ := hI.gd 21 l21
      rw [v21] at e21
      obtain ⟨b1, d1, gm, gt, b4, d4, v20, -⟩ := hI.gd 20 l20
      rw [v20] at e20
      obtain ⟨Bf', o0, o1, o2, o3, o4, v21', g21⟩ := hI.gd 21 l21
      rw [v21] at v21'
      cases v21'
      obtain ⟨y0, y1, y2, y3, y4⟩ := Law.box5 (hI.hd.nth 2 (congrArg some g21))
      obtain ⟨f0, f1, f2, f3, f4⟩ := Law.free5 (hI.hd.nth 2 (congrArg some g21))
      refine Draws.wpOp_of (by rfl) rfl (State.wp_skip (w' := ((((W.setCell ⟨Bf, 0, none⟩ (.int .i64 R)).setCell ⟨Bf, 1, none⟩ (.slice b1 (n1 - 1) d1)).setCell ⟨Bf, 2, none⟩ (.slice (some ⟨gm, 0, none⟩) (n2 - 1) (n2 - 1))).setCell ⟨Bf, 3, none⟩ (.slice (some ⟨gt, 0, none⟩) (n3 - 1) (n3 - 1))).setCell ⟨Bf, 4, none⟩ (.slice b4 n4 d4)) ?_ ?_)
      · simp only [execOp]
        go_simp
      exact hI.turned (c := 21) hloc hL _ undef (Law.boxG Bf 29 #[.int .i64 R, .slice b1 (n1 - 1) d1, .slice (some ⟨gm, 0, none⟩) (n2 - 1) (n2 - 1), .slice (some ⟨gt, 0, none⟩) (n3 - 1) (n3 - 1), .slice b4 n4 d4]) (hI.hd.put5 2 (congrArg some g21) (.int .i64 R) (.slice b1 (n1 - 1) d1) (.slice (some ⟨gm, 0, none⟩) (n2 - 1) (n2 - 1)) (.slice (some ⟨gt, 0, none⟩) (n3 - 1) (n3 - 1)) (.slice b4 n4 d4)) l21 (by kernel_rfl) ⟨Bf, _, _, _, _, _, (Draws.upd_off _ _ (by decide)).trans v21, Draws.upd_at _ _ _⟩ ⟨Bf, b1, d1, gm, gt, b4, d4, (Draws.upd_off _ _ (by decide)).trans v21, (Draws.upd_off _ _ (by decide)).trans v20, Draws.upd_at _ _ _⟩
  case last =>
    intro L a_ W val G hI hall
    have al : ∀ i, i < 23 → L i = true := fun i hi => hall i (by simpa using hi)
    obtain ⟨b1, d1, gm, gt, b4, d4, v20, v8, v12, v16, v19⟩ := hI.gd 20 (al 20 (by decide))
    obtain ⟨Bf, b1', d1', gm', gt', b4', d4', v21, u, r21⟩ := hI.gd 22 (al 22 (by decide))
    rw [v20] at u
    cases u
    obtain ⟨b1', d1', u, v7⟩ := hI.gd 8 (al 8 (by decide))
    rw [v8] at u
    cases u
    obtain ⟨b1', d1', u, r7⟩ := hI.gd 7 (al 7 (by decide))
    rw [v7] at u
    cases u
    obtain ⟨gm', u, r12⟩ := hI.gd 12 (al 12 (by decide))
    rw [v12] at u
    cases u
    obtain ⟨gt', u, r16⟩ := hI.gd 16 (al 16 (by decide))
    rw [v16] at u
    cases u
    obtain ⟨b4', d4', u, r19⟩ := hI.gd 19 (al 19 (by decide))
    rw [v19] at u
    cases u
    have hH : Law.Held w W [Law.boxG w.heap.size 29 #[.int .i64 R, .slice (some ⟨g1, 0, none⟩) n1 c1, .slice (some ⟨g2, 0, none⟩) n2 c2, .slice (some ⟨g3, 0, none⟩) n3 c3, .slice (some ⟨g4, 0, none⟩) n4 c4], Law.boxG (w.heap.size + 1) 29 #[.int .i64 0, .slice none 0 0, .slice none 0 0, .slice none 0 0, .slice none 0 0], G 21, G 7, G 12, G 16, G 19] := hI.hd
    rw [r21, r7, r12, r16, r19] at hH
    have hH2 : Law.Held w W [Law.boxG w.heap.size 29 #[.int .i64 R, .slice (some ⟨g1, 0, none⟩) n1 c1, .slice (some ⟨g2, 0, none⟩) n2 c2, .slice (some ⟨g3, 0, none⟩) n3 c3, .slice (some ⟨g4, 0, none⟩) n4 c4], Law.boxG (w.heap.size + 1) 29 #[.int .i64 0, .slice none 0 0, .slice none 0 0, .slice none 0 0, .slice none 0 0], Law.boxG Bf 29 #[.int .i64 R, .slice b1 (n1 - 1) d1, .slice (some ⟨gm, 0, none⟩) (n2 - 1) (n2 - 1), .slice (some ⟨gt, 0, none⟩) (n3 - 1) (n3 - 1), .slice b4 n4 d4], State.stateG (.slice b1 (n1 - 1) d1) (.slice (some ⟨gm, 0, none⟩) (n2 - 1) (n2 - 1)) (.slice (some ⟨gt, 0, none⟩) (n3 - 1) (n3 - 1)) (.slice b4 n4 d4) (n1 - 1) (n2 - 1) (n3 - 1) n4 (Mesh.merge2 xs k) (State.slim ms k) (State.slim ts k) bs] := State.Held.asState (gs1 := [Law.boxG w.heap.size 29 #[.int .i64 R, .slice (some ⟨g1, 0, none⟩) n1 c1, .slice (some ⟨g2, 0, none⟩) n2 c2, .slice (some ⟨g3, 0, none⟩) n3 c3, .slice (some ⟨g4, 0, none⟩) n4 c4], Law.boxG (w.heap.size + 1) 29 #[.int .i64 0, .slice none 0 0, .slice none 0 0, .slice none 0 0, .slice none 0 0], Law.boxG Bf 29 #[.int .i64 R, .slice b1 (n1 - 1) d1, .slice (some ⟨gm, 0, none⟩) (n2 - 1) (n2 - 1), .slice (some ⟨gt, 0, none⟩) (n3 - 1) (n3 - 1), .slice b4 n4 d4]]) (gs2 := []) hH
    have HE3 := Lib.hid hH2
    have ha := hI.frame (by kernel_rfl) hall
    refine hK _ _ ?_
    clear hK hI hH hH2 r21 r7 r12 r16 r19 hall al HPM HPT HJL HE
    simp [Draws.frameOf, Draws.slotOf, Act.put, List.range, List.range.loop] at ha
    subst ha
    rw [v21]
    clear v20 v8 v12 v16 v19 v21 v7
    have HNE := Lib.hid (show gm ≠ gt from fun e => (State.OwnS.mt (HE3.out.nth 3 rfl)) gm rfl (by rw [e]; rfl))
    have HPU := Lib.hid (show ∀ (u : World) (om : u.ownsRow 0 3 1 (.slice (some ⟨gm, 0, none⟩) (n2 - 1) (n2 - 1)) (n2 - 1) (Ints.vals (State.slim ms k))) (ot : u.ownsRow 0 3 1 (.slice (some ⟨gt, 0, none⟩) (n3 - 1) (n3 - 1)) (n3 - 1) (Ints.vals (State.slim ts k))),
        Calls Try.prog 98 #[.agg #[.pointer (some ⟨gm, k, none⟩), .pointer (some ⟨gt, k, none⟩)], .int .i64 (m + m2), .int .i64 (t + t2)] u fun e w' => e = .returned (.tuple #[]) ∧ ∃ W, u.grownBy W none ∧ w' = (W.setCell ⟨gm, k, none⟩ (.int .i64 (m + m2))).setCell ⟨gt, k, none⟩ (.int .i64 (t + t2)) from fun u om ot => by
      obtain ⟨g2', x2, e2, -, m2', u2⟩ := State.own_cellI om HK2.out
      cases e2
      obtain ⟨g3', x3, e3, -, m3, u3⟩ := State.own_cellI ot HK3.out
      cases e3
      exact State.put_is gm gt k (m + m2) (t + t2) u ⟨_, m2'⟩ u2 ⟨_, m3⟩ u3 HNE.out)
    have HCO := Lib.hid (fun u => State.contentOf_is R b1 b4 gm gt (n1 - 1) (n2 - 1) (n3 - 1) n4 d1 (n2 - 1) (n3 - 1) d4 k HK2.out HK3.out u)
    go_upto_region 2 with fail
    rename_i K hK
    refine Draws.wp_region_tabG (w := w) rfl (by kernel_rfl) (by kernel_rfl) State.JoPuGDep (by kernel_rfl) [Law.boxG w.heap.size 29 #[.int .i64 R, .slice (some ⟨g1, 0, none⟩) n1 c1, .slice (some ⟨g2, 0, none⟩) n2 c2, .slice (some ⟨g3, 0, none⟩) n3 c3, .slice (some ⟨g4, 0, none⟩) n4 c4], Law.boxG (w.heap.size + 1) 29 #[.int .i64 0, .slice none 0 0, .slice none 0 0, .slice none 0 0, .slice none 0 0], Law.boxG Bf 29 #[.int .i64 R, .slice b1 (n1 - 1) d1, .slice (some ⟨gm, 0, none⟩) (n2 - 1) (n2 - 1), .slice (some ⟨gt, 0, none⟩) (n3 - 1) (n3 - 1), .slice b4 n4 d4]] [27] (fun _ => State.stateG (.slice b1 (n1 - 1) d1) (.slice (some ⟨gm, 0, none⟩) (n2 - 1) (n2 - 1)) (.slice (some ⟨gt, 0, none⟩) (n3 - 1) (n3 - 1)) (.slice b4 n4 d4) (n1 - 1) (n2 - 1) (n3 - 1) n4 (Mesh.merge2 xs k) (State.slim ms k) (State.slim ts k) bs) (State.JoPuG R g1 g2 g3 g4 n1 n2 n3 n4 c1 c2 c3 c4 k w.heap.size xs ms ts bs m m2 t t2 gm gt d1 d4 Bf b1 b4) ?start ?step ?last
    case start => exact HE3.out.on (Mesh.gr_drew (Cell.grown_refl _))
    case step =>
      clear hK
      intro L a W val G i o hI ho hL hd
      have hi : i < 28 := by have := (Array.getElem?_eq_some_iff.1 ho).1; simpa using this
      have hloc := State.JoPuG_local R g1 g2 g3 g4 n1 n2 n3 n4 c1 c2 c3 c4 k w.heap.size xs ms ts bs m m2 t t2 gm gt d1 d4 Bf b1 b4
      obtain ⟨z0, z1, z2, z3, z4⟩ := Law.box5 (hI.hd.nth 0 rfl)
      have c7 := State.readsI_cell (HR.out.m.on hI.hd.gr) HM.out.1.1
      have c8 := State.readsI_cell (HR.out.m.on hI.hd.gr) HM.out.1.2
      have c9 := State.readsI_cell (HR.out.t.on hI.hd.gr) HM.out.2.1
      have c10 := State.readsI_cell (HR.out.t.on hI.hd.gr) HM.out.2.2
      obtain ⟨y0, y1, y2, y3, y4⟩ := Law.box5 (hI.hd.nth 2 rfl)
      rcases (show i = 0 ∨ i = 1 ∨ i = 2 ∨ i = 3 ∨ i = 4 ∨ i = 5 ∨ i = 6 ∨ i = 7 ∨ i = 8 ∨ i = 9 ∨ i = 10 ∨ i = 11 ∨ i = 12 ∨ i = 13 ∨ i = 14 ∨ i = 15 ∨ i = 16 ∨ i = 17 ∨ i = 18 ∨ i = 19 ∨ i = 20 ∨ i = 21 ∨ i = 22 ∨ i = 23 ∨ i = 24 ∨ i = 25 ∨ i = 26 ∨ i = 27 by omega) with rfl | rfl | rfl | rfl | rfl | rfl | rfl | rfl | rfl | rfl | rfl | rfl | rfl | rfl | rfl | rfl | rfl | rfl | rfl | rfl | rfl | rfl | rfl | rfl | rfl | rfl | rfl | rfl
      · obtain rfl := Option.some.inj ho
        have p5 := (hI.old 5 (by kernel_rfl) rfl).get
        refine Draws.wpOp_of (by rfl) rfl (State.wp_value (v := .agg #[.int .i64 R, .slice b1 (n1 - 1) d1, .slice (some ⟨gm, 0, none⟩) (n2 - 1) (n2 - 1), .slice (some ⟨gt, 0, none⟩) (n3 - 1) (n3 - 1), .slice b4 n4 d4]) (w' := W) ?_ (hI.same hloc hL _ _ (Cell.grown_refl _) (Draws.upd_at _ _ _)))
        simp only [execOp]
        go_simp
      · obtain rfl := Option.some.inj ho
        have p1 := (hI.old 1 (by kernel_rfl) rfl).get
        refine Draws.wpOp_of (by rfl) rfl (State.wp_value (v := .int .i64 (k : Int)) (w' := W) ?_ (hI.same hloc hL _ _ (Cell.grown_refl _) (Draws.upd_at _ _ _)))
        simp only [execOp]
        go_simp
      · obtain rfl := Option.some.inj ho
        have l0 := hd 0 (by simp [State.JoPuGDep])
        have e0 := (hI.at_ 0 27 rfl l0).get
        have l1 := hd 1 (by simp [State.JoPuGDep])
        have e1 := (hI.at_ 1 28 rfl l1).get
        rw [show val 0 = _ from hI.gd 0 l0] at e0
        rw [show val 1 = _ from hI.gd 1 l1] at e1
        refine Draws.wpOp_of (by rfl) rfl ?_
        unfold Oper.wp
        simp only [execOp]
        go_simp
        refine Calls.mono (P := Try.prog) (HCO.out W) ?_
        rintro e w1 ⟨rfl, hg⟩
        exact hI.same hloc hL _ (.agg #[.pointer (some ⟨gm, k, none⟩), .pointer (some ⟨gt, k, none⟩)]) hg (Draws.upd_at _ _ _)
      · obtain rfl := Option.some.inj ho
        have p2 := (hI.old 2 (by kernel_rfl) rfl).get
        refine Draws.wpOp_of (by rfl) rfl (State.wp_value (v := .pointer (some ⟨w.heap.size, 2, none⟩)) (w' := W) ?_ (hI.same hloc hL _ _ (Cell.grown_refl _) (Draws.upd_at _ _ _)))
        simp only [execOp]
        go_simp
      · obtain rfl := Option.some.inj ho
        have l3 := hd 3 (by simp [State.JoPuGDep])
        have e3 := (hI.at_ 3 30 rfl l3).get
        rw [show val 3 = _ from hI.gd 3 l3] at e3
        refine Draws.wpOp_of (by rfl) rfl (State.wp_value (v := .slice (some ⟨g2, 0, none⟩) n2 c2) (w' := W) ?_ (hI.same hloc hL _ _ (Cell.grown_refl _) (Draws.upd_at _ _ _)))
        simp only [execOp]
        go_simp
      · obtain rfl := Option.some.inj ho
        have p1 := (hI.old 1 (by kernel_rfl) rfl).get
        refine Draws.wpOp_of (by rfl) rfl (State.wp_value (v := .int .i64 (k : Int)) (w' := W) ?_ (hI.same hloc hL _ _ (Cell.grown_refl _) (Draws.upd_at _ _ _)))
        simp only [execOp]
        go_simp
      · obtain rfl := Option.some.inj ho
        have l4 := hd 4 (by simp [State.JoPuGDep])
        have e4 := (hI.at_ 4 31 rfl l4).get
        have l5 := hd 5 (by simp [State.JoPuGDep])
        have e5 := (hI.at_ 5 32 rfl l5).get
        rw [show val 4 = _ from hI.gd 4 l4] at e4
        rw [show val 5 = _ from hI.gd 5 l5] at e5
        refine Draws.wpOp_of (by rfl) rfl (State.wp_value (v := .pointer (some ⟨g2, k, none⟩)) (w' := W) ?_ (hI.same hloc hL _ _ (Cell.grown_refl _) (Draws.upd_at _ _ _)))
        simp only [execOp]
        go_simp
      · obtain rfl := Option.some.inj ho
        have l6 := hd 6 (by simp [State.JoPuGDep])
        have e6 := (hI.at_ 6 33 rfl l6).get
        rw [show val 6 = _ from hI.gd 6 l6] at e6
        refine Draws.wpOp_of (by rfl) rfl (State.wp_value (v := .int .i64 m) (w' := W) ?_ (hI.same hloc hL _ _ (Cell.grown_refl _) (Draws.upd_at _ _ _)))
        simp only [execOp]
        go_simp
      · obtain rfl := Option.some.inj ho
        have p2 := (hI.old 2 (by kernel_rfl) rfl).get
        refine Draws.wpOp_of (by rfl) rfl (State.wp_value (v := .pointer (some ⟨w.heap.size, 2, none⟩)) (w' := W) ?_ (hI.same hloc hL _ _ (Cell.grown_refl _) (Draws.upd_at _ _ _)))
        simp only [execOp]
        go_simp
      · obtain rfl := Option.some.inj ho
        have l8 := hd 8 (by simp [State.JoPuGDep])
        have e8 := (hI.at_ 8 35 rfl l8).get
        rw [show val 8 = _ from hI.gd 8 l8] at e8
        refine Draws.wpOp_of (by rfl) rfl (State.wp_value (v := .slice (some ⟨g2, 0, none⟩) n2 c2) (w' := W) ?_ (hI.same hloc hL _ _ (Cell.grown_refl _) (Draws.upd_at _ _ _)))
        simp only [execOp]
        go_simp
      · obtain rfl := Option.some.inj ho
        have p1 := (hI.old 1 (by kernel_rfl) rfl).get
        refine Draws.wpOp_of (by rfl) rfl (State.wp_value (v := .int .i64 (k : Int)) (w' := W) ?_ (hI.same hloc hL _ _ (Cell.grown_refl _) (Draws.upd_at _ _ _)))
        simp only [execOp]
        go_simp
      · obtain rfl := Option.some.inj ho
        have l10 := hd 10 (by simp [State.JoPuGDep])
        have e10 := (hI.at_ 10 37 rfl l10).get
        rw [show val 10 = _ from hI.gd 10 l10] at e10
        refine Draws.wpOp_of (by rfl) rfl (State.wp_value (v := .int .i64 ((k : Int) + 1)) (w' := W) ?_ (hI.same hloc hL _ _ (Cell.grown_refl _) (Draws.upd_at _ _ _)))
        simp only [execOp]
        go_simp
      · obtain rfl := Option.some.inj ho
        have l9 := hd 9 (by simp [State.JoPuGDep])
        have e9 := (hI.at_ 9 36 rfl l9).get
        have l11 := hd 11 (by simp [State.JoPuGDep])
        have e11 := (hI.at_ 11 38 rfl l11).get
        rw [show val 9 = _ from hI.gd 9 l9] at e9
        rw [show val 11 = _ from hI.gd 11 l11] at e11
        refine Draws.wpOp_of (by rfl) rfl (State.wp_value (v := .pointer (some ⟨g2, (k + 1), none⟩)) (w' := W) ?_ (hI.same hloc hL _ _ (Cell.grown_refl _) (Draws.upd_at _ _ _)))
        simp only [execOp]
        go_simp
      · obtain rfl := Option.some.inj ho
        have l12 := hd 12 (by simp [State.JoPuGDep])
        have e12 := (hI.at_ 12 39 rfl l12).get
        rw [show val 12 = _ from hI.gd 12 l12] at e12
        refine Draws.wpOp_of (by rfl) rfl (State.wp_value (v := .int .i64 m2) (w' := W) ?_ (hI.same hloc hL _ _ (Cell.grown_refl _) (Draws.upd_at _ _ _)))
        simp only [execOp]
        go_simp
      · obtain rfl := Option.some.inj ho
        have l7 := hd 7 (by simp [State.JoPuGDep])
        have e7 := (hI.at_ 7 34 rfl l7).get
        have l13 := hd 13 (by simp [State.JoPuGDep])
        have e13 := (hI.at_ 13 40 rfl l13).get
        rw [show val 7 = _ from hI.gd 7 l7] at e7
        rw [show val 13 = _ from hI.gd 13 l13] at e13
        refine Draws.wpOp_of (by rfl) rfl (State.wp_value (v := .int .i64 (m + m2)) (w' := W) ?_ (hI.same hloc hL _ _ (Cell.grown_refl _) (Draws.upd_at _ _ _)))
        simp only [execOp]
        go_simp
      · obtain rfl := Option.some.inj ho
        have p2 := (hI.old 2 (by kernel_rfl) rfl).get
        refine Draws.wpOp_of (by rfl) rfl (State.wp_value (v := .pointer (some ⟨w.heap.size, 3, none⟩)) (w' := W) ?_ (hI.same hloc hL _ _ (Cell.grown_refl _) (Draws.upd_at _ _ _)))
        simp only [execOp]
        go_simp
      · obtain rfl := Option.some.inj ho
        have l15 := hd 15 (by simp [State.JoPuGDep])
        have e15 := (hI.at_ 15 42 rfl l15).get
        rw [show val 15 = _ from hI.gd 15 l15] at e15
        refine Draws.wpOp_of (by rfl) rfl (State.wp_value (v := .slice (some ⟨g3, 0, none⟩) n3 c3) (w' := W) ?_ (hI.same hloc hL _ _ (Cell.grown_refl _) (Draws.upd_at _ _ _)))
        simp only [execOp]
        go_simp
      · obtain rfl := Option.some.inj ho
        have p1 := (hI.old 1 (by kernel_rfl) rfl).get
        refine Draws.wpOp_of (by rfl) rfl (State.wp_value (v := .int .i64 (k : Int)) (w' := W) ?_ (hI.same hloc hL _ _ (Cell.grown_refl _) (Draws.upd_at _ _ _)))
        simp only [execOp]
        go_simp
      · obtain rfl := Option.some.inj ho
        have l16 := hd 16 (by simp [State.JoPuGDep])
        have e16 := (hI.at_ 16 43 rfl l16).get
        have l17 := hd 17 (by simp [State.JoPuGDep])
        have e17 := (hI.at_ 17 44 rfl l17).get
        rw [show val 16 = _ from hI.gd 16 l16] at e16
        rw [show val 17 = _ from hI.gd 17 l17] at e17
        refine Draws.wpOp_of (by rfl) rfl (State.wp_value (v := .pointer (some ⟨g3, k, none⟩)) (w' := W) ?_ (hI.same hloc hL _ _ (Cell.grown_refl _) (Draws.upd_at _ _ _)))
        simp only [execOp]
        go_simp
      · obtain rfl := Option.some.inj ho
        have l18 := hd 18 (by simp [State.JoPuGDep])
        have e18 := (hI.at_ 18 45 rfl l18).get
        rw [show val 18 = _ from hI.gd 18 l18] at e18
        refine Draws.wpOp_of (by rfl) rfl (State.wp_value (v := .int .i64 t) (w' := W) ?_ (hI.same hloc hL _ _ (Cell.grown_refl _) (Draws.upd_at _ _ _)))
        simp only [execOp]
        go_simp
      · obtain rfl := Option.some.inj ho
        have p2 := (hI.old 2 (by kernel_rfl) rfl).get
        refine Draws.wpOp_of (by rfl) rfl (State.wp_value (v := .pointer (some ⟨w.heap.size, 3, none⟩)) (w' := W) ?_ (hI.same hloc hL _ _ (Cell.grown_refl _) (Draws.upd_at _ _ _)))
        simp only [execOp]
        go_simp
      · obtain rfl := Option.some.inj ho
        have l20 := hd 20 (by simp [State.JoPuGDep])
        have e20 := (hI.at_ 20 47 rfl l20).get
        rw [show val 20 = _ from hI.gd 20 l20] at e20
        refine Draws.wpOp_of (by rfl) rfl (State.wp_value (v := .slice (some ⟨g3, 0, none⟩) n3 c3) (w' := W) ?_ (hI.same hloc hL _ _ (Cell.grown_refl _) (Draws.upd_at _ _ _)))
        simp only [execOp]
        go_simp
      · obtain rfl := Option.some.inj ho
        have p1 := (hI.old 1 (by kernel_rfl) rfl).get
        refine Draws.wpOp_of (by rfl) rfl (State.wp_value (v := .int .i64 (k : Int)) (w' := W) ?_ (hI.same hloc hL _ _ (Cell.grown_refl _) (Draws.upd_at _ _ _)))
        simp only [execOp]
        go_simp
      · obtain rfl := Option.some.inj ho
        have l22 := hd 22 (by simp [State.JoPuGDep])
        have e22 := (hI.at_ 22 49 rfl l22).get
        rw [show val 22 = _ from hI.gd 22 l22] at e22
        refine Draws.wpOp_of (by rfl) rfl (State.wp_value (v := .int .i64 ((k : Int) + 1)) (w' := W) ?_ (hI.same hloc hL _ _ (Cell.grown_refl _) (Draws.upd_at _ _ _)))
        simp only [execOp]
        go_simp
      · obtain rfl := Option.some.inj ho
        have l21 := hd 21 (by simp [State.JoPuGDep])
        have e21 := (hI.at_ 21 48 rfl l21).get
        have l23 := hd 23 (by simp [State.JoPuGDep])
        have e23 := (hI.at_ 23 50 rfl l23).get
        rw [show val 21 = _ from hI.gd 21 l21] at e21
        rw [show val 23 = _ from hI.gd 23 l23] at e23
        refine Draws.wpOp_of (by rfl) rfl (State.wp_value (v := .pointer (some ⟨g3, (k + 1), none⟩)) (w' := W) ?_ (hI.same hloc hL _ _ (Cell.grown_refl _) (Draws.upd_at _ _ _)))
        simp only [execOp]
        go_simp
      · obtain rfl := Option.some.inj ho
        have l24 := hd 24 (by simp [State.JoPuGDep])
        have e24 := (hI.at_ 24 51 rfl l24).get
        rw [show val 24 = _ from hI.gd 24 l24] at e24
        refine Draws.wpOp_of (by rfl) rfl (State.wp_value (v := .int .i64 t2) (w' := W) ?_ (hI.same hloc hL _ _ (Cell.grown_refl _) (Draws.upd_at _ _ _)))
        simp only [execOp]
        go_simp
      · obtain rfl := Option.some.inj ho
        have l19 := hd 19 (by simp [State.JoPuGDep])
        have e19 := (hI.at_ 19 46 rfl l19).get
        have l25 := hd 25 (by simp [State.JoPuGDep])
        have e25 := (hI.at_ 25 52 rfl l25).get
        rw [show val 19 = _ from hI.gd 19 l19] at e19
        rw [show val 25 = _ from hI.gd 25 l25] at e25
        refine Draws.wpOp_of (by rfl) rfl (State.wp_value (v := .int .i64 (t + t2)) (w' := W) ?_ (hI.same hloc hL _ _ (Cell.grown_refl _) (Draws.upd_at _ _ _)))
        simp only [execOp]
        go_simp
      · obtain rfl := Option.some.inj ho
        have l2 := hd 2 (by simp [State.JoPuGDep])
        have e2 := (hI.at_ 2 29 rfl l2).get
        have l14 := hd 14 (by simp [State.JoPuGDep])
        have e14 := (hI.at_ 14 41 rfl l14).get
        have l26 := hd 26 (by simp [State.JoPuGDep])
        have e26 := (hI.at_ 26 53 rfl l26).get
        rw [show val 2 = _ from hI.gd 2 l2] at e2
        rw [show val 14 = _ from hI.gd 14 l14] at e14
        rw [show val 26 = _ from hI.gd 26 l26] at e26
        refine Draws.wpOp_of (by rfl) rfl ?_
        unfold Oper.wp
        simp only [execOp]
        go_simp
        refine Calls.mono (P := Try.prog) (HPU.out W (State.OwnS.m (hI.hd.nth 3 (congrArg some (hI.no 27 hL)))) (State.OwnS.t (hI.hd.nth 3 (congrArg some (hI.no 27 hL))))) ?_
        rintro e w1 ⟨rfl, W2, hg, rfl⟩
        exact hI.made hloc hL _ (.tuple #[]) (State.stateG (.slice b1 (n1 - 1) d1) (.slice (some ⟨gm, 0, none⟩) (n2 - 1) (n2 - 1)) (.slice (some ⟨gt, 0, none⟩) (n3 - 1) (n3 - 1)) (.slice b4 n4 d4) (n1 - 1) (n2 - 1) (n3 - 1) n4 (Mesh.merge2 xs k) ((State.slim ms k).set k (m + m2)) ((State.slim ts k).set k (t + t2)) bs) (State.Held.setTracer (State.Held.setMass (hI.hd.on hg) 3 (congrArg some (hI.no 27 hL)) k (m + m2)) 3 rfl k (t + t2)) (Draws.upd_at _ _ _)
    case last =>
      intro L a_ W val G hI hall
      have r27 : G 27 = State.stateG (.slice b1 (n1 - 1) d1) (.slice (some ⟨gm, 0, none⟩) (n2 - 1) (n2 - 1)) (.slice (some ⟨gt, 0, none⟩) (n3 - 1) (n3 - 1)) (.slice b4 n4 d4) (n1 - 1) (n2 - 1) (n3 - 1) n4 (Mesh.merge2 xs k) ((State.slim ms k).set k (m + m2)) ((State.slim ts k).set k (t + t2)) bs := hI.gd 27 (hall 27 (by simp))
      have hH : Law.Held w W [Law.boxG w.heap.size 29 #[.int .i64 R, .slice (some ⟨g1, 0, none⟩) n1 c1, .slice (some ⟨g2, 0, none⟩) n2 c2, .slice (some ⟨g3, 0, none⟩) n3 c3, .slice (some ⟨g4, 0, none⟩) n4 c4], Law.boxG (w.heap.size + 1) 29 #[.int .i64 0, .slice none 0 0, .slice none 0 0, .slice none 0 0, .slice none 0 0], Law.boxG Bf 29 #[.int .i64 R, .slice b1 (n1 - 1) d1, .slice (some ⟨gm, 0, none⟩) (n2 - 1) (n2 - 1), .slice (some ⟨gt, 0, none⟩) (n3 - 1) (n3 - 1), .slice b4 n4 d4], G 27] := hI.hd
      rw [r27] at hH
      have HE6 := Lib.hid hH
      have ha := hI.frame (by kernel_rfl) hall
      refine hK _ _ ?_
      clear hK hI hH r27 hall HE3 HCO HPU
      simp [Draws.frameOf, Draws.slotOf, Act.put, List.range, List.range.loop] at ha
      subst ha
      obtain ⟨o0, o1, o2, o3, o4⟩ := Law.box5 (HE6.out.nth 2 rfl)
      obtain ⟨r0, r1, r2, r3, r4⟩ := Law.box5 (HE6.out.nth 1 rfl)
      obtain ⟨f0, f1, f2, f3, f4⟩ := Law.free5 (HE6.out.nth 1 rfl)
      go_wp2_with fail
      have he := HE6.out.put5 1 rfl (.int .i64 R) (.slice b1 (n1 - 1) d1) (.slice (some ⟨gm, 0, none⟩) (n2 - 1) (n2 - 1)) (.slice (some ⟨gt, 0, none⟩) (n3 - 1) (n3 - 1)) (.slice b4 n4 d4)
      rw [HSM.out, HST.out]
      exact bodyPost_ret_by (results_cell_row (fn := Try.f58) rfl _ _ (w.heap.size + 1) _ _ (0, 0) _ rfl (he.nth 1 rfl) Try.underlying29 rfl (by kernel_rfl)) rfl ⟨b1, d1, some ⟨gm, 0, none⟩, n2 - 1, some ⟨gt, 0, none⟩, n3 - 1, b4, d4, rfl, State.Held.stateOwn he 3 rfl, he.gr⟩
end Go.Proofs.Ytfoilfgiablleaa.State
