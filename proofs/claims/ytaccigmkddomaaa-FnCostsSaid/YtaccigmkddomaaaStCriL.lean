/- Criteria: the table of the region of chapter 16's law FnCosts that refines a leaf, two cells stored whole (written by wip/tools/fncost.py).
   Conditions: none. -/
import Derived.Test.YtaccigmkddomaaaStCriP
import Derived.Test.YtaccigmkddomaaaStPutL
import Derived.Test.YtaccigmkddomaaaPkReg
set_option maxRecDepth 100000
namespace Go.Proofs.Ytaccigmkddomaaa.State
open Go.ChangeShapes Go.WideShapes Go.ChangeAt Go.RowKit Go.Proofs.Ytaccigmkddomaaa.Cell Go.Proofs.Ytaccigmkddomaaa.Mesh Go.Proofs.Ytaccigmkddomaaa.Law Go.Proofs.Ytaccigmkddomaaa.Ints Go.Proofs.Ytaccigmkddomaaa.Draws
set_option linter.unusedVariables false

theorem free2C {b : Nat} {t : TypeId} {vs : Array Value} {W : World} (h : (boxG b t vs).P W) : W.frozen? ⟨b, 0, none⟩ = false ∧ W.frozen? ⟨b, 1, none⟩ = false := ⟨boxG.free h 0, boxG.free h 1⟩
/-- A struct of two cells stored whole. -/
theorem put2C {w W : World} {gs : List Grp} {b : Nat} {t : TypeId} {x0 x1 : Value} (h : Held w W gs) (k : Nat) (hk : gs[k]? = some (boxG b t #[x0, x1])) (y0 y1 : Value) :
    Held w ((W.setCell ⟨b, 0, none⟩ y0).setCell ⟨b, 1, none⟩ y1) (gs.set k (boxG b t #[y0, y1])) := by
  have hlt := (List.getElem?_eq_some_iff.1 hk).1
  have g1 : Held w (W.setCell ⟨b, 0, none⟩ y0) (gs.set k (boxG b t #[y0, x1])) := h.put k hk 0 y0
  have g2 : Held w ((W.setCell ⟨b, 0, none⟩ y0).setCell ⟨b, 1, none⟩ y1) ((gs.set k (boxG b t #[y0, x1])).set k (boxG b t #[y0, y1])) := g1.put k (by rw [List.getElem?_set_self hlt]) 1 y1
  rw [List.set_set] at g2
  exact g2
theorem own_capC {w : World} {base n cap : Nat} {a : Option Addr} {xs : List Value} (h : w.ownsRow base 35 3 (.slice a n cap) n xs) (hn : 1 ≤ n) : n ≤ cap := by
  rcases h.2 with ⟨-, h0⟩ | ⟨g, c, cur, he, -, -, hc, -⟩
  · omega
  · cases he; exact hc
theorem ref_shortC {R i : Int} {xs : List C3} (h : xs.length ≤ 128) : (refOf R xs i).length ≤ 1048576 := by
  have := refOf_len (R := R) (i := i) (xs := xs)
  omega
theorem gives_tC {R : Int} {b : Bool} {zs : List C3} {w : World} : ∀ e w', GivesB R b zs w e w' → ∃ q d, e = .returned (.tuple #[.agg #[.int .i64 R, .slice q zs.length d], .bool b]) ∧ w'.ownsRow w.heap.size 35 3 (.slice q zs.length d) zs.length (flatC zs) ∧ w.grownBy w' none := by
  rintro e w' ⟨v, rfl, ho, hg⟩
  obtain ⟨a, c, rfl⟩ := own_form ho
  exact ⟨a, c, rfl, ho, hg⟩
/-- A leaf replaced by its children makes the mesh dearer. -/
theorem ref_more {R : Int} {xs : List C3} {k : Nat} (h : mayRef R xs (k : Int) = true) : costG R xs < costG R (refOf R xs (k : Int)) := by
  have h' := h
  unfold mayRef at h'
  simp only [Bool.and_eq_true, decide_eq_true_eq, Int.toNat_natCast] at h'
  obtain ⟨hm, -, hk, hl⟩ := h'
  have hk' : k < xs.length := by omega
  have hx := List.getElem?_eq_getElem hk'
  rw [show refOf R xs (k : Int) = split2 xs k by unfold refOf; rw [if_pos h, Int.toNat_natCast]]
  refine split_cost hm hx ?_
  simpa [Mesh.lvAt, hx] using hl
/-- What each operation leaves. -/
def RefG (R p0 p1 p2 : Int) (g1 n c1 B3 gp cp nz k : Nat) (b : Bool) (zs : List Mesh.C3) (val : Nat → Value) (G : Nat → Grp) : Nat → Prop
  | 0 => val 0 = .agg #[.int .i64 R, .slice (some ⟨g1, 0, none⟩) n c1]
  | 1 => val 1 = .slice (some ⟨gp, 0, none⟩) 12 cp
  | 2 => val 2 = .pointer (some ⟨gp, 1, none⟩)
  | 3 => val 3 = .int .i64 p1
  | 4 => val 4 = .pointer (some ⟨B3, 1, none⟩)
  | 5 => val 5 = .slice (some ⟨g1, 0, none⟩) n c1
  | 6 => val 6 = .int .i64 (n : Int)
  | 7 => val 7 = .int .i64 (k : Int)
  | 8 => ∃ (q : Option Addr) (d : Nat), val 8 = .tuple #[.agg #[.int .i64 R, .slice q nz d], .bool b] ∧ G 8 = Law.rowG 35 3 (.slice q nz d) nz (Mesh.flatC zs)
  | 9 => ∃ (q : Option Addr) (d : Nat), val 9 = .tuple #[.agg #[.int .i64 R, .slice q nz d], .bool b] ∧ val 8 = .tuple #[.agg #[.int .i64 R, .slice q nz d], .bool b]
  | 10 => ∃ (q : Option Addr) (d : Nat), val 10 = .agg #[.int .i64 R, .slice q nz d] ∧ val 9 = .tuple #[.agg #[.int .i64 R, .slice q nz d], .bool b]
  | 11 => val 11 = .bool b
  | 12 => ∃ (BX : Nat) (o0 : Value) (o1 : Value), val 12 = .pointer (some ⟨BX, 0, none⟩) ∧ G 12 = Law.boxG BX 26 #[o0, o1]
  | 13 => ∃ (BX : Nat) (q : Option Addr) (d : Nat), val 12 = .pointer (some ⟨BX, 0, none⟩) ∧ val 10 = .agg #[.int .i64 R, .slice q nz d] ∧ G 12 = Law.boxG BX 26 #[.int .i64 R, .slice q nz d]
  | 14 => val 14 = .bool b
  | _ => True
def RefGDep : Nat → List Nat
  | 2 => [1] | 3 => [2] | 5 => [4] | 6 => [5] | 7 => [3, 6] | 8 => [0, 7] | 9 => [8] | 10 => [9] | 11 => [9] | 13 => [12, 10] | 14 => [11] | _ => []
theorem RefG_local (R p0 p1 p2 : Int) (g1 n c1 B3 gp cp nz k : Nat) (b : Bool) (zs : List Mesh.C3) : Local RefGDep (RefG R p0 p1 p2 g1 n c1 B3 gp cp nz k b zs) := by
  intro val val' G G' j hk h
  match j with
  | 0 => exact (hk 0 (.inl rfl)).1.trans h
  | 1 => exact (hk 1 (.inl rfl)).1.trans h
  | 2 => exact (hk 2 (.inl rfl)).1.trans h
  | 3 => exact (hk 3 (.inl rfl)).1.trans h
  | 4 => exact (hk 4 (.inl rfl)).1.trans h
  | 5 => exact (hk 5 (.inl rfl)).1.trans h
  | 6 => exact (hk 6 (.inl rfl)).1.trans h
  | 7 => exact (hk 7 (.inl rfl)).1.trans h
  | 8 => obtain ⟨q, d, h0, h1⟩ := h; exact ⟨q, d, (hk 8 (.inl rfl)).1.trans h0, (hk 8 (.inl rfl)).2.trans h1⟩
  | 9 => obtain ⟨q, d, h0, h1⟩ := h; exact ⟨q, d, (hk 9 (.inl rfl)).1.trans h0, (hk 8 (.inr (by simp [RefGDep]))).1.trans h1⟩
  | 10 => obtain ⟨q, d, h0, h1⟩ := h; exact ⟨q, d, (hk 10 (.inl rfl)).1.trans h0, (hk 9 (.inr (by simp [RefGDep]))).1.trans h1⟩
  | 11 => exact (hk 11 (.inl rfl)).1.trans h
  | 12 => obtain ⟨BX, o0, o1, h0, h1⟩ := h; exact ⟨BX, o0, o1, (hk 12 (.inl rfl)).1.trans h0, (hk 12 (.inl rfl)).2.trans h1⟩
  | 13 => obtain ⟨BX, q, d, h0, h1, h2⟩ := h; exact ⟨BX, q, d, (hk 12 (.inr (by simp [RefGDep]))).1.trans h0, (hk 10 (.inr (by simp [RefGDep]))).1.trans h1, (hk 12 (.inr (by simp [RefGDep]))).2.trans h2⟩
  | 14 => exact (hk 14 (.inl rfl)).1.trans h
  | _ + 15 => trivial
/-- What each operation leaves. -/
def CostT (R lv A B CF CM CX : Int) (g1 n c1 nu nf nz B3 B6 B8 BX du df d : Nat) (qu qf q : Option Addr) (val : Nat → Value) (G : Nat → Grp) : Nat → Prop
  | 0 => val 0 = .agg #[.int .i64 R, .slice qu nu du]
  | 1 => val 1 = .int .i64 B
  | 2 => val 2 = .pointer (some ⟨B3, 0, none⟩)
  | 3 => val 3 = .int .i64 R
  | 4 => val 4 = .int .i64 lv
  | 5 => val 5 = .int .u64 lv
  | 6 => val 6 = .int .i64 A
  | 7 => val 7 = .int .i64 (A - 1)
  | 8 => val 8 = .int .i64 lv
  | 9 => val 9 = .int .u64 lv
  | 10 => val 10 = .int .i64 B
  | 11 => val 11 = .bool true
  | 12 => val 12 = .bool true
  | 13 => val 13 = .agg #[.int .i64 R, .slice qf nf df]
  | 14 => val 14 = .int .i64 0
  | 15 => val 15 = .bool true
  | 16 => val 16 = .bool true
  | 17 => val 17 = .bool true
  | 18 => val 18 = .agg #[.int .i64 R, .slice (some ⟨g1, 0, none⟩) n c1]
  | 19 => val 19 = .int .i64 (CF - CM)
  | 20 => val 20 = .agg #[.int .i64 R, .slice qf nf df]
  | 21 => val 21 = .int .i64 CF
  | 22 => val 22 = .int .i64 CM
  | 23 => val 23 = .int .i64 (CF - CM)
  | 24 => val 24 = .bool true
  | 25 => val 25 = .bool true
  | 26 => val 26 = .bool true
  | 27 => val 27 = .agg #[.int .i64 R, .slice (some ⟨g1, 0, none⟩) n c1]
  | 28 => val 28 = .int .i64 (CF - CM)
  | 29 => val 29 = .bool true
  | 30 => val 30 = .bool true
  | 31 => val 31 = .bool true
  | 32 => val 32 = .bool true
  | 33 => val 33 = .bool false
  | 34 => val 34 = .bool false
  | 35 => val 35 = .agg #[.int .i64 R, .slice q nz d]
  | 36 => val 36 = .int .i64 CX
  | 37 => val 37 = .int .i64 CM
  | 38 => val 38 = .bool true
  | 39 => val 39 = .bool true
  | 40 => val 40 = .bool true
  | 41 => val 41 = .bool true
  | _ => True
def CostTDep : Nat → List Nat
  | 1 => [0] | 3 => [2] | 5 => [4] | 6 => [3, 5] | 7 => [6] | 9 => [8] | 10 => [7, 9] | 11 => [1, 10] | 12 => [11] | 13 => [12] | 14 => [13, 12] | 15 => [14, 12] | 16 => [12, 15] | 17 => [16] | 18 => [17] | 19 => [18, 17] | 20 => [17] | 21 => [20, 17] | 22 => [17] | 23 => [21, 22, 17] | 24 => [19, 23, 17] | 25 => [17, 24] | 26 => [25] | 27 => [26] | 28 => [27, 26] | 29 => [28, 26] | 30 => [26, 29] | 31 => [30] | 32 => [31] | 33 => [32, 31] | 34 => [33, 31] | 35 => [34] | 36 => [35, 34] | 37 => [34] | 38 => [36, 37, 34] | 39 => [34, 38, 31] | 40 => [31, 39] | 41 => [40] | _ => []
theorem CostT_local (R lv A B CF CM CX : Int) (g1 n c1 nu nf nz B3 B6 B8 BX du df d : Nat) (qu qf q : Option Addr) : Local CostTDep (CostT R lv A B CF CM CX g1 n c1 nu nf nz B3 B6 B8 BX du df d qu qf q) := by
  intro val val' G G' j hk h
  match j with
  | 0 => exact (hk 0 (.inl rfl)).1.trans h
  | 1 => exact (hk 1 (.inl rfl)).1.trans h
  | 2 => exact (hk 2 (.inl rfl)).1.trans h
  | 3 => exact (hk 3 (.inl rfl)).1.trans h
  | 4 => exact (hk 4 (.inl rfl)).1.trans h
  | 5 => exact (hk 5 (.inl rfl)).1.trans h
  | 6 => exact (hk 6 (.inl rfl)).1.trans h
  | 7 => exact (hk 7 (.inl rfl)).1.trans h
  | 8 => exact (hk 8 (.inl rfl)).1.trans h
  | 9 => exact (hk 9 (.inl rfl)).1.trans h
  | 10 => exact (hk 10 (.inl rfl)).1.trans h
  | 11 => exact (hk 11 (.inl rfl)).1.trans h
  | 12 => exact (hk 12 (.inl rfl)).1.trans h
  | 13 => exact (hk 13 (.inl rfl)).1.trans h
  | 14 => exact (hk 14 (.inl rfl)).1.trans h
  | 15 => exact (hk 15 (.inl rfl)).1.trans h
  | 16 => exact (hk 16 (.inl rfl)).1.trans h
  | 17 => exact (hk 17 (.inl rfl)).1.trans h
  | 18 => exact (hk 18 (.inl rfl)).1.trans h
  | 19 => exact (hk 19 (.inl rfl)).1.trans h
  | 20 => exact (hk 20 (.inl rfl)).1.trans h
  | 21 => exact (hk 21 (.inl rfl)).1.trans h
  | 22 => exact (hk 22 (.inl rfl)).1.trans h
  | 23 => exact (hk 23 (.inl rfl)).1.trans h
  | 24 => exact (hk 24 (.inl rfl)).1.trans h
  | 25 => exact (hk 25 (.inl rfl)).1.trans h
  | 26 => exact (hk 26 (.inl rfl)).1.trans h
  | 27 => exact (hk 27 (.inl rfl)).1.trans h
  | 28 => exact (hk 28 (.inl rfl)).1.trans h
  | 29 => exact (hk 29 (.inl rfl)).1.trans h
  | 30 => exact (hk 30 (.inl rfl)).1.trans h
  | 31 => exact (hk 31 (.inl rfl)).1.trans h
  | 32 => exact (hk 32 (.inl rfl)).1.trans h
  | 33 => exact (hk 33 (.inl rfl)).1.trans h
  | 34 => exact (hk 34 (.inl rfl)).1.trans h
  | 35 => exact (hk 35 (.inl rfl)).1.trans h
  | 36 => exact (hk 36 (.inl rfl)).1.trans h
  | 37 => exact (hk 37 (.inl rfl)).1.trans h
  | 38 => exact (hk 38 (.inl rfl)).1.trans h
  | 39 => exact (hk 39 (.inl rfl)).1.trans h
  | 40 => exact (hk 40 (.inl rfl)).1.trans h
  | 41 => exact (hk 41 (.inl rfl)).1.trans h
  | _ + 42 => trivial
/-- What each operation leaves. -/
def CostF (R lv A B CF CM CX : Int) (g1 n c1 nu nf nz B3 B6 B8 BX du df d : Nat) (qu qf q : Option Addr) (val : Nat → Value) (G : Nat → Grp) : Nat → Prop
  | 0 => val 0 = .agg #[.int .i64 R, .slice qu nu du]
  | 1 => val 1 = .int .i64 B
  | 2 => val 2 = .pointer (some ⟨B3, 0, none⟩)
  | 3 => val 3 = .int .i64 R
  | 4 => val 4 = .int .i64 lv
  | 5 => val 5 = .int .u64 lv
  | 6 => val 6 = .int .i64 A
  | 7 => val 7 = .int .i64 (A - 1)
  | 8 => val 8 = .int .i64 lv
  | 9 => val 9 = .int .u64 lv
  | 10 => val 10 = .int .i64 B
  | 11 => val 11 = .bool true
  | 12 => val 12 = .bool true
  | 13 => val 13 = .agg #[.int .i64 R, .slice qf nf df]
  | 14 => val 14 = .int .i64 0
  | 15 => val 15 = .bool true
  | 16 => val 16 = .bool true
  | 17 => val 17 = .bool true
  | 18 => val 18 = .agg #[.int .i64 R, .slice (some ⟨g1, 0, none⟩) n c1]
  | 19 => val 19 = .int .i64 (CF - CM)
  | 20 => val 20 = .agg #[.int .i64 R, .slice qf nf df]
  | 21 => val 21 = .int .i64 CF
  | 22 => val 22 = .int .i64 CM
  | 23 => val 23 = .int .i64 (CF - CM)
  | 24 => val 24 = .bool true
  | 25 => val 25 = .bool true
  | 26 => val 26 = .bool true
  | 27 => val 27 = .agg #[.int .i64 R, .slice (some ⟨g1, 0, none⟩) n c1]
  | 28 => val 28 = .int .i64 (CF - CM)
  | 29 => val 29 = .bool true
  | 30 => val 30 = .bool true
  | 31 => val 31 = .bool true
  | 32 => val 32 = .bool false
  | 33 => val 33 = .bool true
  | 34 => val 34 = .bool true
  | 35 => val 35 = undef
  | 36 => val 36 = undef
  | 37 => val 37 = undef
  | 38 => val 38 = undef
  | 39 => val 39 = .bool true
  | 40 => val 40 = .bool true
  | 41 => val 41 = .bool true
  | _ => True
def CostFDep : Nat → List Nat
  | 1 => [0] | 3 => [2] | 5 => [4] | 6 => [3, 5] | 7 => [6] | 9 => [8] | 10 => [7, 9] | 11 => [1, 10] | 12 => [11] | 13 => [12] | 14 => [13, 12] | 15 => [14, 12] | 16 => [12, 15] | 17 => [16] | 18 => [17] | 19 => [18, 17] | 20 => [17] | 21 => [20, 17] | 22 => [17] | 23 => [21, 22, 17] | 24 => [19, 23, 17] | 25 => [17, 24] | 26 => [25] | 27 => [26] | 28 => [27, 26] | 29 => [28, 26] | 30 => [26, 29] | 31 => [30] | 32 => [31] | 33 => [32, 31] | 34 => [33, 31] | 35 => [34] | 36 => [35, 34] | 37 => [34] | 38 => [36, 37, 34] | 39 => [34, 38, 31] | 40 => [31, 39] | 41 => [40] | _ => []
theorem CostF_local (R lv A B CF CM CX : Int) (g1 n c1 nu nf nz B3 B6 B8 BX du df d : Nat) (qu qf q : Option Addr) : Local CostFDep (CostF R lv A B CF CM CX g1 n c1 nu nf nz B3 B6 B8 BX du df d qu qf q) := by
  intro val val' G G' j hk h
  match j with
  | 0 => exact (hk 0 (.inl rfl)).1.trans h
  | 1 => exact (hk 1 (.inl rfl)).1.trans h
  | 2 => exact (hk 2 (.inl rfl)).1.trans h
  | 3 => exact (hk 3 (.inl rfl)).1.trans h
  | 4 => exact (hk 4 (.inl rfl)).1.trans h
  | 5 => exact (hk 5 (.inl rfl)).1.trans h
  | 6 => exact (hk 6 (.inl rfl)).1.trans h
  | 7 => exact (hk 7 (.inl rfl)).1.trans h
  | 8 => exact (hk 8 (.inl rfl)).1.trans h
  | 9 => exact (hk 9 (.inl rfl)).1.trans h
  | 10 => exact (hk 10 (.inl rfl)).1.trans h
  | 11 => exact (hk 11 (.inl rfl)).1.trans h
  | 12 => exact (hk 12 (.inl rfl)).1.trans h
  | 13 => exact (hk 13 (.inl rfl)).1.trans h
  | 14 => exact (hk 14 (.inl rfl)).1.trans h
  | 15 => exact (hk 15 (.inl rfl)).1.trans h
  | 16 => exact (hk 16 (.inl rfl)).1.trans h
  | 17 => exact (hk 17 (.inl rfl)).1.trans h
  | 18 => exact (hk 18 (.inl rfl)).1.trans h
  | 19 => exact (hk 19 (.inl rfl)).1.trans h
  | 20 => exact (hk 20 (.inl rfl)).1.trans h
  | 21 => exact (hk 21 (.inl rfl)).1.trans h
  | 22 => exact (hk 22 (.inl rfl)).1.trans h
  | 23 => exact (hk 23 (.inl rfl)).1.trans h
  | 24 => exact (hk 24 (.inl rfl)).1.trans h
  | 25 => exact (hk 25 (.inl rfl)).1.trans h
  | 26 => exact (hk 26 (.inl rfl)).1.trans h
  | 27 => exact (hk 27 (.inl rfl)).1.trans h
  | 28 => exact (hk 28 (.inl rfl)).1.trans h
  | 29 => exact (hk 29 (.inl rfl)).1.trans h
  | 30 => exact (hk 30 (.inl rfl)).1.trans h
  | 31 => exact (hk 31 (.inl rfl)).1.trans h
  | 32 => exact (hk 32 (.inl rfl)).1.trans h
  | 33 => exact (hk 33 (.inl rfl)).1.trans h
  | 34 => exact (hk 34 (.inl rfl)).1.trans h
  | 35 => exact (hk 35 (.inl rfl)).1.trans h
  | 36 => exact (hk 36 (.inl rfl)).1.trans h
  | 37 => exact (hk 37 (.inl rfl)).1.trans h
  | 38 => exact (hk 38 (.inl rfl)).1.trans h
  | 39 => exact (hk 39 (.inl rfl)).1.trans h
  | 40 => exact (hk 40 (.inl rfl)).1.trans h
  | 41 => exact (hk 41 (.inl rfl)).1.trans h
  | _ + 42 => trivial
end Go.Proofs.Ytaccigmkddomaaa.State
namespace Go.Proofs.Ytaccigmkddomaaa.Draws
open Go Go.ChangeShapes Go.WideShapes Go.ChangeAt Go.RowKit Go.Proofs.Ytaccigmkddomaaa.Law
section
variable {P : Program} {ops : Array Oper} {Q : Exit → Act → World → Prop} {a : Act} {w : World}
/-- An operation whose guard is not met leaves nothing. -/
theorem wpOp_notC {i : Nat} {o : Oper} {K : Act → World → Prop} (hi : ops[i]? = some o) (hw : Region.wanted o (yielded ops a.tmps) = false) (h : K (a.put o.dst undef) w) : wpOp P ops Q i K a w := by
  unfold wpOp
  rw [hi]
  simp only [hw]
  exact h
theorem want_offC {o : Oper} {b c : Bool} (j d : Nat) (hg : o.guard = some (j, b)) (hs : slotOf ops j = some d) (ha : At a d (.bool c)) (hne : c ≠ b) : Region.wanted o (yielded ops a.tmps) = false := by
  have hy : yielded ops a.tmps j = some c := by
    unfold yielded
    rw [show (ops[j]?).bind (fun x => x.dst) = some d from hs, Option.bind_some, show a.tmps[d]? = some (.bool c) from ha]
  cases b <;> cases c <;> simp_all [Region.wanted]
end
end Go.Proofs.Ytaccigmkddomaaa.Draws
