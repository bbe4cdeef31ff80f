/- Meshes: slices.Replace of one cell by two, at a row of cells that the call owns, as a contract: the three roads of its text. Meshes: slices.Replace of one cell by two, at a row of cells that the call owns: the third road, in place; and the three roads in one. Meshes: the program's child of a cell and splitLeaf, as contracts: what each answers; nothing that was there is written (splitLeaf: but the row that it is given). Meshes: the program's Balance, as a contract: the balanced mesh, in memory of its own; nothing that was there is written. Meshes: the reference model's l05Split, as a contract: the mesh with one leaf replaced by its children, in memory of its own; nothing that was there is written. Meshes: the reference model's Balance, as a contract: the balanced mesh, in memory of its own; nothing that was there is written. Meshes: every place of a valid mesh lies in exactly one leaf. Plain lemmas. Cells and meshes: Contains of the reference model, as a contract; what lies in what, as a plain order; each leaf of the balanced mesh lies in a leaf of the mesh, in order. Meshes: DeepestLevel of the reference model, as a contract: what it answers; nothing that was there is written. Meshes: the reference model's SameMesh at two meshes that are one, as a contract. Meshes: the faces of all levels together are all faces: plain lemmas. Meshes: what the law of Balance holds: two meshes in their boxes, their leaves as they read. (written by wip/tools/merge.py)
   Conditions: as each says. -/
import Derived.Test.YtaccigmkddomaaaPkCopy
import Derived.Deep.CutRange
import Derived.Deep.DeepCutAuto
import Derived.Maps.AppendAt
import Derived.Test.YtaccigmkddomaaaMFaceI
import Derived.Deep.RegionWith
import Derived.Deep.LoopGhost
import Derived.WalkMore
import Derived.Test.YtaccigmkddomaaaMRoot
import Derived.Test.YtaccigmkddomaaaPkMesh
import Derived.Test.YtaccigmkddomaaaMFaceS
import Derived.Test.YtaccigmkddomaaaMOkS
import Derived.Deep.RegionHeld3
import Derived.Test.YtaccigmkddomaaaMDraw
set_option maxRecDepth 100000
namespace Go.Proofs.Ytaccigmkddomaaa.Mesh
open Go.ChangeShapes Go.WideShapes Go.ChangeAt Go.RowKit Go.Proofs.Ytaccigmkddomaaa.Cell

theorem own_parts {w : World} {base g n cap : Nat} {xs : List C3} (h : w.ownsRow base 35 3 (.slice (some ⟨g, 0, none⟩) n cap) n (flatC xs)) :
    base ≤ g ∧ n ≤ cap ∧ cap ≤ maxLen ∧ xs.length = n ∧ ∃ cur : List Value, w.heap[g]? = some (.cells cur.toArray 35 (0, 0)) ∧ cur.length = cap * 3 ∧ cur.take (n * 3) = flatC xs := by
  have hl := h.1
  rw [flatC_len] at hl
  rcases h.2 with ⟨h', -⟩ | ⟨g', cap', cur, h', hb, hg, hnc, hcm, hcs, htake⟩
  · cases h'
  · cases h'
    exact ⟨hb, hnc, hcm, by omega, cur.toList, by simpa using hg, by simpa using hcs, htake⟩
theorem own_make {w : World} {base g n cap : Nat} {xs : List C3} {cur : List Value} (hb : base ≤ g) (hnc : n ≤ cap) (hcm : cap ≤ maxLen) (hl : xs.length = n) (hg : w.heap[g]? = some (.cells cur.toArray 35 (0, 0))) (hcs : cur.length = cap * 3) (htake : cur.take (n * 3) = flatC xs) :
    w.ownsRow base 35 3 (.slice (some ⟨g, 0, none⟩) n cap) n (flatC xs) :=
  ⟨by rw [flatC_len, hl], .inr ⟨g, cap, cur.toArray, rfl, hb, hg, hnc, hcm, by simpa using hcs, by simpa using htake⟩⟩
/-- What slices.Replace leaves: a row of the call's own that reads zs; nothing but the row g was written. -/
def ReplPost (base g : Nat) (w : World) (zs : List C3) (m : Nat) (e : Ending) (w' : World) : Prop :=
  ∃ g' cap', e = .returned (.slice (some ⟨g', 0, none⟩) m cap') ∧ w'.ownsRow base 35 3 (.slice (some ⟨g', 0, none⟩) m cap') m (flatC zs) ∧ w.grownBy w' (some g) ∧ (g' = g ∨ w.heap.size ≤ g')

theorem grown_new {a b c : World} {N : Nat} (h : a.grownBy b none) (k : b.grownBy c (some N)) (hN : a.heap.size ≤ N) : a.grownBy c none :=
  ⟨k.os.trans h.os, k.tape.trans h.tape, k.output.trans h.output, Nat.le_trans h.size k.size, fun i hi hne => (k.block i (Nat.lt_of_lt_of_le hi h.size) (by simp; omega)).trans (h.block i hi hne)⟩
theorem grown_any {a b : World} {r : Option Nat} (h : a.grownBy b none) : a.grownBy b r := ⟨h.os, h.tape, h.output, h.size, fun i hi _ => h.block i hi (by simp)⟩
theorem grown_one {a b c : World} {N : Nat} (h : a.grownBy b (some N)) (k : b.grownBy c (some N)) : a.grownBy c (some N) :=
  ⟨k.os.trans h.os, k.tape.trans h.tape, k.output.trans h.output, Nat.le_trans h.size k.size, fun i hi hne => (k.block i (Nat.lt_of_lt_of_le hi h.size) hne).trans (h.block i hi hne)⟩
theorem row_src {w : World} {g n : Nat} {cur : List Value} {xs : List C3} (hg : w.heap[g]? = some (.cells cur.toArray 35 (0, 0))) (htake : cur.take (n * 3) = flatC xs) (k : Nat) :
    ∀ j v, (flatC (xs.drop k))[j]? = some v → w.cell? ⟨g, k * 3 + j, none⟩ = some v := by
  intro j v hj
  rw [← flatC_drop, List.getElem?_drop, ← htake, List.getElem?_take] at hj
  split at hj
  · rw [cell_of_row w g _ cur.toArray _ (0, 0) hg]
    simpa using hj
  · cases hj
theorem row_front_back {row : List Value} {xs : List C3} {p q : C3} {i n : Nat} (hi : i + 1 ≤ n) (hl : xs.length = n) (hrow : (n + 1) * 3 ≤ row.length) (hT : row.take (i * 3) = flatC (xs.take i)) :
    (splice (splice row (i * 3) (flatC [p, q])) ((i + 2) * 3) (flatC (xs.drop (i + 1)))).take ((n + 1) * 3) = flatC (xs.take i ++ [p, q] ++ xs.drop (i + 1)) := by
  have hV : (flatC [p, q]).length = 6 := rfl
  have hTl : (flatC (xs.drop (i + 1))).length = (n - (i + 1)) * 3 := by rw [flatC_len, List.length_drop, hl]
  have h := splice_front_back row (flatC [p, q]) (flatC (xs.drop (i + 1))) (i * 3) (by omega)
  rw [hV, hTl, show i * 3 + 6 = (i + 2) * 3 by omega, show (i + 2) * 3 + (n - (i + 1)) * 3 = (n + 1) * 3 by omega] at h
  rw [h, hT, ← flatC_append, ← flatC_append]
theorem row_back_front {row : List Value} {xs : List C3} {p q : C3} {i n : Nat} (hi : i + 1 ≤ n) (hl : xs.length = n) (hrow : (n + 1) * 3 ≤ row.length) (hT : row.take (i * 3) = flatC (xs.take i)) :
    (splice (splice row ((i + 2) * 3) (flatC (xs.drop (i + 1)))) (i * 3) (flatC [p, q])).take ((n + 1) * 3) = flatC (xs.take i ++ [p, q] ++ xs.drop (i + 1)) := by
  have hV : (flatC [p, q]).length = 6 := rfl
  have hTl : (flatC (xs.drop (i + 1))).length = (n - (i + 1)) * 3 := by rw [flatC_len, List.length_drop, hl]
  have h := splice_back_front row (flatC [p, q]) (flatC (xs.drop (i + 1))) (i * 3) (by omega)
  rw [hV, hTl, show i * 3 + 6 = (i + 2) * 3 by omega, show (i + 2) * 3 + (n - (i + 1)) * 3 = (n + 1) * 3 by omega] at h
  rw [h, hT, ← flatC_append, ← flatC_append]

end Go.Proofs.Ytaccigmkddomaaa.Mesh

namespace Go.Proofs.Ytaccigmkddomaaa.Mesh
open Go.ChangeShapes Go.WideShapes Go.ChangeAt Go.RowKit Go.Proofs.Ytaccigmkddomaaa.Cell

theorem sizeId (w : World) : (Go.sizeOf 35).run Try.prog w = .ok 3 w := by
  obtain ⟨i0, hi0, hz0, hz1, hz2⟩ := info_parts infoIdR
  simp [sizeOf, typeInfo, hi0, hz1]
end Go.Proofs.Ytaccigmkddomaaa.Mesh

namespace Go.Proofs.Ytaccigmkddomaaa.Mesh
open Go.ChangeShapes Go.WideShapes Go.ChangeAt Go.RowKit Go.Proofs.Ytaccigmkddomaaa.Cell

theorem pair_new (w : World) (p q : C3) : (w.alloc (.cells #[.int .i64 p.1, .int .i64 p.2.1, .int .i64 p.2.2, .int .i64 q.1, .int .i64 q.2.1, .int .i64 q.2.2] 35)).heap[w.heap.size]? = some (.cells (flatC [p, q]).toArray 35 (0, 0)) := heap_alloc_new w _

end Go.Proofs.Ytaccigmkddomaaa.Mesh

namespace Go.Proofs.Ytaccigmkddomaaa.Mesh
open Go.ChangeShapes Go.WideShapes Go.ChangeAt Go.RowKit Go.Proofs.Ytaccigmkddomaaa.Cell

theorem bal_more {R : Int} {ys : List C3} {f : Nat} (h : meshOk R ys = true) (hf : 128 ≤ f + ys.length) (hg : ¬ firstGap ys < 0) :
    ∃ f', f = f' + 1 ∧ meshOk R (balStep ys) = true ∧ (balStep ys).length = ys.length + 1 ∧ bal f ys = bal f' (balStep ys) := by
  obtain ⟨h1, h2⟩ := step_ok h hg
  obtain ⟨-, -, h3⟩ := mesh_parts h1
  obtain ⟨f', rfl⟩ : ∃ f', f = f' + 1 := ⟨f - 1, by omega⟩
  exact ⟨f', rfl, h1, h2, bal_next hg f'⟩

/-- A mesh that is being balanced: the argument's box, the answer's box, the mesh's own box, its row. -/
structure BSt (w wx : World) (B : Nat) (R : Int) (u : Value) (ys : List C3) (v : Value) : Prop where
  m : MBox wx w.heap.size R u
  r : MBox wx (w.heap.size + 1) 0 (.slice none 0 0)
  b : MBox wx B R v
  row : wx.ownsRow w.heap.size 35 3 v ys.length (flatC ys)
  gr : w.grownBy wx none
  lt : w.heap.size + 1 < B

theorem BSt.on {w wx wy : World} {B : Nat} {R : Int} {u v : Value} {ys : List C3} (h : BSt w wx B R u ys v) (hg : wx.grownBy wy none) : BSt w wy B R u ys v :=
  ⟨h.m.kept hg (by simp), h.r.kept hg (by simp), h.b.kept hg (by simp), h.row.kept hg (by cases v.ownBlock <;> simp), grown_trans h.gr hg, h.lt⟩
/-- A leaf is split, the row stored. -/
theorem BSt.split {w wx w3 : World} {B g n cap : Nat} {R : Int} {u v' : Value} {ys zs : List C3} (h : BSt w wx B R u ys (.slice (some ⟨g, 0, none⟩) n cap)) (hg : wx.grownBy w3 (some g))
    (ho : w3.ownsRow w.heap.size 35 3 v' zs.length (flatC zs)) : BSt w (w3.setCell ⟨B, 1, none⟩ v') B R u zs v' := by
  have hm := h.m.kept hg (h.m.not_row h.row)
  have hr := h.r.kept hg (h.r.not_row h.row)
  have hb := h.b.kept hg (h.b.not_row h.row)
  have hl := h.lt
  have hs := grownBy_setC w3 B 1 v'
  exact ⟨hm.kept hs (by simp; omega), hr.kept hs (by simp; omega), MBox.set1 hb v', ho.kept hs (.inr (MBox.not_row hb ho).symm), g_set (grown_above hg (h.row.lt g rfl).1 h.gr) _ _ _ (by omega), hl⟩
theorem bst_of {w W0 wf : World} {B : Nat} {R : Int} {u v : Value} {xs : List C3} (hsz : w.heap.size + 2 ≤ B) (hg : w.grownBy W0 none) (hx : MBox W0 w.heap.size R u) (hm : MBox W0 (w.heap.size + 1) 0 (.slice none 0 0))
    (hG : W0.grownBy wf none) (hb : MBox wf B R v) (ho : wf.ownsRow w.heap.size 35 3 v xs.length (flatC xs)) : BSt w wf B R u xs v :=
  ⟨hx.kept hG (by simp), hm.kept hG (by simp), hb, ho, grown_trans hg hG, by omega⟩
theorem bst_A {w W0 w1 : World} {R : Int} {u v : Value} {xs : List C3} (hsz : w.heap.size + 2 = W0.heap.size) (hg : w.grownBy W0 none) (hx : MBox W0 w.heap.size R u) (hm : MBox W0 (w.heap.size + 1) 0 (.slice none 0 0))
    (hG : W0.grownBy w1 none) (hq : MBox w1 W0.heap.size 0 (.slice none 0 0)) (ho : w1.ownsRow w.heap.size 35 3 v xs.length (flatC xs)) :
    BSt w ((w1.setCell ⟨W0.heap.size, 0, none⟩ (.int .i64 R)).setCell ⟨W0.heap.size, 1, none⟩ v) W0.heap.size R u xs v := by
  obtain ⟨h1, h2, h3⟩ := out_set (w := W0) (R := R) (Nat.le_refl _) hq ho hG
  exact bst_of (by omega) hg hx hm h3 h1 h2
theorem bst_B {w W0 w1 : World} {R : Int} {u v : Value} {xs : List C3} (hsz : w.heap.size + 2 = W0.heap.size) (hg : w.grownBy W0 none) (hx : MBox W0 w.heap.size R u) (hm : MBox W0 (w.heap.size + 1) 0 (.slice none 0 0))
    (hG : W0.grownBy w1 none) (ho : w1.ownsRow w.heap.size 35 3 v xs.length (flatC xs)) :
    BSt w (w1.alloc (.cells #[.int .i64 R, v] 26)) w1.heap.size R u xs v :=
  bst_of (by have := hG.size; omega) hg hx hm (g_alloc hG _) (MBox.new w1 R v) (ho.alloc _)

theorem own_low {w : World} {base base' n : Nat} {v : Value} {xs : List Value} (h : w.ownsRow base 35 3 v n xs) (hb : base' ≤ base) : w.ownsRow base' 35 3 v n xs := by
  refine ⟨h.1, ?_⟩
  rcases h.2 with ⟨h1, h2⟩ | ⟨g, cap, cur, h1, h2, h3⟩
  · exact .inl ⟨h1, h2⟩
  · exact .inr ⟨g, cap, cur, h1, Nat.le_trans hb h2, h3⟩

end Go.Proofs.Ytaccigmkddomaaa.Mesh

namespace Go.Proofs.Ytaccigmkddomaaa.Mesh
open Go.ChangeShapes Go.WideShapes Go.ChangeAt Go.RowKit Go.Proofs.Ytaccigmkddomaaa.Cell

theorem specKid_is (r l i s : Int) (y : C3) (h : okId r l i = true) (hl : l ≠ 4) (hs : s = 0 ∨ s = 1) (hy : kidOf (r, l, i) s = y) (w : World) :
    Calls Try.prog 70 #[.agg #[.int .i64 r, .int .i64 l, .int .i64 i], .int .i64 s] w fun e w' =>
      e = .returned (.tuple #[.agg #[.int .i64 y.1, .int .i64 y.2.1, .int .i64 y.2.2], .bool true]) ∧ w.grownBy w' none := by
  subst hy
  exact specChild_yes r l i s h hl hs w
theorem grown_row {a b c : World} {n : Nat} {v : Value} {xs : List Value} (h : a.grownBy b none) (k : b.grownBy c v.ownBlock) (ho : b.ownsRow a.heap.size 35 3 v n xs) : a.grownBy c none :=
  ⟨k.os.trans h.os, k.tape.trans h.tape, k.output.trans h.output, Nat.le_trans h.size k.size, fun i hi _ => (k.block i (Nat.lt_of_lt_of_le hi h.size) (fun e => by have := (ho.lt i e.symm).1; omega)).trans (h.block i hi (by simp))⟩
theorem reads_take {w : World} {g n : Nat} {xs : List C3} (h : Reads w (some ⟨g, 0, none⟩) n xs) (k : Nat) : ∀ j u, (flatC (xs.take k))[j]? = some u → w.cell? ((⟨g, 0, none⟩ : Addr).add j) = some u := by
  intro j u hj
  rw [← flatC_take, List.getElem?_take] at hj
  split at hj
  · exact reads_news h j u hj
  · cases hj
theorem reads_drop {w : World} {g n : Nat} {xs : List C3} (h : Reads w (some ⟨g, 0, none⟩) n xs) (k : Nat) : ∀ j u, (flatC (xs.drop k))[j]? = some u → w.cell? ((⟨g, k * 3, none⟩ : Addr).add j) = some u := by
  intro j u hj
  rw [← flatC_drop, List.getElem?_drop] at hj
  have := reads_news h _ _ hj
  rw [Addr.add_lit, Nat.zero_add] at this
  rw [Addr.add_lit]
  exact this
theorem IBox.kept {W W' : World} {B : Nat} {x : C3} {row : Option Nat} (h : IBox W B x) (hg : W.grownBy W' row) (hne : some B ≠ row) : IBox W' B x := (hg.block B (IBox.lt h) hne).trans h
theorem pair_new2 (w : World) (p q : C3) : (w.alloc (.cells #[.int .i64 p.1, .int .i64 p.2.1, .int .i64 p.2.2, .int .i64 q.1, .int .i64 q.2.1, .int .i64 q.2.2] 35)).heap[w.heap.size]? = some (.cells (flatC [p, q]).toArray 35 (0, 0)) := heap_alloc_new w _

set_option maxHeartbeats 4000000 in
theorem specSplit_is (R : Int) (g n cap k : Nat) (xs : List C3) (x : C3) (w : World) (hr : Reads w (some ⟨g, 0, none⟩) n xs) (hn : n ≤ 1000) (hcap : n ≤ cap) (hx : xs[k]? = some x) (ho : okOf x = true) (hl4 : x.2.1 < 4) :
    Calls Try.prog 48 #[.agg #[.int .i64 R, .slice (some ⟨g, 0, none⟩) n cap], .int .i64 k] w fun e w' => ∃ v, e = .returned (.agg #[.int .i64 R, v]) ∧ w'.ownsRow w.heap.size 35 3 v (n + 1) (flatC (split2 xs k)) ∧ w.grownBy w' none := by
  obtain ⟨i0, hi0, hz0, hz1, hz2⟩ := info_parts infoIdR
  obtain ⟨r, l, i⟩ := x
  have HS := Lib.hid (split2_of hx)
  obtain ⟨p0, hp0⟩ : ∃ p, kidOf (r, l, i) 0 = p := ⟨_, rfl⟩
  obtain ⟨p1, hp1⟩ : ∃ p, kidOf (r, l, i) 1 = p := ⟨_, rfl⟩
  rw [hp0, hp1] at HS
  have HP0 := Lib.hid (fun u => specKid_is r l i 0 p0 ho (by dsimp only at hl4; omega) (.inl rfl) hp0 u)
  have HP1 := Lib.hid (fun u => specKid_is r l i 1 p1 ho (by dsimp only at hl4; omega) (.inr rfl) hp1 u)
  have hk : k < n := by have := (List.getElem?_eq_some_iff.1 hx).1; have := hr.len; omega
  have hki : (k : Int) < n := by omega
  have hni : (n : Int) ≤ 1000 := by omega
  have hnc : (n : Int) ≤ cap := by omega
  have HX := Lib.hid hx
  have HR := Lib.hid hr
  have HLN := Lib.hid hr.len
  clear hx ho hl4 hp0 hp1 hr
  go_enter Try.func48, Try.ntmps48
  go_upto_region 1 with fail
  have HG0 := Lib.hid (show w.grownBy ((w.alloc (.cells #[.int .i64 R, .slice (some ⟨g, 0, none⟩) n cap] 26)).alloc (.cells #[.int .i64 0, .slice none 0 0] 26)) none from g_alloc (g_alloc (grown_refl _) _) _)
  have HX0 := Lib.hid ((MBox.new w R (.slice (some ⟨g, 0, none⟩) n cap)).alloc (.cells #[.int .i64 0, .slice none 0 0] 26))
  have hm := MBox.new (w.alloc (.cells #[.int .i64 R, .slice (some ⟨g, 0, none⟩) n cap] 26)) 0 (.slice none 0 0)
  rw [World.size_alloc] at hm
  have HM0 := Lib.hid hm
  clear hm
  have hsz : w.heap.size + 2 = ((w.alloc (.cells #[.int .i64 R, .slice (some ⟨g, 0, none⟩) n cap] 26)).alloc (.cells #[.int .i64 0, .slice none 0 0] 26)).heap.size := by simp
  have HR0 := Lib.hid (HR.out.on HG0.out)
  generalize (w.alloc (.cells #[.int .i64 R, .slice (some ⟨g, 0, none⟩) n cap] 26)).alloc (.cells #[.int .i64 0, .slice none 0 0] 26) = W0 at *
  have b1 := MBox.c1 HX0.out
  obtain ⟨g_, hg_, -, d0, d1, d2⟩ := HR0.out.at_ k _ HX.out
  cases hg_
  dsimp only at d0 d1 d2
  go_upto_region 2 with (go_at_call 70; ((with_reducible refine (HP0.out _).mono ?_); rintro e w1 ⟨rfl, hg⟩; have HW1 := Lib.hid hg; clear hg))
  have HG1 := Lib.hid (show W0.grownBy (w1.alloc (.cells #[.int .i64 p0.1, .int .i64 p0.2.1, .int .i64 p0.2.2] 35)) none from g_alloc HW1.out _)
  have HA1 := Lib.hid (IBox.new w1 p0)
  have hs1 : W0.heap.size ≤ w1.heap.size := HW1.out.size
  clear b1 d0 d1 d2
  generalize w1.alloc (.cells #[.int .i64 p0.1, .int .i64 p0.2.1, .int .i64 p0.2.2] 35) = W1 at *
  have b1 := MBox.c1 (HX0.out.kept HG1.out (by simp))
  obtain ⟨g_, hg_, -, d0, d1, d2⟩ := (HR0.out.on HG1.out).at_ k _ HX.out
  cases hg_
  dsimp only at d0 d1 d2
  go_upto_region 3 with (go_at_call 70; ((with_reducible refine (HP1.out _).mono ?_); rintro e w2 ⟨rfl, hg⟩; have HW2 := Lib.hid hg; clear hg))
  have HG2 := Lib.hid (show W0.grownBy (w2.alloc (.cells #[.int .i64 p1.1, .int .i64 p1.2.1, .int .i64 p1.2.2] 35)) none from g_alloc (grown_trans HG1.out HW2.out) _)
  have HA2 := Lib.hid ((IBox.kept HA1.out HW2.out (by simp)).kept (World.grownBy_alloc w2 (.cells #[.int .i64 p1.1, .int .i64 p1.2.1, .int .i64 p1.2.2] 35) none) (by simp))
  have HB2 := Lib.hid (IBox.new w2 p1)
  have hs2 : W0.heap.size ≤ w2.heap.size := (grown_trans HG1.out HW2.out).size
  clear b1 d0 d1 d2
  generalize w2.alloc (.cells #[.int .i64 p1.1, .int .i64 p1.2.1, .int .i64 p1.2.2] 35) = W2 at *
  have HG3 := Lib.hid (g_alloc HG2.out (.cells #[] 35))
  have b1 := MBox.c1 (HX0.out.kept HG3.out (by simp))
  have hs3 : W0.heap.size ≤ W2.heap.size := HG2.out.size
  have HE := Lib.hid (own_empty W2 w.heap.size (by omega))
  have HNA := Lib.hid (reads_take (HR0.out.on HG3.out) k)
  have HLA := Lib.hid (show (flatC (xs.take k)).length = k * 3 by rw [flatC_len, List.length_take, HLN.out]; omega)
  go_upto_region 4 with (at_builtin; refine wpList_append_own _ rfl _ _ 24 rfl w.heap.size 35 i0 (.agg #[.int .i64 0, .int .i64 0, .int .i64 0]) 3 24 Try.underlying24 hi0 hz0 hz1 hz2 rfl (by decide) _ _ _ rfl HE.out ⟨g, 0, none⟩ k cap (flatC (xs.take k)) rfl HLA.out HNA.out (flatC_one _) (by unfold maxLen; omega) (by omega) (by simp; omega) ?_; intro v' w3 hown' hgrow hnil; clear hnil; have HO3 := Lib.hid hown'; have HGR3 := Lib.hid (show World.grownBy _ w3 (some W2.heap.size) from hgrow); clear hown' hgrow)
  rw [Nat.zero_add, List.nil_append] at HO3
  obtain ⟨a3, cap3, rfl⟩ := own_shape HO3.out
  have HA3 := Lib.hid ((IBox.kept HA2.out (World.grownBy_alloc W2 (.cells #[] 35) none) (by simp)).kept HGR3.out (by have := IBox.lt HA2.out; simp; omega))
  have HB3 := Lib.hid ((IBox.kept HB2.out (World.grownBy_alloc W2 (.cells #[] 35) none) (by simp)).kept HGR3.out (by have := IBox.lt HB2.out; simp; omega))
  have HGA := Lib.hid (g_alloc (grown_above HGR3.out (show W0.heap.size ≤ W2.heap.size from hs3) HG3.out) (.cells #[.int .i64 p0.1, .int .i64 p0.2.1, .int .i64 p0.2.2, .int .i64 p1.1, .int .i64 p1.2.1, .int .i64 p1.2.2] 35))
  have HOA := Lib.hid (HO3.out.alloc (.cells #[.int .i64 p0.1, .int .i64 p0.2.1, .int .i64 p0.2.2, .int .i64 p1.1, .int .i64 p1.2.1, .int .i64 p1.2.2] 35))
  have HPN := Lib.hid (World.news_of_block (cs := (flatC [p0, p1]).toArray) (t := 35) (fr := (0, 0)) (pair_new2 w3 p0 p1))
  have hs4 : w.heap.size ≤ (w3.alloc (.cells #[.int .i64 p0.1, .int .i64 p0.2.1, .int .i64 p0.2.2, .int .i64 p1.1, .int .i64 p1.2.1, .int .i64 p1.2.2] 35)).heap.size := by have := HGA.out.size; omega
  have c0 := IBox.c0 HA3.out
  have c1 := IBox.c1 HA3.out
  have c2 := IBox.c2 HA3.out
  have e0 := IBox.c0 HB3.out
  have e1 := IBox.c1 HB3.out
  have e2 := IBox.c2 HB3.out
  clear b1
  go_upto_region 5 with (at_builtin; refine wpList_append_own _ rfl _ _ 24 rfl w.heap.size 35 i0 (.agg #[.int .i64 0, .int .i64 0, .int .i64 0]) 3 24 Try.underlying24 hi0 hz0 hz1 hz2 rfl (by decide) _ _ _ rfl HOA.out ⟨w3.heap.size, 0, none⟩ 2 2 (flatC [p0, p1]) rfl rfl HPN.out (flatC_one _) (by unfold maxLen; omega) (by omega) hs4 ?_; intro v' w4 hown' hgrow hnil; clear hnil; have HO4 := Lib.hid hown'; have HGR4 := Lib.hid (show World.grownBy _ w4 (Value.ownBlock (.slice a3 k cap3)) from hgrow); clear hown' hgrow)
  obtain ⟨a4, cap4, rfl⟩ := own_shape HO4.out
  have hx4 : MBox w4 w.heap.size R (.slice (some ⟨g, 0, none⟩) n cap) := ((HX0.out.kept HGA.out (by simp)).kept HGR4.out (MBox.not_row (HX0.out.kept HGA.out (by simp)) HOA.out))
  have HX4 := Lib.hid (show MBox w4.drew w.heap.size R (.slice (some ⟨g, 0, none⟩) n cap) from hx4)
  have hm4 : MBox w4 (w.heap.size + 1) 0 (.slice none 0 0) := ((HM0.out.kept HGA.out (by simp)).kept HGR4.out (MBox.not_row (HM0.out.kept HGA.out (by simp)) HOA.out))
  have HM4 := Lib.hid (show MBox w4.drew (w.heap.size + 1) 0 (.slice none 0 0) from hm4)
  clear hx4 hm4
  have HG4 := Lib.hid (show w.grownBy w4.drew none from gr_drew (grown_row (grown_trans HG0.out HGA.out) HGR4.out HOA.out))
  have HO5 := Lib.hid (show w4.drew.ownsRow w.heap.size 35 3 (.slice a4 (k + 2) cap4) (k + 2) _ from HO4.out)
  have HLD := Lib.hid (show (flatC (xs.drop (k + 1))).length = (n - (k + 1)) * 3 by rw [flatC_len, List.length_drop, HLN.out])
  have z0 := MBox.c0 HX4.out
  have z1 := MBox.c1 HX4.out
  have f1 : IntKind.i64.wrap ((k : Int) + 1) = (k : Int) + 1 := IntWalk.i64_in _ (by omega)
  have f2 : (0 : Int) ≤ (k : Int) + 1 := by omega
  have f3 : (k : Int) + 1 ≤ (n : Int) := by omega
  have f4 : ((k : Int) + 1).toNat = k + 1 := by omega
  clear HA1 HA2 HA3 HB2 HB3 HGR3 HG1 HG2 HG3 HW1 HW2 HE HNA HLA c0 c1 c2 e0 e1 e2 hs1 hs2 hs3 HP0 HP1 HPN
  by_cases hc : cap = k + 1
  · have HND := Lib.hid (show ∀ j u, (flatC (xs.drop (k + 1)))[j]? = some u → w4.drew.cell? ((⟨g, 0, none⟩ : Addr).add j) = some u from fun j u hj => by
      have h0 : flatC (xs.drop (k + 1)) = [] := by rw [List.drop_of_length_le (by rw [HLN.out]; omega)]; rfl
      rw [h0] at hj
      simp at hj)
    go_region_law ((refine step_append_any rfl _ _ rfl w.heap.size (.slice a4 (k + 2) cap4) (k + 2) _ (by first | (simp [Act.eval]; done) | simp [Act.eval, Act.put]) HO5.out ⟨g, 0, none⟩ (n - (k + 1)) 0 (flatC (xs.drop (k + 1))) (by first | (simp [Act.eval]; done) | simp [Act.eval, Act.put]) HLD.out HND.out (flatC_one _) (by omega) (by have := HG4.out.size; exact this) ?_; intro v' w5 hown' hgrow; obtain ⟨a5, cap5, rfl⟩ := own_shape hown'; have hm5 := HM4.out.kept hgrow (MBox.not_row HM4.out HO5.out); have hx5 := HX4.out.kept hgrow (MBox.not_row HX4.out HO5.out); have r0 := MBox.c0 hm5; have r1 := MBox.c1 hm5; have t0 := MBox.f0 hm5; have t1 := MBox.f1 hm5; have y0 := MBox.c0 hx5; have HM5 := Lib.hid hm5; have HOW := Lib.hid hown'; have HGR := Lib.hid (show World.grownBy _ w5 (Value.ownBlock (.slice a4 (k + 2) cap4)) from hgrow); clear hown' hgrow hm5 hx5))
    all_goals
      go_wp2_with fail
      have ho := HOW.out
      have hz : flatC (xs.take k) ++ flatC [p0, p1] ++ flatC (xs.drop (k + 1)) = flatC (split2 xs k) := by rw [HS.out, ← flatC_append, ← flatC_append]
      rw [hz] at ho
      obtain ⟨hm, ho, hg⟩ := out_set (w := w) (R := R) (by omega) HM5.out ho (grown_row HG4.out HGR.out HO5.out)
      exact bodyPost_ret_by (results_cell_row (fn := Try.f48) rfl _ _ (w.heap.size + 1) _ _ (0, 0) _ rfl hm Try.underlying26 rfl (by kernel_rfl)) rfl ⟨_, rfl, by rw [show n + 1 = k + 2 + (n - (k + 1)) by omega]; exact ho, hg⟩
  · have HND := Lib.hid (reads_drop (HR.out.on HG4.out) (k + 1))
    go_region_law ((refine step_append_any rfl _ _ rfl w.heap.size (.slice a4 (k + 2) cap4) (k + 2) _ (by first | (simp [Act.eval]; done) | simp [Act.eval, Act.put]) HO5.out ⟨g, (k + 1) * 3, none⟩ (n - (k + 1)) (cap - (k + 1)) (flatC (xs.drop (k + 1))) (by first | (simp [Act.eval]; done) | simp [Act.eval, Act.put]) HLD.out HND.out (flatC_one _) (by omega) (by have := HG4.out.size; exact this) ?_; intro v' w5 hown' hgrow; obtain ⟨a5, cap5, rfl⟩ := own_shape hown'; have hm5 := HM4.out.kept hgrow (MBox.not_row HM4.out HO5.out); have hx5 := HX4.out.kept hgrow (MBox.not_row HX4.out HO5.out); have r0 := MBox.c0 hm5; have r1 := MBox.c1 hm5; have t0 := MBox.f0 hm5; have t1 := MBox.f1 hm5; have y0 := MBox.c0 hx5; have HM5 := Lib.hid hm5; have HOW := Lib.hid hown'; have HGR := Lib.hid (show World.grownBy _ w5 (Value.ownBlock (.slice a4 (k + 2) cap4)) from hgrow); clear hown' hgrow hm5 hx5))
    all_goals
      go_wp2_with fail
      have ho := HOW.out
      have hz : flatC (xs.take k) ++ flatC [p0, p1] ++ flatC (xs.drop (k + 1)) = flatC (split2 xs k) := by rw [HS.out, ← flatC_append, ← flatC_append]
      rw [hz] at ho
      obtain ⟨hm, ho, hg⟩ := out_set (w := w) (R := R) (by omega) HM5.out ho (grown_row HG4.out HGR.out HO5.out)
      exact bodyPost_ret_by (results_cell_row (fn := Try.f48) rfl _ _ (w.heap.size + 1) _ _ (0, 0) _ rfl hm Try.underlying26 rfl (by kernel_rfl)) rfl ⟨_, rfl, by rw [show n + 1 = k + 2 + (n - (k + 1)) by omega]; exact ho, hg⟩
end Go.Proofs.Ytaccigmkddomaaa.Mesh

namespace Go.Proofs.Ytaccigmkddomaaa.Mesh
open Go.ChangeShapes Go.WideShapes Go.ChangeAt Go.RowKit Go.Proofs.Ytaccigmkddomaaa.Cell

theorem own_mono {w : World} {base base' n : Nat} {v : Value} {xs : List Value} (h : w.ownsRow base 35 3 v n xs) (hb : base' ≤ base) : w.ownsRow base' 35 3 v n xs := by
  refine ⟨h.1, ?_⟩
  rcases h.2 with h0 | ⟨g, cap, cur, h1, h2, h3⟩
  · exact .inl h0
  · exact .inr ⟨g, cap, cur, h1, Nat.le_trans hb h2, h3⟩
/-- Another row is stored into the mesh's own box. -/
theorem BSt.store {w wx w3 : World} {B : Nat} {R : Int} {u v v' : Value} {ys zs : List C3} (h : BSt w wx B R u ys v) (hg : wx.grownBy w3 none)
    (ho : w3.ownsRow w.heap.size 35 3 v' zs.length (flatC zs)) : BSt w ((w3.setCell ⟨B, 0, none⟩ (.int .i64 R)).setCell ⟨B, 1, none⟩ v') B R u zs v' := by
  have h3 := h.on hg
  have hl := h.lt
  have hs0 := grownBy_setC w3 B 0 (.int .i64 R)
  have hs1 := grownBy_setC (w3.setCell ⟨B, 0, none⟩ (.int .i64 R)) B 1 v'
  obtain ⟨hb, ho2, hg2⟩ := out_set (w := w) (R := R) (by omega) h3.b ho h3.gr
  exact ⟨(h3.m.kept hs0 (by simp; omega)).kept hs1 (by simp; omega), (h3.r.kept hs0 (by simp; omega)).kept hs1 (by simp; omega), hb, ho2, hg2, hl⟩
theorem BSt.reads {w wx : World} {B m cap : Nat} {R : Int} {u : Value} {a : Option Addr} {ys : List C3} (h : BSt w wx B R u ys (.slice a m cap)) (hm : ys.length = m) : Reads wx a m ys := by
  have hr := h.row
  rw [hm] at hr
  exact own_reads hr
theorem BSt.room {w wx : World} {B g m cap : Nat} {R : Int} {u : Value} {ys : List C3} (h : BSt w wx B R u ys (.slice (some ⟨g, 0, none⟩) m cap)) (hm : ys.length = m) : m ≤ cap := by
  have hr := h.row
  rw [hm] at hr
  exact (own_parts hr).2.1

set_option maxHeartbeats 4000000 in
theorem specBalance_is (R : Int) (g n cap : Nat) (xs : List C3) (w : World) (hr : Reads w (some ⟨g, 0, none⟩) n xs) (hn : n ≤ 1048576) :
    Calls Try.prog 85 #[.agg #[.int .i64 R, .slice (some ⟨g, 0, none⟩) n cap]] w fun e w' => ∃ v, e = .returned (.agg #[.int .i64 R, v]) ∧ w'.ownsRow w.heap.size 35 3 v (balOf R xs).length (flatC (balOf R xs)) ∧ w.grownBy w' none := by
  have HN := Lib.hid hn
  have HR := Lib.hid hr
  clear hr hn
  go_enter Try.func85, Try.ntmps85
  go_upto_region 1 with fail
  have HG0 := Lib.hid (show w.grownBy ((w.alloc (.cells #[.int .i64 R, .slice (some ⟨g, 0, none⟩) n cap] 26)).alloc (.cells #[.int .i64 0, .slice none 0 0] 26)) none from g_alloc (g_alloc (grown_refl _) _) _)
  have HX0 := Lib.hid ((MBox.new w R (.slice (some ⟨g, 0, none⟩) n cap)).alloc (.cells #[.int .i64 0, .slice none 0 0] 26))
  have hm := MBox.new (w.alloc (.cells #[.int .i64 R, .slice (some ⟨g, 0, none⟩) n cap] 26)) 0 (.slice none 0 0)
  rw [World.size_alloc] at hm
  have HM0 := Lib.hid hm
  clear hm
  have hsz : w.heap.size + 2 = ((w.alloc (.cells #[.int .i64 R, .slice (some ⟨g, 0, none⟩) n cap] 26)).alloc (.cells #[.int .i64 0, .slice none 0 0] 26)).heap.size := by simp
  have HR0 := Lib.hid (HR.out.on HG0.out)
  generalize (w.alloc (.cells #[.int .i64 R, .slice (some ⟨g, 0, none⟩) n cap] 26)).alloc (.cells #[.int .i64 0, .slice none 0 0] 26) = W0 at *
  have b0 := MBox.c0 HX0.out
  have b1 := MBox.c1 HX0.out
  go_upto_region 2 with (go_at_call 47; ((with_reducible refine (specCopy_is R g n cap xs _ HR0.out HN.out).mono ?_); rintro e w1 ⟨v, rfl, ho, hg⟩; obtain ⟨a1, cap1, rfl⟩ := own_shape ho; have HB := Lib.hid (bst_B hsz HG0.out HX0.out HM0.out hg (by rw [HR.out.len]; exact own_mono ho (by omega))); clear ho hg))
  obtain ⟨B, hB⟩ : ∃ B, B = w1.heap.size := ⟨_, rfl⟩
  rw [← hB] at HB ⊢
  obtain ⟨v, hv⟩ : ∃ v, v = Value.slice a1 n cap1 := ⟨_, rfl⟩
  rw [← hv] at HB ⊢
  generalize w1.alloc (.cells #[.int .i64 R, v] 26) = W1 at *
  clear HX0 HM0 HG0 HR0 hsz b0 b1 hB
  have hok : ∀ x, Reads x (some ⟨g, 0, none⟩) n xs → Calls Try.prog 57 #[.agg #[.int .i64 R, .slice (some ⟨g, 0, none⟩) n cap]] x fun e w' => e = .returned (.bool (meshOk R xs)) ∧ x.grownBy w' none := fun x h => specMeshOk_is R (some ⟨g, 0, none⟩) n cap xs x h HN.out
  have HOK := Lib.hid hok; clear hok
  have m0 := MBox.c0 HB.out.m
  have m1 := MBox.c1 HB.out.m
  have HRW := Lib.hid (HR.out.on HB.out.gr)
  cases hm : meshOk R xs with
  | false =>
    rw [hm] at HOK
    have hbal : balOf R xs = xs := by simp [balOf, hm]
    have HE := Lib.hid hbal
    clear hm hbal
    subst hv
    go_wp2_with (go_at_call 57; ((with_reducible refine (HOK.out _ HRW.out).mono ?_); rintro e w2 ⟨rfl, hg⟩; have hb := HB.out.on hg; have p0 := MBox.c0 hb.b; have p1 := MBox.c1 hb.b; have r0 := MBox.c0 hb.r; have r1 := MBox.c1 hb.r; have s0 := MBox.f0 hb.r; have s1 := MBox.f1 hb.r; have HB1 := Lib.hid hb; clear hg hb))
    obtain ⟨hm2, ho2, hg2⟩ := out_set (w := w) (R := R) (by omega) HB1.out.r HB1.out.row HB1.out.gr
    exact bodyPost_ret_by (results_cell_row (fn := Try.f85) rfl _ _ (w.heap.size + 1) _ _ (0, 0) _ rfl hm2 Try.underlying26 rfl (by kernel_rfl)) rfl ⟨_, rfl, by rw [HE.out]; exact ho2, hg2⟩
  | true =>
    rw [hm] at HOK
    have hbal : balOf R xs = bal 128 xs := by simp [balOf, hm]
    have HE := Lib.hid hbal
    have HM := Lib.hid hm
    have hfs : ∀ x (ys : List C3) a m cap', Reads x a m ys → meshOk R ys = true → Calls Try.prog 89 #[.agg #[.int .i64 R, .slice a m cap']] x fun e w' => e = .returned (.int .i64 (firstGap ys)) ∧ x.grownBy w' none := fun x ys a m cap' h h2 => specFirst_is R a m cap' ys x h (by have := mesh_parts h2; have := h.len; omega) h2
    have HFS := Lib.hid hfs; clear hfs
    clear hm hbal
    obtain ⟨ho, hl1, hl2⟩ := mesh_parts HM.out
    clear ho
    rcases HB.out.row.2 with ⟨-, h0⟩ | ⟨g1, cap1', cur, hv2, -⟩
    · omega
    subst hv2
    have p0 := MBox.c0 HB.out.b
    have p1 := MBox.c1 HB.out.b
    clear hv
    go_wp2_with (first
      | (go_at_call 57; ((with_reducible refine (HOK.out _ HRW.out).mono ?_); rintro e w2 ⟨rfl, hg⟩; have hb := HB.out.on hg; have p2 := MBox.c0 hb.b; have p3 := MBox.c1 hb.b; have HB1 := Lib.hid hb; clear hg hb))
      | (go_at_call 89; ((with_reducible refine (HFS.out _ xs _ _ _ (own_reads HB1.out.row) HM.out).mono ?_); rintro e w3 ⟨rfl, hg⟩; have HB2 := Lib.hid (HB1.out.on hg); clear hg)))
    go_loopg [4] 128 (fun k i wr => ∃ (q : Int) (ys : List C3) (m g2 cap2 : Nat), i = .int .i64 q ∧ Hid (q = firstGap ys) ∧ Hid (ys.length = m) ∧ Hid (BSt w wr B R (.slice (some ⟨g, 0, none⟩) n cap) ys (.slice (some ⟨g2, 0, none⟩) m cap2)) ∧ Hid (meshOk R ys = true ∧ 128 ≤ k + ys.length ∧ bal k ys = bal 128 xs))
    case atStart => exact ⟨_, xs, _, g1, cap1', rfl, Lib.hid rfl, Lib.hid rfl, HB2, Lib.hid ⟨HM.out, by omega, rfl⟩⟩
    case round =>
      clear HB2 HB1 HB HM HRW m0 m1 p0 p1 p2 p3
      obtain ⟨q, ys, m, g2, cap2, rfl, HI, HLM, HB, HP⟩ := hrel
      have p0 := MBox.c0 HB.out.b
      have p1 := MBox.c1 HB.out.b
      rcases first_cases ys with ⟨e, -⟩ | ⟨j, e, hgp, -⟩
      · obtain rfl : q = -1 := HI.out.trans e
        have hys : bal 128 xs = ys := HP.out.2.2.symm.trans (bal_done (by omega) _)
        have HY := Lib.hid (HE.out.trans hys)
        clear e hys
        have r0 := MBox.c0 HB.out.r
        have r1 := MBox.c1 HB.out.r
        have s0 := MBox.f0 HB.out.r
        have s1 := MBox.f1 HB.out.r
        go_wp2_with fail
        obtain ⟨hm2, ho2, hg2⟩ := out_set (w := w) (R := R) (by omega) HB.out.r HB.out.row HB.out.gr
        exact bodyPost_ret_by (results_cell_row (fn := Try.f85) rfl _ _ (w.heap.size + 1) _ _ (0, 0) _ rfl hm2 Try.underlying26 rfl (by kernel_rfl)) rfl ⟨_, rfl, by rw [HY.out]; exact ho2, hg2⟩
      · obtain rfl : q = j := HI.out.trans e
        obtain ⟨ho, hy1, hy2⟩ := mesh_parts HP.out.1
        obtain ⟨x, y, hx, hy, -⟩ := gapAt_in hgp
        obtain ⟨f', hf', q1, q2, q3⟩ := bal_more HP.out.1 HP.out.2.1 (by omega)
        have hbs : balStep ys = split2 ys (coarser ys j) := by unfold balStep; rw [e, Int.toNat_natCast]
        rw [hbs] at q1 q2 q3
        obtain ⟨xq, hxq, hl3⟩ := coarser_ok hgp ho
        have HX := Lib.hid hx
        have HYY := Lib.hid hy
        have HXQ := Lib.hid hxq
        have HOQ := Lib.hid (ho _ _ hxq)
        have HQ := Lib.hid (show meshOk R (split2 ys (coarser ys j)) = true ∧ 128 ≤ f' + (split2 ys (coarser ys j)).length ∧ bal f' (split2 ys (coarser ys j)) = bal 128 xs from ⟨q1, by have := HP.out.2.1; omega, by have h1 := HP.out.2.2; rw [q3] at h1; exact h1⟩)
        have HL := Lib.hid (show (split2 ys (coarser ys j)).length = m + 1 by rw [q2, HLM.out])
        have HF := Lib.hid hf'
        have hm3 : m ≤ 1000 := by have := HLM.out; omega
        have hl4 : xq.2.1 < 4 := by omega
        clear q1 q2 q3 hbs hxq hx hy ho e hgp hf' hl3
        go_upto_region 7 with fail
        go_region_with (first
          | (go_at_call 91; ((with_reducible refine (specCoarser_is R j (some ⟨g2, 0, none⟩) m cap2 ys _ _ _ ((HB.out.on (gr_drew (grown_refl _))).reads HLM.out) (by omega) HX.out HYY.out).mono ?_); rintro e w4 ⟨rfl, hg⟩; have hb4 := HB.out.on (grown_trans (gr_drew (grown_refl wr)) hg); have p4 := MBox.c0 hb4.b; have p5 := MBox.c1 hb4.b; have HB4 := Lib.hid hb4; clear hg hb4))
          | (go_at_call 48; ((with_reducible refine (specSplit_is R g2 m cap2 (coarser ys j) ys xq _ (HB4.out.reads HLM.out) hm3 (HB4.out.room HLM.out) HXQ.out HOQ.out hl4).mono ?_); rintro e w5 ⟨v5, rfl, ho5, hg5⟩; obtain ⟨g5, cap5, rfl⟩ := ownsRow_succ ho5; have hb5 := HB4.out.on hg5; have p6 := MBox.c0 hb5.b; have p7 := MBox.c1 hb5.b; have s6 := MBox.f0 hb5.b; have s7 := MBox.f1 hb5.b; have hS := HB4.out.store hg5 (by rw [HL.out]; exact own_mono ho5 HB4.out.gr.size); have p8 := MBox.c0 hS.b; have p9 := MBox.c1 hS.b; have HS := Lib.hid hS; clear hb5 ho5 hg5 hS)))
        all_goals go_wp2_with (go_at_call 89; ((with_reducible refine (HFS.out _ (split2 ys (coarser ys j)) _ _ _ (HS.out.reads HL.out) HQ.out.1).mono ?_); rintro e w6 ⟨rfl, hg⟩; have HB6 := Lib.hid (HS.out.on hg); clear hg))
        all_goals go_roundg f'
        all_goals first
          | exact ⟨_, _, _, _, _, rfl, Lib.hid rfl, HL, HB6, HQ⟩
          | (have := HF.out; omega)
end Go.Proofs.Ytaccigmkddomaaa.Mesh

namespace Go.Proofs.Ytaccigmkddomaaa.Mesh
open Go.ChangeShapes Go.WideShapes Go.ChangeAt Go.RowKit Go.Proofs.Ytaccigmkddomaaa.Cell

/-- The first k leaves: where they lie, and that they leave no gap. -/
theorem lie {xs : List C3} (hok : ∀ (j : Nat) x, xs[j]? = some x → okOf x = true) : ∀ (k : Nat) (e : Int), k ≤ xs.length → run (xs.take k) = some e →
    (∀ (j : Nat) x, j < k → xs[j]? = some x → 0 ≤ stOf x ∧ 1 ≤ wdOf x ∧ stOf x + wdOf x ≤ e) ∧
    ∀ pos, 0 ≤ pos → pos < e → ∃ (j : Nat) (x : C3), j < k ∧ xs[j]? = some x ∧ stOf x ≤ pos ∧ pos < stOf x + wdOf x ∧ ∀ (i : Nat) y, i < j → xs[i]? = some y → stOf y + wdOf y ≤ stOf x := by
  intro k
  induction k with
  | zero =>
    intro e _ he
    obtain rfl : (0 : Int) = e := by simpa [run] using he
    exact ⟨fun j x hj => by omega, fun pos h0 h1 => by omega⟩
  | succ k ih =>
    intro e hk he
    obtain ⟨r, l, i, hx⟩ := get_of_lt rfl (xs := xs) (k := k) (n := xs.length) (by omega)
    obtain ⟨e0, h0⟩ : ∃ e0, run (xs.take k) = some e0 := by
      cases h : run (xs.take k) with
      | some e0 => exact ⟨e0, rfl⟩
      | none => rw [take_snoc hx, run_snoc, h] at he; cases he
    have hs : stOf (r, l, i) = e0 := by
      rw [run_next hx h0] at he
      unfold step at he
      simp only [Option.bind_some] at he
      split at he
      · assumption
      · cases he
    have he' : e0 + wdOf (r, l, i) = e := by
      rw [run_next hx h0, step_yes hs] at he
      simpa using he
    obtain ⟨a, b⟩ := ih e0 (by omega) h0
    obtain ⟨-, -, -, -, c5, c6, c7, -⟩ := ok_bounds (hok k _ hx)
    have hn := run_nonneg h0
    refine ⟨fun j x hj hjx => ?_, fun pos p0 p1 => ?_⟩
    · by_cases hjk : j < k
      · obtain ⟨a1, a2, a3⟩ := a j x hjk hjx
        exact ⟨a1, a2, by omega⟩
      · obtain rfl : j = k := by omega
        rw [hx] at hjx; cases hjx
        exact ⟨by omega, c6, by omega⟩
    · by_cases hp : pos < e0
      · obtain ⟨j, x, q1, q2, q3, q4, q5⟩ := b pos p0 hp
        exact ⟨j, x, by omega, q2, q3, q4, q5⟩
      · exact ⟨k, _, by omega, hx, by omega, by omega, fun i y hi hy => by have := (a i y hi hy).2.2; omega⟩
/-- Every place of a valid mesh: its leaf, found by place and by cell. -/
theorem covered {R : Int} {xs : List C3} (h : meshOk R xs = true) {pos : Int} (h0 : 0 ≤ pos) (h1 : pos < R * 16) :
    ∃ (j : Nat) (r l i : Int), j < xs.length ∧ xs[j]? = some (r, l, i) ∧ leafAt R xs pos = j ∧ startOf r l i ≤ pos ∧ pos < startOf r l i + widthOf l ∧ leafOf xs (r, l, i) = j := by
  obtain ⟨g1, g2, g3⟩ : 1 ≤ R ∧ R ≤ 8 ∧ run xs = some (R * 16) := of_decide_eq_true h
  have hok : ∀ (j : Nat) x, xs[j]? = some x → okOf x = true := fun j x hx => (run_bounds _ g3).2.2 x (List.mem_of_getElem? hx)
  obtain ⟨a, b⟩ := lie hok xs.length (R * 16) (Nat.le_refl _) (by rw [List.take_length]; exact g3)
  obtain ⟨j, ⟨r, l, i⟩, q1, q2, q3, q4, q5⟩ := b pos h0 h1
  refine ⟨j, r, l, i, q1, q2, ?_, q3, q4, ?_⟩
  · unfold leafAt
    rw [h, if_pos rfl]
    refine idx_hit q2 (decide_eq_true ⟨q3, q4⟩) fun i' y hi hy => decide_eq_false fun e => ?_
    have := q5 i' y hi hy
    omega
  · refine idx_hit q2 (by simp) fun i' y hi hy => decide_eq_false fun e => ?_
    have h5 := q5 i' y hi hy
    have h6 := (a i' y (by omega) hy).2.1
    rw [e] at h5 h6
    omega
theorem uncovered {R : Int} {xs : List C3} (h : meshOk R xs = true) {pos : Int} (hp : pos < 0 ∨ R * 16 ≤ pos) : leafAt R xs pos = -1 := by
  obtain ⟨g1, g2, g3⟩ : 1 ≤ R ∧ R ≤ 8 ∧ run xs = some (R * 16) := of_decide_eq_true h
  have hok : ∀ (j : Nat) x, xs[j]? = some x → okOf x = true := fun j x hx => (run_bounds _ g3).2.2 x (List.mem_of_getElem? hx)
  obtain ⟨a, -⟩ := lie hok xs.length (R * 16) (Nat.le_refl _) (by rw [List.take_length]; exact g3)
  unfold leafAt
  rw [h, if_pos rfl]
  refine idx_none fun j y hy => decide_eq_false fun e => ?_
  have := a j y (List.getElem?_eq_some_iff.1 hy).1 hy
  omega
end Go.Proofs.Ytaccigmkddomaaa.Mesh

namespace Go.Proofs.Ytaccigmkddomaaa.Mesh
open Go.ChangeShapes Go.WideShapes Go.ChangeAt Go.RowKit Go.Proofs.Ytaccigmkddomaaa.Cell

/-- Is the second cell the first or within it. -/
def conB (r l i r' l' i' : Int) : Bool := okId r l i && (okId r' l' i' && (decide (r = r') && (decide (l ≤ l') && decide (i' / 2 ^ (l' - l).toNat = i))))

/-- The second cell is the first or lies in it. -/
def con (x y : C3) : Bool := conB x.1 x.2.1 x.2.2 y.1 y.2.1 y.2.2
theorem con_iff {x y : C3} : con x y = true ↔ okOf x = true ∧ okOf y = true ∧ x.1 = y.1 ∧ x.2.1 ≤ y.2.1 ∧ y.2.2 / 2 ^ (y.2.1 - x.2.1).toNat = x.2.2 := by
  simp [con, conB, okOf]
theorem con_refl {x : C3} (h : okOf x = true) : con x x = true := con_iff.2 ⟨h, h, rfl, Int.le_refl _, by simp⟩
theorem con_kid {x : C3} {s : Int} (h : okOf x = true) (hl : x.2.1 < 4) (hs : s = 0 ∨ s = 1) : con x (kidOf x s) = true := by
  refine con_iff.2 ⟨h, (kidOf_ok h hl hs).1, rfl, by show x.2.1 ≤ x.2.1 + 1; omega, ?_⟩
  show (2 * x.2.2 + s) / 2 ^ (x.2.1 + 1 - x.2.1).toNat = x.2.2
  rw [show (x.2.1 + 1 - x.2.1).toNat = 1 by omega]
  omega
theorem con_trans {x y z : C3} (h : con x y = true) (k : con y z = true) : con x z = true := by
  obtain ⟨h0, h1, h2, h3, h4⟩ := con_iff.1 h
  obtain ⟨k0, k1, k2, k3, k4⟩ := con_iff.1 k
  refine con_iff.2 ⟨h0, k1, h2.trans k2, Int.le_trans h3 k3, ?_⟩
  rw [show (z.2.1 - x.2.1).toNat = (z.2.1 - y.2.1).toNat + (y.2.1 - x.2.1).toNat by omega, Int.pow_add, ← Int.ediv_ediv_of_nonneg (Int.le_of_lt (Int.pow_pos (by decide))), k4, h4]
theorem con_within {x y : C3} (h : con x y = true) : Within x y := by
  obtain ⟨h0, h1, h2, h3, h4⟩ := con_iff.1 h
  obtain ⟨r, l, i⟩ := x
  obtain ⟨r', l', i'⟩ := y
  obtain ⟨-, -, a2, a3, a4, -⟩ := ok_bounds h0
  obtain ⟨-, -, b2, b3, b4, -⟩ := ok_bounds h1
  dsimp only at h2 h3 h4 a2 a3 b2 b3 a4 b4
  subst h2
  unfold Within
  rw [a4, b4]
  unfold wdOf
  dsimp only at a4 b4 ⊢
  clear a4 b4 h h0 h1
  rcases lvl a2 a3 with rfl | rfl | rfl | rfl | rfl <;> rcases lvl b2 b3 with rfl | rfl | rfl | rfl | rfl
  all_goals first
    | omega
    | (simp [widthOf] at h4 ⊢; omega)
/-- Each leaf of the balanced mesh lies in a leaf of the mesh. -/
theorem bal_con {R : Int} : ∀ (f : Nat) (xs : List C3), meshOk R xs = true → ∀ y ∈ bal f xs, ∃ x ∈ xs, con x y = true
  | 0, xs, h, y, hy => by
    obtain ⟨h1, h2, h3⟩ : 1 ≤ R ∧ R ≤ 8 ∧ run xs = some (R * 16) := of_decide_eq_true h
    exact ⟨y, hy, con_refl ((run_bounds _ h3).2.2 y hy)⟩
  | f + 1, xs, h, y, hy => by
    by_cases hg : firstGap xs < 0
    · rw [bal_done hg] at hy
      obtain ⟨h1, h2, h3⟩ : 1 ≤ R ∧ R ≤ 8 ∧ run xs = some (R * 16) := of_decide_eq_true h
      exact ⟨y, hy, con_refl ((run_bounds _ h3).2.2 y hy)⟩
    · rw [bal_next hg] at hy
      obtain ⟨z, hz, hzy⟩ := bal_con f _ (step_ok h hg).1 y hy
      obtain ⟨k, x, -, hx, ho, hl, -, -, hb⟩ := step_at h hg
      rw [hb] at hz
      rcases mem_split hx hz with hm | rfl | rfl
      · exact ⟨z, hm, hzy⟩
      · exact ⟨x, List.mem_of_getElem? hx, con_trans (con_kid ho (by omega) (.inl rfl)) hzy⟩
      · exact ⟨x, List.mem_of_getElem? hx, con_trans (con_kid ho (by omega) (.inr rfl)) hzy⟩
theorem balOf_con {R : Int} {xs : List C3} (h : meshOk R xs = true) {i : Nat} {y : C3} (hy : (balOf R xs)[i]? = some y) : ∃ (j : Nat) (x : C3), xs[j]? = some x ∧ con x y = true := by
  rw [show balOf R xs = bal 128 xs from if_pos h] at hy
  obtain ⟨x, hx, hc⟩ := bal_con 128 xs h y (List.mem_of_getElem? hy)
  obtain ⟨j, hj⟩ := List.getElem?_of_mem hx
  exact ⟨j, x, hj, hc⟩
theorem balOf_deep {R : Int} {xs : List C3} (h : meshOk R xs = true) : deepest R (balOf R xs) = deepest R xs := by
  have h1 := (balOf_ok h).1
  simp only [deepest, h1, h, if_true]
  rw [show balOf R xs = bal 128 xs from if_pos h]
  exact bal_deep 128 xs h
/-- The leaves of a valid mesh lie in order. -/
theorem in_order {R : Int} {xs : List C3} (h : meshOk R xs = true) {j k : Nat} {x y : C3} (hjk : j < k) (hx : xs[j]? = some x) (hy : xs[k]? = some y) : stOf x + wdOf x ≤ stOf y ∧ 1 ≤ wdOf x := by
  obtain ⟨g1, g2, g3⟩ : 1 ≤ R ∧ R ≤ 8 ∧ run xs = some (R * 16) := of_decide_eq_true h
  have hok : ∀ (j : Nat) x, xs[j]? = some x → okOf x = true := fun j x hx => (run_bounds _ g3).2.2 x (List.mem_of_getElem? hx)
  obtain ⟨e0, h0⟩ : ∃ e0, run (xs.take k) = some e0 := by
    cases h : run (xs.take k) with
    | some e0 => exact ⟨e0, rfl⟩
    | none => rw [run_take_none h] at g3; cases g3
  have hk := (List.getElem?_eq_some_iff.1 hy).1
  obtain ⟨a, -⟩ := lie hok k e0 (by omega) h0
  obtain ⟨a1, a2, a3⟩ := a j x hjk hx
  have hs : stOf y = e0 := by
    by_cases hs : stOf y = e0
    · exact hs
    · have hn := run_next hy h0
      rw [step_no hs] at hn
      rw [run_take_none hn] at g3
      cases g3
  exact ⟨by omega, a2⟩
/-- The leaves that hold one leaf and the next. -/
theorem con_order {R : Int} {xs bs : List C3} (h : meshOk R xs = true) (hb : meshOk R bs = true) {i j k : Nat} {x x' y y' : C3} (hy : bs[i]? = some y) (hy' : bs[i + 1]? = some y') (hx : xs[k]? = some x) (hx' : xs[j]? = some x') (hc : con x y = true) (hc' : con x' y' = true) : k ≤ j := by
  by_cases hjk : k ≤ j
  · exact hjk
  · obtain ⟨o1, o2⟩ := in_order h (by omega) hx' hx
    obtain ⟨o3, o4⟩ := in_order hb (Nat.lt_succ_self i) hy hy'
    obtain ⟨c1, c2⟩ := con_within hc
    obtain ⟨c3, c4⟩ := con_within hc'
    have hp := (ok_bounds (con_iff.1 hc').2.1).2.2.2.2.2.1
    omega
end Go.Proofs.Ytaccigmkddomaaa.Mesh

namespace Go.Proofs.Ytaccigmkddomaaa.Mesh
open Go.ChangeShapes Go.WideShapes Go.ChangeAt Go.RowKit Go.Proofs.Ytaccigmkddomaaa.Cell

/-- The greatest level so far, from -1 on. -/
def deepS (xs : List C3) : Int := xs.foldl (fun m x => max m x.2.1) (-1)
theorem deepS_eq {R : Int} {xs : List C3} (h : meshOk R xs = true) : deepS xs = deepOf xs := by
  obtain ⟨h1, h2, h3⟩ : 1 ≤ R ∧ R ≤ 8 ∧ run xs = some (R * 16) := of_decide_eq_true h
  obtain ⟨-, -, b⟩ := run_bounds _ h3
  cases xs with
  | nil => simp [run] at h3; omega
  | cons x xs =>
    obtain ⟨-, -, b2, -⟩ := ok_bounds (b x (by simp))
    unfold deepS deepOf
    rw [List.foldl_cons, List.foldl_cons]
    congr 1
    omega
theorem deepS_ge (xs : List C3) : ∀ m : Int, m ≤ xs.foldl (fun m x => max m x.2.1) m := by
  induction xs with
  | nil => intro m; exact Int.le_refl _
  | cons x xs ih => intro m; exact Int.le_trans (by omega) (ih (max m x.2.1))

end Go.Proofs.Ytaccigmkddomaaa.Mesh

namespace Go.Proofs.Ytaccigmkddomaaa.Mesh
open Go.ChangeShapes Go.WideShapes Go.ChangeAt Go.RowKit Go.Proofs.Ytaccigmkddomaaa.Cell

end Go.Proofs.Ytaccigmkddomaaa.Mesh

namespace Go.Proofs.Ytaccigmkddomaaa.Mesh
open Go.ChangeShapes Go.WideShapes Go.ChangeAt Go.RowKit Go.Proofs.Ytaccigmkddomaaa.Cell

theorem below_grown {w w' : World} (h : Below w.heap.size w w') : w.grownBy w' none := ⟨h.os, h.tape, h.output, h.size, fun i hi _ => h.block i hi⟩
theorem gr_drew1 {w a : World} (h : w.grownBy a none) : w.grownBy a.drew none := ⟨h.os, h.tape, h.output, h.size, h.block⟩
/-- The faces of the levels below l, of the first k. -/
def sumTo (xs : List C3) (k : Nat) : Nat → Int
  | 0 => 0
  | l + 1 => sumTo xs k l + countTo xs l k
theorem sumTo_succ (xs : List C3) (k l : Nat) : sumTo xs k (l + 1) = sumTo xs k l + countTo xs l k := rfl
theorem sumTo_le (xs : List C3) (k : Nat) : ∀ l : Nat, 0 ≤ sumTo xs k l ∧ sumTo xs k l ≤ l * k
  | 0 => by simp [sumTo]
  | l + 1 => by
    have h := sumTo_le xs k l
    have c := countTo_le xs l k
    rw [sumTo_succ]
    have e : ((l + 1 : Nat) : Int) * (k : Int) = (l : Int) * k + k := by
      rw [Int.natCast_add, Int.add_mul]
      simp
    rw [e]
    omega
theorem sumTo_all (xs : List C3) : ∀ k : Nat, (∀ j, j < k → 0 ≤ faceAt xs j ∧ faceAt xs j ≤ 4) → sumTo xs k 5 = k
  | 0, _ => by simp [sumTo, countTo_zero]
  | k + 1, h => by
    have ih := sumTo_all xs k (fun j hj => h j (by omega))
    obtain ⟨h0, h4⟩ := h k (by omega)
    simp only [sumTo, countTo_succ] at ih ⊢
    simp at ih
    rcases (show faceAt xs k = 0 ∨ faceAt xs k = 1 ∨ faceAt xs k = 2 ∨ faceAt xs k = 3 ∨ faceAt xs k = 4 by omega) with e | e | e | e | e
    all_goals
      simp [e]
      omega
theorem face_bounds {R : Int} {xs : List C3} (h : meshOk R xs = true) {j : Nat} (hj : j < xs.length - 1) : 0 ≤ faceAt xs j ∧ faceAt xs j ≤ 4 := by
  obtain ⟨ho, -, -⟩ := mesh_parts h
  obtain ⟨r, l, i, hx⟩ := get_of_lt (xs := xs) rfl (k := j) (by omega)
  obtain ⟨r', l', i', hy⟩ := get_of_lt (xs := xs) rfl (k := j + 1) (by omega)
  obtain ⟨-, -, a0, a1, -⟩ := ok_bounds (ho _ _ hx)
  obtain ⟨-, -, b0, b1, -⟩ := ok_bounds (ho _ _ hy)
  rw [faceAt_of hx hy]
  dsimp only at a0 a1 b0 b1 ⊢
  omega
theorem faces_all {R : Int} {xs : List C3} (h : meshOk R xs = true) : sumTo xs (xs.length - 1) 5 = (xs.length : Int) - 1 := by
  obtain ⟨-, h1, -⟩ := mesh_parts h
  rw [sumTo_all xs _ (fun j hj => face_bounds h hj)]
  omega
theorem faceOf_in {R : Int} {xs : List C3} (h : meshOk R xs = true) {j : Nat} {x y : C3} (hx : xs[j]? = some x) (hy : xs[j + 1]? = some y) : faceOf R xs j = max x.2.1 y.2.1 := by
  have := (List.getElem?_eq_some_iff.1 hy).1
  rw [show faceOf R xs j = faceAt xs j from if_pos ⟨h, by omega, by omega⟩, faceAt_of hx hy]
theorem faceOf_out {R : Int} {xs : List C3} : faceOf R xs ((xs.length : Int) - 1) = -1 := if_neg (by omega)
end Go.Proofs.Ytaccigmkddomaaa.Mesh

namespace Go.Proofs.Ytaccigmkddomaaa.Mesh
open Go.ChangeShapes Go.WideShapes Go.ChangeAt Go.RowKit Go.Proofs.Ytaccigmkddomaaa.Cell

structure Two (w wr : World) (R : Int) (B3 B4 g1 n c1 g2 nb c2 : Nat) (xs bs : List C3) : Prop where
  m3 : MBox wr B3 R (.slice (some ⟨g1, 0, none⟩) n c1)
  m4 : MBox wr B4 R (.slice (some ⟨g2, 0, none⟩) nb c2)
  r1 : Reads wr (some ⟨g1, 0, none⟩) n xs
  r2 : Reads wr (some ⟨g2, 0, none⟩) nb bs
  gr : w.grownBy wr none
theorem Two.on {w wr wy : World} {R : Int} {B3 B4 g1 n c1 g2 nb c2 : Nat} {xs bs : List C3} (h : Two w wr R B3 B4 g1 n c1 g2 nb c2 xs bs) (hg : wr.grownBy wy none) : Two w wy R B3 B4 g1 n c1 g2 nb c2 xs bs :=
  ⟨h.m3.kept hg (by simp), h.m4.kept hg (by simp), h.r1.on hg, h.r2.on hg, grown_trans h.gr hg⟩
theorem own_at1 {w : World} {base n : Nat} {v : Value} {xs : List Value} (h : w.ownsRow base 35 3 v n xs) (hn : 1 ≤ n) : ∃ g c, v = .slice (some ⟨g, 0, none⟩) n c := by
  rcases h.2 with ⟨-, h0⟩ | ⟨g, c, cur, rfl, -⟩
  · omega
  · exact ⟨g, c, rfl⟩
end Go.Proofs.Ytaccigmkddomaaa.Mesh
