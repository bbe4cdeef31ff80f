/- States: contentOf, put and PutCell of the program, as contracts.
   Conditions: at most 2^20 leaves and numbers. -/
import Derived.Test.YtcboogodphpjbaaStClone
import Derived.Test.YtcboogodphpjbaaStI
import Derived.Test.YtcboogodphpjbaaStPutS
import Derived.Test.YtcboogodphpjbaaStFillS
set_option maxRecDepth 100000
namespace Go.Proofs.Ytcboogodphpjbaa.State
open Go.ChangeShapes Go.WideShapes Go.ChangeAt Go.RowKit Go.Joins Go.Proofs.Ytcboogodphpjbaa.Cell Go.Proofs.Ytcboogodphpjbaa.Mesh Go.Proofs.Ytcboogodphpjbaa.Law Go.Proofs.Ytcboogodphpjbaa.Ints Go.Proofs.Ytcboogodphpjbaa.Draws Go.Deep

theorem free2 {b : Nat} {t : TypeId} {vs : Array Value} {W : World} (h : (boxG b t vs).P W) : W.frozen? ⟨b, 0, none⟩ = false ∧ W.frozen? ⟨b, 1, none⟩ = false := ⟨boxG.free h 0, boxG.free h 1⟩

set_option maxHeartbeats 4000000 in
theorem contentOf_is (R : Int) (a1 a4 : Option Addr) (g2 g3 n1 n2 n3 n4 c1 c2 c3 c4 k : Nat) (h2 : k < n2) (h3 : k < n3) (w : World) :
    Calls Try.prog 59 #[.agg #[.int .i64 R, .slice a1 n1 c1, .slice (some ⟨g2, 0, none⟩) n2 c2, .slice (some ⟨g3, 0, none⟩) n3 c3, .slice a4 n4 c4], .int .i64 (k : Int)] w fun e w' => e = .returned (.agg #[.pointer (some ⟨g2, k, none⟩), .pointer (some ⟨g3, k, none⟩)]) ∧ w.grownBy w' none := by
  have i2 : (k : Int) < n2 := by omega
  have i3 : (k : Int) < n3 := by omega
  clear h2 h3
  have he := ((Held.nil w).box 29 #[.int .i64 R, .slice a1 n1 c1, .slice (some ⟨g2, 0, none⟩) n2 c2, .slice (some ⟨g3, 0, none⟩) n3 c3, .slice a4 n4 c4]).box 84 #[.pointer none, .pointer none]
  simp only [World.size_alloc] at he
  have HE := Lib.hid he; clear he
  go_enter Try.func59, Try.ntmps59
  go_upto_region 1 with fail
  generalize (w.alloc (.cells #[.int .i64 R, .slice a1 n1 c1, .slice (some ⟨g2, 0, none⟩) n2 c2, .slice (some ⟨g3, 0, none⟩) n3 c3, .slice a4 n4 c4] 29)).alloc (.cells #[.pointer none, .pointer none] 84) = W0 at *
  obtain ⟨p0, p1, p2, p3, p4⟩ := box5 (HE.out.nth 0 rfl)
  obtain ⟨r0, r1⟩ := box2 (HE.out.nth 1 rfl)
  obtain ⟨f0, f1⟩ := free2 (HE.out.nth 1 rfl)
  go_region
  all_goals
    have hH := ((HE.out.on (gr_drew (grown_refl W0))).put 1 rfl 0 (.pointer (some ⟨g2, k, none⟩))).put 1 rfl 1 (.pointer (some ⟨g3, k, none⟩))
    go_wp2_with fail
    exact bodyPost_ret_by (results_cell_row (fn := Try.f59) rfl _ _ (w.heap.size + 1) _ _ (0, 0) _ rfl (hH.nth 1 rfl) Try.underlying84 rfl (by kernel_rfl)) rfl ⟨rfl, hH.gr⟩

set_option maxHeartbeats 4000000 in
theorem add_is (g2 g3 k : Nat) (m t x y : Int) (w : World) (hm : w.cell? ⟨g2, k, none⟩ = some (.int .i64 x)) (fm : w.frozen? ⟨g2, k, none⟩ = false) (ht : w.cell? ⟨g3, k, none⟩ = some (.int .i64 y)) (ft : w.frozen? ⟨g3, k, none⟩ = false) (hne : g2 ≠ g3)
    (bm : -1000000000000 ≤ x + m ∧ x + m ≤ 1000000000000) (bt : -1000000000000 ≤ y + t ∧ y + t ≤ 1000000000000) :
    Calls Try.prog 60 #[.agg #[.pointer (some ⟨g2, k, none⟩), .pointer (some ⟨g3, k, none⟩)], .int .i64 m, .int .i64 t] w fun e w' => e = .returned (.tuple #[]) ∧ ∃ W, w.grownBy W none ∧ w' = (W.setCell ⟨g2, k, none⟩ (.int .i64 (x + m))).setCell ⟨g3, k, none⟩ (.int .i64 (y + t)) := by
  have he := (Held.nil w).box 84 #[.pointer (some ⟨g2, k, none⟩), .pointer (some ⟨g3, k, none⟩)]
  have l2 := World.block_lt_of_cell? w _ hm
  have l3 := World.block_lt_of_cell? w _ ht
  have HE := Lib.hid he; clear he
  go_enter Try.func60, Try.ntmps60
  go_upto_region 1 with fail
  have HG := Lib.hid (World.grownBy_alloc w (.cells #[.pointer (some ⟨g2, k, none⟩), .pointer (some ⟨g3, k, none⟩)] 84) none)
  generalize w.alloc (.cells #[.pointer (some ⟨g2, k, none⟩), .pointer (some ⟨g3, k, none⟩)] 84) = W0 at *
  obtain ⟨p0, p1⟩ := box2 (HE.out.nth 0 rfl)
  have HQ := Lib.hid (And.intro l2 l3)
  have m2 := HG.out.cell hm (by simp)
  have m3 := HG.out.cell ht (by simp)
  have u2 : W0.frozen? ⟨g2, k, none⟩ = false := (World.frozen?_of_block (HG.out.block g2 l2 (by simp))).trans fm
  have u3 : W0.frozen? ⟨g3, k, none⟩ = false := (World.frozen?_of_block (HG.out.block g3 l3 (by simp))).trans ft
  clear hm ht fm ft l2 l3
  obtain ⟨X, hX⟩ : ∃ X, x + m = X := ⟨_, rfl⟩
  obtain ⟨Y, hY⟩ : ∃ Y, y + t = Y := ⟨_, rfl⟩
  go_upto_region 2 with fail
  have hb : w.heap.size ≠ g2 := by have := HQ.out.1; simp at this; omega
  have HE1 := Lib.hid ((show (W0.setCell ⟨g2, k, none⟩ (.int .i64 (x + m))).heap[w.heap.size]? = W0.heap[w.heap.size]? from heap_setCell_other W0 ⟨g2, k, none⟩ w.heap.size _ (by simpa using hb)))
  have p1' : (W0.setCell ⟨g2, k, none⟩ (.int .i64 (x + m))).cell? ⟨w.heap.size, 1, none⟩ = some (.pointer (some ⟨g3, k, none⟩)) := (World.cell?_of_block HE1.out).trans p1
  have m3' : (W0.setCell ⟨g2, k, none⟩ (.int .i64 (x + m))).cell? ⟨g3, k, none⟩ = some (.int .i64 y) := (World.cell?_of_block (heap_setCell_other W0 ⟨g2, k, none⟩ g3 _ (by simpa using fun h => hne h.symm))).trans m3
  have u3' : (W0.setCell ⟨g2, k, none⟩ (.int .i64 (x + m))).frozen? ⟨g3, k, none⟩ = false := (World.frozen?_of_block (heap_setCell_other W0 ⟨g2, k, none⟩ g3 _ (by simpa using fun h => hne h.symm))).trans u3
  go_wp2_with fail
  exact bodyPost_end (results_none rfl _ _ _) rfl ⟨rfl, W0, HG.out, rfl⟩

end Go.Proofs.Ytcboogodphpjbaa.State
