/- Meshes: the program's child of a cell and splitLeaf, as contracts: what each answers; nothing that was there is written (splitLeaf: but the row that it is given).
   Conditions: at most 2^20 leaves. -/
import Derived.Test.YtmkmlfaekiofcaaMReplX
import Derived.Test.YtmkmlfaekiofcaaMFaceI
import Derived.Test.YtmkmlfaekiofcaaMCopy
import Derived.Deep.RegionWith
import Derived.Deep.CutRange
import Derived.Deep.DeepCutAuto
namespace Go.Proofs.Ytmkmlfaekiofcaa.Mesh
open Go.ChangeShapes Go.WideShapes Go.ChangeAt Go.RowKit Go.Proofs.Ytmkmlfaekiofcaa.Cell

theorem pair_new (w : World) (p q : C3) : (w.alloc (.cells #[.int .i64 p.1, .int .i64 p.2.1, .int .i64 p.2.2, .int .i64 q.1, .int .i64 q.2.1, .int .i64 q.2.2] 33)).heap[w.heap.size]? = some (.cells (flatC [p, q]).toArray 33 (0, 0)) := heap_alloc_new w _

theorem kid_is (r l i s : Int) (y : C3) (hl0 : 0 ≤ l) (hl1 : l ≤ 4) (hi0 : 0 ≤ i) (hi1 : i ≤ 15) (hs0 : 0 ≤ s) (hs1 : s ≤ 1) (hy : kidOf (r, l, i) s = y) (w : World) :
    Calls Try.prog 69 #[.agg #[.int .i64 r, .int .i64 l, .int .i64 i], .int .i64 s] w fun e w' =>
      e = .returned (.agg #[.int .i64 y.1, .int .i64 y.2.1, .int .i64 y.2.2]) ∧ w.grownBy w' none := by
  subst hy
  go_enter Try.func69, Try.ntmps69
  go_wp2
  exact bodyPost_ret_by (results_cell_row (fn := Try.f69) rfl _ _ (w.heap.size + 1) _ _ (0, 0) _ rfl (heap_alloc2_new _ _ _) Try.underlying33 rfl (by kernel_rfl)) rfl ⟨rfl, g_alloc (g_alloc (grown_refl _) _) _⟩

set_option maxHeartbeats 4000000 in
theorem splitLeaf_is (base g n cap k : Nat) (xs : List C3) (x : C3) (w : World) (hown : w.ownsRow base 33 3 (.slice (some ⟨g, 0, none⟩) n cap) n (flatC xs))
    (hx : xs[k]? = some x) (ho : okOf x = true) (hn : n ≤ 1000) (hb : base ≤ w.heap.size) :
    Calls Try.prog 43 #[.slice (some ⟨g, 0, none⟩) n cap, .int .i64 k] w (ReplPost base g w (split2 xs k) (n + 1)) := by
  rw [split2_of hx]
  have hgl := (hown.lt g rfl).2
  obtain ⟨r, l, i⟩ := x
  obtain ⟨q0, q1, q2, q3, q4, q5, -, -⟩ := bounds (show okId r l i = true from ho)
  obtain ⟨p0, hp0⟩ : ∃ p, kidOf (r, l, i) 0 = p := ⟨_, rfl⟩
  obtain ⟨p1, hp1⟩ : ∃ p, kidOf (r, l, i) 1 = p := ⟨_, rfl⟩
  rw [hp0, hp1]
  obtain ⟨g_, hg_, -, d0, d1, d2⟩ := (own_reads hown).at_ k _ hx
  cases hg_
  have hlen := (own_reads hown).len
  have hk : k < n := by have := (List.getElem?_eq_some_iff.1 hx).1; omega
  have hki : (k : Int) < n := by omega
  have hni : (n : Int) ≤ 1000 := by omega
  obtain ⟨zs, hzs⟩ : ∃ zs, xs.take k ++ [p0, p1] ++ xs.drop (k + 1) = zs := ⟨_, rfl⟩
  have HZ := Lib.hid hzs
  have HO := Lib.hid hown
  have HP0 := Lib.hid hp0
  have HP1 := Lib.hid hp1
  rw [hzs]
  clear hx ho hp0 hp1 hzs hown hlen
  dsimp only at d0 d1 d2
  go_enter Try.func43, Try.ntmps43
  go_wp2_with fail
  have HS := Lib.hid (show w.grownBy (w.alloc (.cells #[.int .i64 r, .int .i64 l, .int .i64 i] 33)) none from g_alloc (grown_refl _) _)
  have HOS := Lib.hid (HO.out.kept HS.out (.inr (by simp [Value.ownBlock])))
  have LA := Cell.laid_new w 33 r l i
  have HA := Lib.hid LA
  obtain ⟨c0, c1, c2, -⟩ := LA
  generalize w.alloc (.cells #[.int .i64 r, .int .i64 l, .int .i64 i] 33) = wS at *
  have HD := Lib.hid (grown_refl wS)
  have e1 : IntKind.i64.wrap ((k : Int) + 1) = (k : Int) + 1 := IntWalk.i64_in _ (by omega)
  go_region_with (first
    | (go_at_call 69; ((with_reducible refine (kid_is r l i 0 p0 q2 q3 q4 q5 (by decide) (by decide) HP0.out _).mono ?_); rintro e w1 ⟨rfl, hgc⟩; have hgd := grown_trans (by first | exact gr_drew HD.out | exact HD.out) hgc; obtain ⟨b0, b1, b2, -⟩ := HA.out.on hgd; clear HD; have HD := Lib.hid hgd; clear hgd hgc))
    | (go_at_call 69; ((with_reducible refine (kid_is r l i 1 p1 q2 q3 q4 q5 (by decide) (by decide) HP1.out _).mono ?_); rintro e w2 ⟨rfl, hgc⟩; have hgd := grown_trans (by first | exact gr_drew HD.out | exact HD.out) hgc; clear HD; have HD := Lib.hid hgd; clear hgd hgc))
    | (go_at_call 68; ((with_reducible refine (repl_is base g n cap k _ xs p0 p1 _ (HOS.out.kept (g_alloc HD.out _) (.inr (by simp [Value.ownBlock]))) (pair_new _ p0 p1) (by have := HD.out.size; have := HS.out.size; omega) hk hn (by have := HD.out.size; have := HS.out.size; simp; omega)).mono ?_); rintro e w3 ⟨g', cap', rfl, hown', hgr⟩; have HW := Lib.hid hown'; have HR := Lib.hid (grown_one (grown_any (grown_trans HS.out (g_alloc HD.out _))) hgr); clear hown' hgr)))
  all_goals go_wp2_with fail
  all_goals go_ret
  all_goals exact ⟨g', cap', rfl, HZ.out ▸ HW.out, HR.out⟩
end Go.Proofs.Ytmkmlfaekiofcaa.Mesh
