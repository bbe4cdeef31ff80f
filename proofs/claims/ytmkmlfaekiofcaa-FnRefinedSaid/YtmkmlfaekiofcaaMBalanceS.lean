/- Meshes: the reference model's Balance, as a contract: the balanced mesh, in memory of its own; nothing that was there is written.
   Conditions: at most 2^20 leaves. -/
import Derived.Test.YtmkmlfaekiofcaaMBalance
import Derived.Test.YtmkmlfaekiofcaaMSplitS
import Derived.Test.YtmkmlfaekiofcaaMFaceS
namespace Go.Proofs.Ytmkmlfaekiofcaa.Mesh
open Go.ChangeShapes Go.WideShapes Go.ChangeAt Go.RowKit Go.Proofs.Ytmkmlfaekiofcaa.Cell

theorem own_mono {w : World} {base base' n : Nat} {v : Value} {xs : List Value} (h : w.ownsRow base 33 3 v n xs) (hb : base' ≤ base) : w.ownsRow base' 33 3 v n xs := by
  refine ⟨h.1, ?_⟩
  rcases h.2 with h0 | ⟨g, cap, cur, h1, h2, h3⟩
  · exact .inl h0
  · exact .inr ⟨g, cap, cur, h1, Nat.le_trans hb h2, h3⟩
/-- Another row is stored into the mesh's own box. -/
theorem BSt.store {w wx w3 : World} {B : Nat} {R : Int} {u v v' : Value} {ys zs : List C3} (h : BSt w wx B R u ys v) (hg : wx.grownBy w3 none)
    (ho : w3.ownsRow w.heap.size 33 3 v' zs.length (flatC zs)) : BSt w ((w3.setCell ⟨B, 0, none⟩ (.int .i64 R)).setCell ⟨B, 1, none⟩ v') B R u zs v' := by
  have h3 := h.on hg
  have hl := h.lt
  have hs0 := grownBy_setC w3 B 0 (.int .i64 R)
  have hs1 := grownBy_setC (w3.setCell ⟨B, 0, none⟩ (.int .i64 R)) B 1 v'
  obtain ⟨hb, ho2, hg2⟩ := out_set (w := w) (R := R) (by omega) h3.b ho h3.gr
  exact ⟨(h3.m.kept hs0 (by simp; omega)).kept hs1 (by simp; omega), (h3.r.kept hs0 (by simp; omega)).kept hs1 (by simp; omega), hb, ho2, hg2, hl⟩
theorem BSt.reads {w wx : World} {B m cap : Nat} {R : Int} {u : Value} {a : Option Addr} {ys : List C3} (h : BSt w wx B R u ys (.slice a m cap)) (hm : ys.length = m) : Reads wx a m ys := by
  have hr := h.row
  rw [hm] at hr
  exact own_reads hr
theorem BSt.room {w wx : World} {B g m cap : Nat} {R : Int} {u : Value} {ys : List C3} (h : BSt w wx B R u ys (.slice (some ⟨g, 0, none⟩) m cap)) (hm : ys.length = m) : m ≤ cap := by
  have hr := h.row
  rw [hm] at hr
  exact (own_parts hr).2.1

set_option maxHeartbeats 4000000 in
theorem specBalance_is (R : Int) (g n cap : Nat) (xs : List C3) (w : World) (hr : Reads w (some ⟨g, 0, none⟩) n xs) (hn : n ≤ 1048576) :
    Calls Try.prog 32 #[.agg #[.int .i64 R, .slice (some ⟨g, 0, none⟩) n cap]] w fun e w' => ∃ v, e = .returned (.agg #[.int .i64 R, v]) ∧ w'.ownsRow w.heap.size 33 3 v (balOf R xs).length (flatC (balOf R xs)) ∧ w.grownBy w' none := by
  have HN := Lib.hid hn
  have HR := Lib.hid hr
  clear hr hn
  go_enter Try.func32, Try.ntmps32
  go_upto_region 1 with fail
  have HG0 := Lib.hid (show w.grownBy ((w.alloc (.cells #[.int .i64 R, .slice (some ⟨g, 0, none⟩) n cap] 26)).alloc (.cells #[.int .i64 0, .slice none 0 0] 26)) none from g_alloc (g_alloc (grown_refl _) _) _)
  have HX0 := Lib.hid ((MBox.new w R (.slice (some ⟨g, 0, none⟩) n cap)).alloc (.cells #[.int .i64 0, .slice none 0 0] 26))
  have hm := MBox.new (w.alloc (.cells #[.int .i64 R, .slice (some ⟨g, 0, none⟩) n cap] 26)) 0 (.slice none 0 0)
  rw [World.size_alloc] at hm
  have HM0 := Lib.hid hm
  clear hm
  have hsz : w.heap.size + 2 = ((w.alloc (.cells #[.int .i64 R, .slice (some ⟨g, 0, none⟩) n cap] 26)).alloc (.cells #[.int .i64 0, .slice none 0 0] 26)).heap.size := by simp
  have HR0 := Lib.hid (HR.out.on HG0.out)
  generalize (w.alloc (.cells #[.int .i64 R, .slice (some ⟨g, 0, none⟩) n cap] 26)).alloc (.cells #[.int .i64 0, .slice none 0 0] 26) = W0 at *
  have b0 := MBox.c0 HX0.out
  have b1 := MBox.c1 HX0.out
  go_upto_region 2 with (go_at_call 56; ((with_reducible refine (specCopy_is R g n cap xs _ HR0.out HN.out).mono ?_); rintro e w1 ⟨v, rfl, ho, hg⟩; obtain ⟨a1, cap1, rfl⟩ := own_shape ho; have HB := Lib.hid (bst_B hsz HG0.out HX0.out HM0.out hg (by rw [HR.out.len]; exact own_mono ho (by omega))); clear ho hg))
  obtain ⟨B, hB⟩ : ∃ B, B = w1.heap.size := ⟨_, rfl⟩
  rw [← hB] at HB ⊢
  obtain ⟨v, hv⟩ : ∃ v, v = Value.slice a1 n cap1 := ⟨_, rfl⟩
  rw [← hv] at HB ⊢
  generalize w1.alloc (.cells #[.int .i64 R, v] 26) = W1 at *
  clear HX0 HM0 HG0 HR0 hsz b0 b1 hB
  have hok : ∀ x, Reads x (some ⟨g, 0, none⟩) n xs → Calls Try.prog 20 #[.agg #[.int .i64 R, .slice (some ⟨g, 0, none⟩) n cap]] x fun e w' => e = .returned (.bool (meshOk R xs)) ∧ x.grownBy w' none := fun x h => specMeshOk_is R (some ⟨g, 0, none⟩) n cap xs x h HN.out
  have HOK := Lib.hid hok; clear hok
  have m0 := MBox.c0 HB.out.m
  have m1 := MBox.c1 HB.out.m
  have HRW := Lib.hid (HR.out.on HB.out.gr)
  cases hm : meshOk R xs with
  | false =>
    rw [hm] at HOK
    have hbal : balOf R xs = xs := by simp [balOf, hm]
    have HE := Lib.hid hbal
    clear hm hbal
    subst hv
    go_wp2_with (go_at_call 20; ((with_reducible refine (HOK.out _ HRW.out).mono ?_); rintro e w2 ⟨rfl, hg⟩; have hb := HB.out.on hg; have p0 := MBox.c0 hb.b; have p1 := MBox.c1 hb.b; have r0 := MBox.c0 hb.r; have r1 := MBox.c1 hb.r; have s0 := MBox.f0 hb.r; have s1 := MBox.f1 hb.r; have HB1 := Lib.hid hb; clear hg hb))
    obtain ⟨hm2, ho2, hg2⟩ := out_set (w := w) (R := R) (by omega) HB1.out.r HB1.out.row HB1.out.gr
    exact bodyPost_ret_by (results_cell_row (fn := Try.f32) rfl _ _ (w.heap.size + 1) _ _ (0, 0) _ rfl hm2 Try.underlying26 rfl (by kernel_rfl)) rfl ⟨_, rfl, by rw [HE.out]; exact ho2, hg2⟩
  | true =>
    rw [hm] at HOK
    have hbal : balOf R xs = bal 128 xs := by simp [balOf, hm]
    have HE := Lib.hid hbal
    have HM := Lib.hid hm
    have hfs : ∀ x (ys : List C3) a m cap', Reads x a m ys → meshOk R ys = true → Calls Try.prog 52 #[.agg #[.int .i64 R, .slice a m cap']] x fun e w' => e = .returned (.int .i64 (firstGap ys)) ∧ x.grownBy w' none := fun x ys a m cap' h h2 => specFirst_is R a m cap' ys x h (by have := mesh_parts h2; have := h.len; omega) h2
    have HFS := Lib.hid hfs; clear hfs
    clear hm hbal
    obtain ⟨ho, hl1, hl2⟩ := mesh_parts HM.out
    clear ho
    rcases HB.out.row.2 with ⟨-, h0⟩ | ⟨g1, cap1', cur, hv2, -⟩
    · omega
    subst hv2
    have p0 := MBox.c0 HB.out.b
    have p1 := MBox.c1 HB.out.b
    clear hv
    go_wp2_with (first
      | (go_at_call 20; ((with_reducible refine (HOK.out _ HRW.out).mono ?_); rintro e w2 ⟨rfl, hg⟩; have hb := HB.out.on hg; have p2 := MBox.c0 hb.b; have p3 := MBox.c1 hb.b; have HB1 := Lib.hid hb; clear hg hb))
      | (go_at_call 52; ((with_reducible refine (HFS.out _ xs _ _ _ (own_reads HB1.out.row) HM.out).mono ?_); rintro e w3 ⟨rfl, hg⟩; have HB2 := Lib.hid (HB1.out.on hg); clear hg)))
    go_loopg [4] 128 (fun k i wr => ∃ (q : Int) (ys : List C3) (m g2 cap2 : Nat), i = .int .i64 q ∧ Hid (q = firstGap ys) ∧ Hid (ys.length = m) ∧ Hid (BSt w wr B R (.slice (some ⟨g, 0, none⟩) n cap) ys (.slice (some ⟨g2, 0, none⟩) m cap2)) ∧ Hid (meshOk R ys = true ∧ 128 ≤ k + ys.length ∧ bal k ys = bal 128 xs))
    case atStart => exact ⟨_, xs, _, g1, cap1', rfl, Lib.hid rfl, Lib.hid rfl, HB2, Lib.hid ⟨HM.out, by omega, rfl⟩⟩
    case round =>
      clear HB2 HB1 HB HM HRW m0 m1 p0 p1 p2 p3
      obtain ⟨q, ys, m, g2, cap2, rfl, HI, HLM, HB, HP⟩ := hrel
      have p0 := MBox.c0 HB.out.b
      have p1 := MBox.c1 HB.out.b
      rcases first_cases ys with ⟨e, -⟩ | ⟨j, e, hgp, -⟩
      · obtain rfl : q = -1 := HI.out.trans e
        have hys : bal 128 xs = ys := HP.out.2.2.symm.trans (bal_done (by omega) _)
        have HY := Lib.hid (HE.out.trans hys)
        clear e hys
        have r0 := MBox.c0 HB.out.r
        have r1 := MBox.c1 HB.out.r
        have s0 := MBox.f0 HB.out.r
        have s1 := MBox.f1 HB.out.r
        go_wp2_with fail
        obtain ⟨hm2, ho2, hg2⟩ := out_set (w := w) (R := R) (by omega) HB.out.r HB.out.row HB.out.gr
        exact bodyPost_ret_by (results_cell_row (fn := Try.f32) rfl _ _ (w.heap.size + 1) _ _ (0, 0) _ rfl hm2 Try.underlying26 rfl (by kernel_rfl)) rfl ⟨_, rfl, by rw [HY.out]; exact ho2, hg2⟩
      · obtain rfl : q = j := HI.out.trans e
        obtain ⟨ho, hy1, hy2⟩ := mesh_parts HP.out.1
        obtain ⟨x, y, hx, hy, -⟩ := gapAt_in hgp
        obtain ⟨f', hf', q1, q2, q3⟩ := bal_more HP.out.1 HP.out.2.1 (by omega)
        have hbs : balStep ys = split2 ys (coarser ys j) := by unfold balStep; rw [e, Int.toNat_natCast]
        rw [hbs] at q1 q2 q3
        obtain ⟨xq, hxq, hl3⟩ := coarser_ok hgp ho
        have HX := Lib.hid hx
        have HYY := Lib.hid hy
        have HXQ := Lib.hid hxq
        have HOQ := Lib.hid (ho _ _ hxq)
        have HQ := Lib.hid (show meshOk R (split2 ys (coarser ys j)) = true ∧ 128 ≤ f' + (split2 ys (coarser ys j)).length ∧ bal f' (split2 ys (coarser ys j)) = bal 128 xs from ⟨q1, by have := HP.out.2.1; omega, by have h1 := HP.out.2.2; rw [q3] at h1; exact h1⟩)
        have HL := Lib.hid (show (split2 ys (coarser ys j)).length = m + 1 by rw [q2, HLM.out])
        have HF := Lib.hid hf'
        have hm3 : m ≤ 1000 := by have := HLM.out; omega
        have hl4 : xq.2.1 < 4 := by omega
        clear q1 q2 q3 hbs hxq hx hy ho e hgp hf' hl3
        go_upto_region 7 with fail
        go_region_with (first
          | (go_at_call 62; ((with_reducible refine (specCoarser_is R j (some ⟨g2, 0, none⟩) m cap2 ys _ _ _ ((HB.out.on (gr_drew (grown_refl _))).reads HLM.out) (by omega) HX.out HYY.out).mono ?_); rintro e w4 ⟨rfl, hg⟩; have hb4 := HB.out.on (grown_trans (gr_drew (grown_refl wr)) hg); have p4 := MBox.c0 hb4.b; have p5 := MBox.c1 hb4.b; have HB4 := Lib.hid hb4; clear hg hb4))
          | (go_at_call 57; ((with_reducible refine (specSplit_is R g2 m cap2 (coarser ys j) ys xq _ (HB4.out.reads HLM.out) hm3 (HB4.out.room HLM.out) HXQ.out HOQ.out hl4).mono ?_); rintro e w5 ⟨v5, rfl, ho5, hg5⟩; obtain ⟨g5, cap5, rfl⟩ := ownsRow_succ ho5; have hb5 := HB4.out.on hg5; have p6 := MBox.c0 hb5.b; have p7 := MBox.c1 hb5.b; have s6 := MBox.f0 hb5.b; have s7 := MBox.f1 hb5.b; have hS := HB4.out.store hg5 (by rw [HL.out]; exact own_mono ho5 HB4.out.gr.size); have p8 := MBox.c0 hS.b; have p9 := MBox.c1 hS.b; have HS := Lib.hid hS; clear hb5 ho5 hg5 hS)))
        all_goals go_wp2_with (go_at_call 52; ((with_reducible refine (HFS.out _ (split2 ys (coarser ys j)) _ _ _ (HS.out.reads HL.out) HQ.out.1).mono ?_); rintro e w6 ⟨rfl, hg⟩; have HB6 := Lib.hid (HS.out.on hg); clear hg))
        all_goals go_roundg f'
        all_goals first
          | exact ⟨_, _, _, _, _, rfl, Lib.hid rfl, HL, HB6, HQ⟩
          | (have := HF.out; omega)
end Go.Proofs.Ytmkmlfaekiofcaa.Mesh
