/- Meshes: the program's Balance, as a contract: the balanced mesh, in memory of its own; nothing that was there is written.
   Conditions: at most 2^20 leaves. -/
import Derived.Test.YtmkmlfaekiofcaaMBalI
import Derived.Test.YtmkmlfaekiofcaaMClone
import Derived.Deep.LoopGhost
import Derived.WalkMore
namespace Go.Proofs.Ytmkmlfaekiofcaa.Mesh
open Go.ChangeShapes Go.WideShapes Go.ChangeAt Go.RowKit Go.Proofs.Ytmkmlfaekiofcaa.Cell

theorem bal_more {R : Int} {ys : List C3} {f : Nat} (h : meshOk R ys = true) (hf : 128 ≤ f + ys.length) (hg : ¬ firstGap ys < 0) :
    ∃ f', f = f' + 1 ∧ meshOk R (balStep ys) = true ∧ (balStep ys).length = ys.length + 1 ∧ bal f ys = bal f' (balStep ys) := by
  obtain ⟨h1, h2⟩ := step_ok h hg
  obtain ⟨-, -, h3⟩ := mesh_parts h1
  obtain ⟨f', rfl⟩ : ∃ f', f = f' + 1 := ⟨f - 1, by omega⟩
  exact ⟨f', rfl, h1, h2, bal_next hg f'⟩

/-- A mesh that is being balanced: the argument's box, the answer's box, the mesh's own box, its row. -/
structure BSt (w wx : World) (B : Nat) (R : Int) (u : Value) (ys : List C3) (v : Value) : Prop where
  m : MBox wx w.heap.size R u
  r : MBox wx (w.heap.size + 1) 0 (.slice none 0 0)
  b : MBox wx B R v
  row : wx.ownsRow w.heap.size 33 3 v ys.length (flatC ys)
  gr : w.grownBy wx none
  lt : w.heap.size + 1 < B

theorem BSt.on {w wx wy : World} {B : Nat} {R : Int} {u v : Value} {ys : List C3} (h : BSt w wx B R u ys v) (hg : wx.grownBy wy none) : BSt w wy B R u ys v :=
  ⟨h.m.kept hg (by simp), h.r.kept hg (by simp), h.b.kept hg (by simp), h.row.kept hg (by cases v.ownBlock <;> simp), grown_trans h.gr hg, h.lt⟩
/-- A leaf is split, the row stored. -/
theorem BSt.split {w wx w3 : World} {B g n cap : Nat} {R : Int} {u v' : Value} {ys zs : List C3} (h : BSt w wx B R u ys (.slice (some ⟨g, 0, none⟩) n cap)) (hg : wx.grownBy w3 (some g))
    (ho : w3.ownsRow w.heap.size 33 3 v' zs.length (flatC zs)) : BSt w (w3.setCell ⟨B, 1, none⟩ v') B R u zs v' := by
  have hm := h.m.kept hg (h.m.not_row h.row)
  have hr := h.r.kept hg (h.r.not_row h.row)
  have hb := h.b.kept hg (h.b.not_row h.row)
  have hl := h.lt
  have hs := grownBy_setC w3 B 1 v'
  exact ⟨hm.kept hs (by simp; omega), hr.kept hs (by simp; omega), MBox.set1 hb v', ho.kept hs (.inr (MBox.not_row hb ho).symm), g_set (grown_above hg (h.row.lt g rfl).1 h.gr) _ _ _ (by omega), hl⟩
theorem bst_of {w W0 wf : World} {B : Nat} {R : Int} {u v : Value} {xs : List C3} (hsz : w.heap.size + 2 ≤ B) (hg : w.grownBy W0 none) (hx : MBox W0 w.heap.size R u) (hm : MBox W0 (w.heap.size + 1) 0 (.slice none 0 0))
    (hG : W0.grownBy wf none) (hb : MBox wf B R v) (ho : wf.ownsRow w.heap.size 33 3 v xs.length (flatC xs)) : BSt w wf B R u xs v :=
  ⟨hx.kept hG (by simp), hm.kept hG (by simp), hb, ho, grown_trans hg hG, by omega⟩
theorem bst_A {w W0 w1 : World} {R : Int} {u v : Value} {xs : List C3} (hsz : w.heap.size + 2 = W0.heap.size) (hg : w.grownBy W0 none) (hx : MBox W0 w.heap.size R u) (hm : MBox W0 (w.heap.size + 1) 0 (.slice none 0 0))
    (hG : W0.grownBy w1 none) (hq : MBox w1 W0.heap.size 0 (.slice none 0 0)) (ho : w1.ownsRow w.heap.size 33 3 v xs.length (flatC xs)) :
    BSt w ((w1.setCell ⟨W0.heap.size, 0, none⟩ (.int .i64 R)).setCell ⟨W0.heap.size, 1, none⟩ v) W0.heap.size R u xs v := by
  obtain ⟨h1, h2, h3⟩ := out_set (w := W0) (R := R) (Nat.le_refl _) hq ho hG
  exact bst_of (by omega) hg hx hm h3 h1 h2
theorem bst_B {w W0 w1 : World} {R : Int} {u v : Value} {xs : List C3} (hsz : w.heap.size + 2 = W0.heap.size) (hg : w.grownBy W0 none) (hx : MBox W0 w.heap.size R u) (hm : MBox W0 (w.heap.size + 1) 0 (.slice none 0 0))
    (hG : W0.grownBy w1 none) (ho : w1.ownsRow w.heap.size 33 3 v xs.length (flatC xs)) :
    BSt w (w1.alloc (.cells #[.int .i64 R, v] 26)) w1.heap.size R u xs v :=
  bst_of (by have := hG.size; omega) hg hx hm (g_alloc hG _) (MBox.new w1 R v) (ho.alloc _)

theorem own_low {w : World} {base base' n : Nat} {v : Value} {xs : List Value} (h : w.ownsRow base 33 3 v n xs) (hb : base' ≤ base) : w.ownsRow base' 33 3 v n xs := by
  refine ⟨h.1, ?_⟩
  rcases h.2 with ⟨h1, h2⟩ | ⟨g, cap, cur, h1, h2, h3⟩
  · exact .inl ⟨h1, h2⟩
  · exact .inr ⟨g, cap, cur, h1, Nat.le_trans hb h2, h3⟩

set_option maxHeartbeats 4000000 in
theorem balance_is (R : Int) (g n cap : Nat) (xs : List C3) (w : World) (hr : Reads w (some ⟨g, 0, none⟩) n xs) (hn : n ≤ 1048576) :
    Calls Try.prog 33 #[.agg #[.int .i64 R, .slice (some ⟨g, 0, none⟩) n cap]] w fun e w' => ∃ v, e = .returned (.agg #[.int .i64 R, v]) ∧ w'.ownsRow w.heap.size 33 3 v (balOf R xs).length (flatC (balOf R xs)) ∧ w.grownBy w' none := by
  have HN := Lib.hid hn
  have HR := Lib.hid hr
  clear hr hn
  go_enter Try.func33, Try.ntmps33
  go_wp2
  have HG0 := Lib.hid (show w.grownBy ((w.alloc (.cells #[.int .i64 R, .slice (some ⟨g, 0, none⟩) n cap] 26)).alloc (.cells #[.int .i64 0, .slice none 0 0] 26)) none from g_alloc (g_alloc (grown_refl _) _) _)
  have HX0 := Lib.hid ((MBox.new w R (.slice (some ⟨g, 0, none⟩) n cap)).alloc (.cells #[.int .i64 0, .slice none 0 0] 26))
  have hm := MBox.new (w.alloc (.cells #[.int .i64 R, .slice (some ⟨g, 0, none⟩) n cap] 26)) 0 (.slice none 0 0)
  rw [World.size_alloc] at hm
  have HM0 := Lib.hid hm
  clear hm
  have hsz : w.heap.size + 2 = ((w.alloc (.cells #[.int .i64 R, .slice (some ⟨g, 0, none⟩) n cap] 26)).alloc (.cells #[.int .i64 0, .slice none 0 0] 26)).heap.size := by simp
  have HR0 := Lib.hid (HR.out.on HG0.out)
  generalize (w.alloc (.cells #[.int .i64 R, .slice (some ⟨g, 0, none⟩) n cap] 26)).alloc (.cells #[.int .i64 0, .slice none 0 0] 26) = W0 at *
  have b0 := MBox.c0 HX0.out
  have b1 := MBox.c1 HX0.out
  go_step3
  go_upto_region 2 with (go_at_call 42; ((with_reducible refine (mclone_is R g n cap xs _ HR0.out HN.out).mono ?_); rintro e w1 ⟨v, rfl, ho, hg⟩; obtain ⟨a', cap', rfl⟩ := own_shape ho; have HO1 := Lib.hid (own_low ho (show w.heap.size ≤ W0.heap.size by omega)); have HG1 := Lib.hid hg; clear ho hg))
  have HB := Lib.hid (bst_B (v := .slice a' n cap') hsz HG0.out HX0.out HM0.out HG1.out (by rw [HR.out.len]; exact HO1.out))
  clear HX0 HM0 HG0 HR0 hsz b0 b1 HO1 HG1
  generalize w1.alloc (.cells #[.int .i64 R, .slice a' n cap'] 26) = wx at *
  generalize Value.slice a' n cap' = v at *
  generalize w1.heap.size = B at *
  have hok : ∀ x, Reads x (some ⟨g, 0, none⟩) n xs → Calls Try.prog 45 #[.agg #[.int .i64 R, .slice (some ⟨g, 0, none⟩) n cap]] x fun e w' => e = .returned (.bool (meshOk R xs)) ∧ x.grownBy w' none := fun x h => meshOk_is R (some ⟨g, 0, none⟩) n cap xs x h HN.out
  have HOK := Lib.hid hok; clear hok
  have m0 := MBox.c0 HB.out.m
  have m1 := MBox.c1 HB.out.m
  have HRW := Lib.hid (HR.out.on HB.out.gr)
  cases hm : meshOk R xs with
  | false =>
    rw [hm] at HOK
    have hbal : balOf R xs = xs := by simp [balOf, hm]
    have HE := Lib.hid hbal
    clear hm hbal
    obtain ⟨a, cap2, rfl⟩ := own_shape HB.out.row
    go_wp2_with (go_at_call 45; ((with_reducible refine (HOK.out _ HRW.out).mono ?_); rintro e w1 ⟨rfl, hg⟩; have hb := HB.out.on hg; have p0 := MBox.c0 hb.b; have p1 := MBox.c1 hb.b; have r0 := MBox.c0 hb.r; have r1 := MBox.c1 hb.r; have s0 := MBox.f0 hb.r; have s1 := MBox.f1 hb.r; have HB1 := Lib.hid hb; clear hg hb))
    rw [Exit.noGoto_ret]
    obtain ⟨hm2, ho2, hg2⟩ := out_set (w := w) (R := R) (by omega) HB1.out.r HB1.out.row HB1.out.gr
    exact bodyPost_ret_by (results_cell_row (fn := Try.f33) rfl _ _ (w.heap.size + 1) _ _ (0, 0) _ rfl hm2 Try.underlying26 rfl (by kernel_rfl)) rfl ⟨_, rfl, by rw [HE.out]; exact ho2, hg2⟩
  | true =>
    rw [hm] at HOK
    have hbal : balOf R xs = bal 128 xs := by simp [balOf, hm]
    have HE := Lib.hid hbal
    have HM := Lib.hid hm
    clear hm hbal
    go_wp2_with (go_at_call 45; ((with_reducible refine (HOK.out _ HRW.out).mono ?_); rintro e w1 ⟨rfl, hg⟩; have HB1 := Lib.hid (HB.out.on hg); clear hg))
    go_step3
    go_wp2_with fail
    go_loopg [] 128 (fun k wr => ∃ ys v, Hid (BSt w wr B R (.slice (some ⟨g, 0, none⟩) n cap) ys v) ∧ Hid (meshOk R ys = true ∧ 128 ≤ k + ys.length ∧ bal k ys = bal 128 xs))
    case atStart => exact ⟨xs, v, HB1, Lib.hid ⟨HM.out, by omega, rfl⟩⟩
    case round =>
      clear HB1 HM HB HRW m0 m1
      obtain ⟨ys, v, HB, HP⟩ := hrel
      obtain ⟨ko, hko⟩ : ∃ k, k = gk := ⟨_, rfl⟩
      have HKO := Lib.hid hko
      obtain ⟨ho, hl1, hl2⟩ := mesh_parts HP.out.1
      have HO := Lib.hid ho; clear ho hko
      rcases HB.out.row.2 with ⟨-, h0⟩ | ⟨g2, cap2, cur, rfl, -⟩
      · omega
      have p1 := MBox.c1 HB.out.b
      go_wp2_with fail
      go_loopg [15] (ys.length - 1) (fun k2 i wy => ∃ j : Nat, j + 1 + k2 = ys.length ∧ i = .int .i64 j ∧ Hid (∀ j', j' < j → gapAt ys j' = false) ∧ Hid (BSt w wy B R (.slice (some ⟨g, 0, none⟩) n cap) ys (.slice (some ⟨g2, 0, none⟩) ys.length cap2)))
      case atStart => exact ⟨0, by omega, rfl, Lib.hid (fun j hj => by omega), HB⟩
      case round =>
        clear HB p1
        obtain ⟨j, hj, rfl, HF, HB⟩ := hrel
        have p0 := MBox.c0 HB.out.b
        have p1 := MBox.c1 HB.out.b
        by_cases hlt : (j : Int) < (ys.length : Int) - 1
        · have HRD := Lib.hid (own_reads HB.out.row)
          obtain ⟨r, l, i, hx⟩ := get_of_lt HRD.out.len (k := j) (by omega)
          obtain ⟨r', l', i', hy⟩ := get_of_lt HRD.out.len (k := j + 1) (by omega)
          have HC := Lib.hid (uneven_is j (some ⟨g2, 0, none⟩) ys.length cap2 ys _ _ wr HRD.out (by omega) hx hy (HO.out _ _ hx) (HO.out _ _ hy))
          have HX := Lib.hid hx
          have HY := Lib.hid hy
          have hgp := gapAt_of hx hy
          clear hx hy
          cases hb : gap (r, l, i) (r', l', i') with
          | true =>
            rw [hb] at HC hgp
            have HGP := Lib.hid hgp
            have HBB := Lib.hid hb
            clear hgp hb
            go_wp2_with (go_at_call 63; ((with_reducible refine HC.out.mono ?_); rintro e w2 ⟨rfl, hg⟩; have HB2 := Lib.hid (HB.out.on hg); clear hg))
            have hfg : firstGap ys = j := first_hit HGP.out HF.out
            obtain ⟨f', hf', q1, q2, q3⟩ := bal_more HP.out.1 (by rw [HKO.out]; exact HP.out.2.1) (f := ko) (by omega)
            have hbs : balStep ys = split2 ys (coarser ys j) := by unfold balStep; rw [hfg, Int.toNat_natCast]
            rw [hbs] at q1 q2 q3
            obtain ⟨xq, hxq, -⟩ := coarser_ok HGP.out HO.out
            have HXQ := Lib.hid hxq
            have HQ := Lib.hid (show meshOk R (split2 ys (coarser ys j)) = true ∧ 128 ≤ f' + (split2 ys (coarser ys j)).length ∧ bal f' (split2 ys (coarser ys j)) = bal 128 xs from ⟨q1, by have := HP.out.2.1; have := HKO.out; omega, by have h1 := HP.out.2.2; rw [← HKO.out, q3] at h1; exact h1⟩)
            have HL := Lib.hid q2
            have hkl : coarser ys j < ys.length := (List.getElem?_eq_some_iff.1 hxq).1
            clear hfg q1 q2 q3 hbs hxq
            have p2 := MBox.c1 HB2.out.b
            go_region_with (first
              | (go_at_call 64; ((with_reducible refine (coarser_is j (some ⟨g2, 0, none⟩) ys.length cap2 ys _ _ _ (own_reads (HB2.out.on (gr_drew (grown_refl _))).row) (by omega) HX.out HY.out HBB.out).mono ?_); rintro e w3 ⟨rfl, hg⟩; have hb3 := HB2.out.on (grown_trans (gr_drew (grown_refl w2)) hg); have p3 := MBox.c1 hb3.b; have HB3 := Lib.hid hb3; clear hg hb3))
              | (go_at_call 43; ((with_reducible refine (splitLeaf_is w.heap.size g2 ys.length cap2 (coarser ys j) ys xq _ HB3.out.row HXQ.out (HO.out _ _ HXQ.out) (by omega) HB3.out.gr.size).mono ?_); rintro e w4 ⟨g4, cap4, rfl, ho4, hg4⟩; have hb4 := HB3.out.b.kept hg4 (HB3.out.b.not_row HB3.out.row); have p4 := MBox.c1 hb4; have s4 := MBox.f1 hb4; have HS := Lib.hid (HB3.out.split hg4 (by rw [HL.out]; exact ho4)); clear hb4 ho4 hg4)))
            all_goals go_wp2_with fail
            all_goals go_roundg f'
            all_goals first
              | exact ⟨_, _, HS, HQ⟩
              | (have := HKO.out; omega)
          | false =>
            rw [hb] at HC hgp
            have HGP := Lib.hid hgp
            clear hgp hb
            go_wp2_with (go_at_call 63; ((with_reducible refine HC.out.mono ?_); rintro e w2 ⟨rfl, hg⟩; have HB2 := Lib.hid (HB.out.on hg); clear hg))
            go_roundg (gk - 1)
            case measure => omega
            case rel => exact ⟨j + 1, by omega, by go_num, Lib.hid (fun j' hj' => by
              by_cases h : j' < j
              · exact HF.out j' h
              · obtain rfl : j' = j := by omega
                exact HGP.out), HB2⟩
        · have hq := HP.out
          have hfg : firstGap ys = -1 := first_none (xs := ys) (fun j' => by
            by_cases h : j' < j
            · exact HF.out j' h
            · exact gapAt_out (by omega))
          have hys : bal 128 xs = ys := hq.2.2.symm.trans (bal_done (by omega) _)
          have HY := Lib.hid (HE.out.trans hys)
          clear hq hfg hys
          have r0 := MBox.c0 HB.out.r
          have r1 := MBox.c1 HB.out.r
          have s0 := MBox.f0 HB.out.r
          have s1 := MBox.f1 HB.out.r
          go_wp2_with fail
          obtain ⟨hm2, ho2, hg2⟩ := out_set (w := w) (R := R) (by omega) HB.out.r HB.out.row HB.out.gr
          exact bodyPost_ret_by (results_cell_row (fn := Try.f33) rfl _ _ (w.heap.size + 1) _ _ (0, 0) _ rfl hm2 Try.underlying26 rfl (by kernel_rfl)) rfl ⟨_, rfl, by rw [HY.out]; exact ho2, hg2⟩
end Go.Proofs.Ytmkmlfaekiofcaa.Mesh
