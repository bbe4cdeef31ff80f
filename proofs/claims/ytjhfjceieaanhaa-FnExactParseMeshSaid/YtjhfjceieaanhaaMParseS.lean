/- Meshes: ParseMesh of the reference model at every string, as a contract.
   Conditions: none. -/
import Derived.Test.YtjhfjceieaanhaaMParseI
import Derived.Test.YtjhfjceieaanhaaMNewS
import Derived.Test.YtjhfjceieaanhaaMFmtS
import Derived.Deep.RegionLaw
namespace Go.Proofs.Ytjhfjceieaanhaa.Mesh
open Go.ChangeShapes Go.WideShapes Go.ChangeAt Go.RowKit Go.Proofs.Ytjhfjceieaanhaa.Cell

theorem take_byte' {s : ByteArray} {k : Nat} (h : k < s.size) : s.data.toList.take (k + 1) = s.data.toList.take k ++ [s[k]] := by
  rw [List.take_add_one, List.getElem?_eq_getElem (by simpa using h)]; rfl
theorem sSt_next {s : ByteArray} {k : Nat} (h : k < s.size) : sSt (s.data.toList.take (k + 1)) = sStep (sSt (s.data.toList.take k)) s[k] := by
  rw [take_byte' h, sSt_app]; rfl
theorem sSt_stop (t u : List UInt8) (h : sSt t = none) : sSt (t ++ u) = none := by
  rw [sSt_app, h]
  induction u with
  | nil => rfl
  | cons b u ih => exact ih

set_option maxHeartbeats 4000000 in
theorem specParse_in (s : ByteArray) (h200 : s.size ≤ 200) (w : World) : Calls Try.prog 36 #[.string s] w (Answer (pR s.data.toList) (pC s.data.toList) (pOk s.data.toList) w) := by
  have hdat : s.data.toList.length = s.size := by simp
  have hsi : (s.size : Int) ≤ 200 := by omega
  have HD := Lib.hid hdat; clear hdat h200
  obtain ⟨i0, hi0, hz0, hz1, hz2⟩ := info_parts infoC
  go_enter Try.func36, Try.ntmps36
  go_wp2_with fail
  go_loopw [5, 6] (fun p q wr => ∃ (k : Nat) (R e : Int) (ys : List C3) (v : Value), (k : Int) ≤ s.size ∧ q = .int .i64 k ∧ p = .int .i64 e ∧ 0 ≤ e ∧ e ≤ 16 * k ∧ 1 ≤ R ∧ R ≤ k + 1 ∧ Hid (sSt (s.data.toList.take k) = some (R, e, ys)) ∧ Hid (ys.length ≤ k) ∧ Hid (Coll w wr R ys v)) (fun _ q _ => s.size - (intOf q).toNat)
  case atStart => exact ⟨0, 1, 0, [], _, by omega, rfl, rfl, by omega, by omega, by omega, by omega, Lib.hid rfl, Lib.hid (by simp), Lib.hid (Coll.start w 1)⟩
  case round =>
    obtain ⟨k, R, e, ys, v, hk, rfl, rfl, he0, he1, hR0, hR1, HS, HL, HC⟩ := hrel
    by_cases hlt : (k : Int) < s.size
    · have hks : k < s.size := by omega
      have h255 : (s[k].toNat : Int) ≤ 255 := by have := s[k].toNat_lt; omega
      have HN := Lib.hid (sSt_next hks)
      rw [HS.out] at HN
      have hc0 := HC.out.m1.c0
      have hf0 := HC.out.m1.f0
      by_cases h124 : s[k] = 124
      · have hq : (s[k].toNat : Int) = 124 := by rw [h124]; rfl
        go_wp2_with fail
        refine ⟨⟨k + 1, R + 1, 0, ys, v, by omega, by go_num, rfl, by omega, by omega, by omega, by omega, Lib.hid ?_, Lib.hid (by have := HL.out; omega), Lib.hid ?_⟩, by simp [intOf]; omega⟩
        · rw [HN.out, h124]; rfl
        · have hg := grownBy_setC wr (w.heap.size + 1) 0 (.int .i64 (R + 1))
          exact ⟨HC.out.m1.set0 _, HC.out.m0.kept hg (by simp), HC.out.row.kept hg (.inr (HC.out.m1.not_row HC.out.row).symm), g_set HC.out.gr _ _ _ (by omega)⟩
      · have hq : ¬ (s[k].toNat : Int) = 124 := fun e => h124 (UInt8.toNat_inj.1 (by have : (124 : UInt8).toNat = 124 := rfl; omega))
        obtain ⟨y0, y1⟩ := wd_bounds ((s[k].toNat : Int) - 48)
        have hbad : (widthOf ((s[k].toNat : Int) - 48) = 0 ∨ e % widthOf ((s[k].toNat : Int) - 48) ≠ 0) → pOk s.data.toList = false := fun hb => by
          refine spec_no fun R' a ys' hs => ?_
          have h1 : sSt (s.data.toList.take (k + 1)) = none := by
            rw [HN.out]; simp only [sStep, if_neg h124]; exact if_pos hb
          have h2 := sSt_stop (s.data.toList.take (k + 1)) (s.data.toList.drop (k + 1)) h1
          rw [List.take_append_drop, hs] at h2
          cases h2
        have HBD := Lib.hid hbad; clear hbad
        have d0 := MBox.c0 HC.out.m0
        have d1 := MBox.c1 HC.out.m0
        have f0 := MBox.f0 HC.out.m0
        have f1 := MBox.f1 HC.out.m0
        by_cases hw : widthOf ((s[k].toNat : Int) - 48) = 0
        · have H := Lib.hid (HBD.out (.inl hw))
          go_wp2_with (go_at_call 16; (with_reducible refine (specWidth_is _ _).mono ?_); rintro e w' ⟨rfl, hw'⟩; subst w')
          refine bodyPost_ret_by (results_row_tmp rfl _ _ w.heap.size _ _ (0, 0) _ rfl (MBox.set1 (MBox.set0 HC.out.m0 0) (.slice none 0 0)) Try.underlying26 rfl (by kernel_rfl)) rfl ?_
          exact (ans_bad H.out (g_set (g_set HC.out.gr _ _ _ (Nat.le_refl _)) _ _ _ (Nat.le_refl _)))
        · by_cases hm : e % widthOf ((s[k].toNat : Int) - 48) = 0
          · have hc1 := HC.out.m1.c1
            clear d0 d1 f0 f1
            go_upto_region 12 with (go_at_call 16; (with_reducible refine (specWidth_is _ _).mono ?_); rintro e w' ⟨rfl, hw'⟩; subst w')
            have ew1 : IntKind.i64.wrap (R - 1) = R - 1 := IntWalk.i64_in _ (by omega)
            have ew2 : IntKind.i64.wrap (IntKind.i64.wrap (s[k].toNat : Int) - 48) = (s[k].toNat : Int) - 48 := by
              have e0 : IntKind.i64.wrap (s[k].toNat : Int) = (s[k].toNat : Int) := IntWalk.i64_in _ (by omega)
              rw [e0, IntWalk.i64_in _ (by omega)]
            have hdv : 0 ≤ e / widthOf ((s[k].toNat : Int) - 48) ∧ e / widthOf ((s[k].toNat : Int) - 48) ≤ e := ⟨Int.ediv_nonneg he0 y0, Int.ediv_le_self _ he0⟩
            have ew3 : IntKind.i64.wrap (e.tdiv (widthOf ((s[k].toNat : Int) - 48))) = e / widthOf ((s[k].toNat : Int) - 48) := by rw [Int.tdiv_eq_ediv_of_nonneg he0, IntWalk.i64_in _ (by omega)]
            have EW := Lib.hid (And.intro ew1 (And.intro ew2 ew3)); clear ew1 ew2 ew3 hdv
            have hca : ∀ o, (wr.alloc o).cell? ⟨w.heap.size + 1, 1, none⟩ = some v := fun o => (World.grownBy_alloc wr o none).cell hc1 (by simp)
            have hcb : ∀ o, (wr.alloc o).cell? ⟨w.heap.size + 1, 0, none⟩ = some (.int .i64 R) := fun o => (World.grownBy_alloc wr o none).cell hc0 (by simp)
            go_region_law
              ((refine step_append_lies _ (by rfl) _ _ _ (by rfl) w.heap.size 30 i0 _ 3 24 Try.underlying24 hi0 hz0 hz1 hz2 rfl (by omega) _ _ _ (by rfl) (by first | exact (HC.out.row.alloc _).drew | exact (HC.out.row.drew).alloc _ | exact (HC.out.row.drew.alloc _).drew | exact HC.out.row.alloc _) ⟨wr.heap.size, 0, none⟩ 1 1 [.int .i64 (IntKind.i64.wrap (R - 1)), .int .i64 (IntKind.i64.wrap (IntKind.i64.wrap (s[k].toNat : Int) - 48)), .int .i64 (IntKind.i64.wrap (e.tdiv (widthOf ((s[k].toNat : Int) - 48))))] (by rfl) (by rfl) (World.news_of_block (cs := #[.int .i64 (IntKind.i64.wrap (R - 1)), .int .i64 (IntKind.i64.wrap (IntKind.i64.wrap (s[k].toNat : Int) - 48)), .int .i64 (IntKind.i64.wrap (e.tdiv (widthOf ((s[k].toNat : Int) - 48))))]) (t := 30) (fr := (0, 0)) (by first | exact heap_alloc_new wr _ | exact heap_alloc_new wr.drew _)) (by simp [Value.oneCell']) (by omega) (by have := HL.out; unfold maxLen; omega) (by have := HL.out; omega) (by have := HC.out.gr.size; simp; omega) (wr.heap.size + 1) (by simp) ?_; intro gg cap w1 hown1 hgrow hat hlt2; have hgg : (wr.alloc (.cells #[.int .i64 (IntKind.i64.wrap (R - 1)), .int .i64 (IntKind.i64.wrap (IntKind.i64.wrap (s[k].toNat : Int) - 48)), .int .i64 (IntKind.i64.wrap (e.tdiv (widthOf ((s[k].toNat : Int) - 48))))] 30)).grownBy w1 v.ownBlock := ⟨hgrow.os, hgrow.tape, hgrow.output, hgrow.size, hgrow.block⟩; have hap := HC.out.m1.appended HC.out.row HC.out.gr.size (Nat.le_succ _) hown1 hgg; have hd0 := hap.1.c0; have hd1 := hap.1.c1; have hf1 := hap.1.f1; have HAP := Lib.hid hap; clear hap hown1 hgrow hgg hat hlt2))
            all_goals go_wp2_with fail
            all_goals
              refine ⟨⟨k + 1, R, e + widthOf ((s[k].toNat : Int) - 48), ys ++ [(R - 1, (s[k].toNat : Int) - 48, e / widthOf ((s[k].toNat : Int) - 48))], .slice (some ⟨gg, 0, none⟩) (ys.length + 1) cap, by omega, by go_num, by go_num, by omega, by omega, by omega, by omega, Lib.hid ?_, Lib.hid (by have := HL.out; simp; omega), Lib.hid ?_⟩, by simp [intOf]; omega⟩
              · rw [HN.out]
                simp only [sStep, if_neg h124]
                exact if_neg (fun hor => hor.elim hw (fun h => h hm))
              · obtain ⟨-, p2, p3, -, p5, p6⟩ := HAP.out
                have hg := grown_of_below' (Below.trans (grown_below HC.out.gr (Nat.le_refl _)) p5)
                rw [EW.out.1, EW.out.2.1, EW.out.2.2] at p3
                exact ⟨p2, (p6 _ (MBox.lt HC.out.m0) (MBox.not_row HC.out.m0 HC.out.row) (by omega)).trans HC.out.m0, by rw [flatC_snoc, List.length_append]; exact p3, hg⟩
          · have H := Lib.hid (HBD.out (.inr hm))
            have hm2 : (e % widthOf ((s[k].toNat : Int) - 48) != 0) = true := by simpa using hm
            go_wp2_with (go_at_call 16; (with_reducible refine (specWidth_is _ _).mono ?_); rintro e w' ⟨rfl, hw'⟩; subst w')
            refine bodyPost_ret_by (results_row_tmp rfl _ _ w.heap.size _ _ (0, 0) _ rfl (MBox.set1 (MBox.set0 HC.out.m0 0) (.slice none 0 0)) Try.underlying26 rfl (by kernel_rfl)) rfl ?_
            exact (ans_bad H.out (g_set (g_set HC.out.gr _ _ _ (Nat.le_refl _)) _ _ _ (Nat.le_refl _)))
    · obtain rfl : k = s.size := by omega
      have ht : s.data.toList.take s.size = s.data.toList := List.take_of_length_le (by have := HD.out; omega)
      have hS := HS.out
      rw [ht] at hS
      have HT := Lib.hid hS; clear hS ht
      obtain ⟨a, cap, rfl⟩ := own_form HC.out.row
      have hc0 := HC.out.m1.c0
      have hc1 := HC.out.m1.c1
      have d0 := MBox.c0 HC.out.m0
      have d1 := MBox.c1 HC.out.m0
      have f0 := MBox.f0 HC.out.m0
      have f1 := MBox.f1 HC.out.m0
      have HXC := Lib.hid HC.out
      by_cases h0 : s.size = 0
      · have he : s.toList.isEmpty = true := by
          rw [ByteArray.toList_eq, List.isEmpty_iff]; exact List.eq_nil_of_length_eq_zero (by have := HD.out; omega)
        have H := Lib.hid (show pOk s.data.toList = false from decide_eq_false fun e => e.1 (List.eq_nil_of_length_eq_zero (by have := HD.out; omega)))
        go_wp2_with fail
        refine bodyPost_ret_by (results_row_tmp rfl _ _ w.heap.size _ _ (0, 0) _ rfl (MBox.set1 (MBox.set0 HC.out.m0 0) (.slice none 0 0)) Try.underlying26 rfl (by kernel_rfl)) rfl ?_
        exact (ans_bad H.out (g_set (g_set HC.out.gr _ _ _ (Nat.le_refl _)) _ _ _ (Nat.le_refl _)))
      · have hnn : s.data.toList ≠ [] := fun e => by have := HD.out; rw [e] at this; simp at this; omega
        have he : s.toList.isEmpty = false := by
          rw [ByteArray.toList_eq]
          cases h : s.data.toList with
          | nil => exact absurd h hnn
          | cons a r => rfl
        obtain ⟨F, hF⟩ : ∃ F : ByteArray, F = ⟨(fmtOf R ys).toArray⟩ := ⟨_, rfl⟩
        have HF := Lib.hid hF
        have hln : ys.length ≤ 1048576 := by have := HL.out; omega
        have HLN := Lib.hid hln; clear hln
        have HNN := Lib.hid hnn; clear hnn
        clear d0 d1 f0 f1
        by_cases hFs : F = s
        · have hcmp := str_same hFs
          have hok : fmtOf R ys = s.data.toList := by rw [← hFs, hF]
          have HP := Lib.hid (spec_yes HNN.out hok); clear hok hF
          go_wp2_with (go_at_call 35; (with_reducible refine (specFmt_is R a ys.length cap ys _ (own_reads HXC.out.row) HLN.out).mono ?_); rw [← HF.out]; rintro e' w1 ⟨rfl, hg⟩; have hm0 := MBox.kept HXC.out.m0 hg (by simp); have hm1 := HXC.out.m1.kept hg (by simp); have d0 := MBox.c0 hm0; have d1 := MBox.c1 hm0; have f0 := MBox.f0 hm0; have f1 := MBox.f1 hm0; have g0 := MBox.c0 hm1; have g1 := MBox.c1 hm1; have HM0 := Lib.hid hm0; have HG1 := Lib.hid hg; clear hm0 hm1 hg)
          have hrow1 := own_on HXC.out.row HG1.out
          have hg1 := grownBy_setC w1 w.heap.size 0 (.int .i64 R)
          have hg2 := grownBy_setC (w1.setCell ⟨w.heap.size, 0, none⟩ (.int .i64 R)) w.heap.size 1 (.slice a ys.length cap)
          have ho1 := hrow1.kept hg1 (.inr (MBox.not_row HM0.out hrow1).symm)
          have ho2 := ho1.kept hg2 (.inr (MBox.not_row (MBox.set0 HM0.out R) ho1).symm)
          refine bodyPost_ret_by (results_row_tmp rfl _ _ w.heap.size _ _ (0, 0) _ rfl (MBox.set1 (MBox.set0 HM0.out R) _) Try.underlying26 rfl (by kernel_rfl)) rfl ?_
          obtain ⟨q1, q2, q3⟩ := HP.out
          rw [q1, q2, q3]
          exact ⟨a, cap, rfl, ho2, g_set (g_set (grown_trans HXC.out.gr HG1.out) _ _ _ (Nat.le_refl _)) _ _ _ (Nat.le_refl _)⟩
        · have hcmp := str_other hFs
          have hpok : pOk s.data.toList = false := spec_no fun R' a' ys' hs _ hf => hFs (by
            rw [HT.out] at hs
            cases hs
            rw [hF, hf])
          have H := Lib.hid hpok
          clear hpok hF
          go_wp2_with (go_at_call 35; (with_reducible refine (specFmt_is R a ys.length cap ys _ (own_reads HXC.out.row) HLN.out).mono ?_); rw [← HF.out]; rintro e' w1 ⟨rfl, hg⟩; have hm0 := MBox.kept HXC.out.m0 hg (by simp); have hm1 := HXC.out.m1.kept hg (by simp); have d0 := MBox.c0 hm0; have d1 := MBox.c1 hm0; have f0 := MBox.f0 hm0; have f1 := MBox.f1 hm0; have HM0 := Lib.hid hm0; have HG1 := Lib.hid hg; clear hm0 hm1 hg)
          refine bodyPost_ret_by (results_row_tmp rfl _ _ w.heap.size _ _ (0, 0) _ rfl (MBox.set1 (MBox.set0 HM0.out 0) (.slice none 0 0)) Try.underlying26 rfl (by kernel_rfl)) rfl ?_
          exact (ans_bad H.out (g_set (g_set (grown_trans HXC.out.gr HG1.out) _ _ _ (Nat.le_refl _)) _ _ _ (Nat.le_refl _)))
end Go.Proofs.Ytjhfjceieaanhaa.Mesh
