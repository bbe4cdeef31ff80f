/- Meshes: l06Merge, RefineLeaf and CoarsenPair of the reference model, as contracts: the changed mesh or the mesh itself, in memory of its own; nothing that was there is written.
   Conditions: at most 2^20 leaves. -/
import Derived.Test.YtmkmlfaekiofcaaMMayS
import Derived.Test.YtmkmlfaekiofcaaMCoI
namespace Go.Proofs.Ytmkmlfaekiofcaa.Mesh
open Go.ChangeShapes Go.WideShapes Go.ChangeAt Go.RowKit Go.Proofs.Ytmkmlfaekiofcaa.Cell

theorem specPar_to (x p : C3) (h : okOf x = true) (hl : 1 ≤ x.2.1) (hp : parOf x = p) (w : World) :
    Calls Try.prog 79 #[.agg #[.int .i64 x.1, .int .i64 x.2.1, .int .i64 x.2.2]] w fun e w' =>
      e = .returned (.tuple #[.agg #[.int .i64 p.1, .int .i64 p.2.1, .int .i64 p.2.2], .bool true]) ∧ w.grownBy w' none := by
  subst hp
  exact specParent_yes x.1 x.2.1 x.2.2 h (by omega) w

set_option maxHeartbeats 4000000 in
theorem specMerge_is (R : Int) (g n cap k : Nat) (xs : List C3) (x : C3) (w : World) (hr : Reads w (some ⟨g, 0, none⟩) n xs) (hn : n ≤ 1000) (hcap : n ≤ cap) (hx : xs[k]? = some x) (ho : okOf x = true) (hl : 1 ≤ x.2.1) (hk2 : k + 2 ≤ n) :
    Calls Try.prog 61 #[.agg #[.int .i64 R, .slice (some ⟨g, 0, none⟩) n cap], .int .i64 k] w fun e w' => ∃ v, e = .returned (.agg #[.int .i64 R, v]) ∧ w'.ownsRow w.heap.size 33 3 v (k + 1 + (n - (k + 2))) (flatC (merge2 xs k)) ∧ w.grownBy w' none := by
  obtain ⟨i0, hi0, hz0, hz1, hz2⟩ := info_parts infoIdR
  have HS := Lib.hid (merge2_of hx)
  obtain ⟨p0, hp0⟩ : ∃ p, parOf x = p := ⟨_, rfl⟩
  rw [hp0] at HS
  have HP0 := Lib.hid (specPar_to x p0 ho hl hp0)
  obtain ⟨r, l, i⟩ := x
  have hki : (k : Int) < n := by omega
  have hni : (n : Int) ≤ 1000 := by omega
  have hnc : (n : Int) ≤ cap := by omega
  have hkc : (k : Int) ≤ cap := by omega
  have HX := Lib.hid hx
  have HR := Lib.hid hr
  have HLN := Lib.hid hr.len
  clear hx ho hl hp0 hr
  go_enter Try.func61, Try.ntmps61
  go_upto_region 1 with fail
  have HG0 := Lib.hid (show w.grownBy ((w.alloc (.cells #[.int .i64 R, .slice (some ⟨g, 0, none⟩) n cap] 26)).alloc (.cells #[.int .i64 0, .slice none 0 0] 26)) none from g_alloc (g_alloc (grown_refl _) _) _)
  have HX0 := Lib.hid ((MBox.new w R (.slice (some ⟨g, 0, none⟩) n cap)).alloc (.cells #[.int .i64 0, .slice none 0 0] 26))
  have hm := MBox.new (w.alloc (.cells #[.int .i64 R, .slice (some ⟨g, 0, none⟩) n cap] 26)) 0 (.slice none 0 0)
  rw [World.size_alloc] at hm
  have HM0 := Lib.hid hm
  clear hm
  have hsz : w.heap.size + 2 = ((w.alloc (.cells #[.int .i64 R, .slice (some ⟨g, 0, none⟩) n cap] 26)).alloc (.cells #[.int .i64 0, .slice none 0 0] 26)).heap.size := by simp
  have HR0 := Lib.hid (HR.out.on HG0.out)
  generalize (w.alloc (.cells #[.int .i64 R, .slice (some ⟨g, 0, none⟩) n cap] 26)).alloc (.cells #[.int .i64 0, .slice none 0 0] 26) = W0 at *
  have b1 := MBox.c1 HX0.out
  obtain ⟨g_, hg_, -, d0, d1, d2⟩ := HR0.out.at_ k _ HX.out
  cases hg_
  dsimp only at d0 d1 d2
  go_upto_region 2 with (go_at_call 79; ((with_reducible refine (HP0.out _).mono ?_); rintro e w1 ⟨rfl, hg⟩; have HW1 := Lib.hid hg; clear hg))
  have HG1 := Lib.hid (show W0.grownBy (w1.alloc (.cells #[.int .i64 p0.1, .int .i64 p0.2.1, .int .i64 p0.2.2] 33)) none from g_alloc HW1.out _)
  have HA1 := Lib.hid (IBox.new w1 p0)
  have hs1 : W0.heap.size ≤ w1.heap.size := HW1.out.size
  clear b1 d0 d1 d2
  generalize w1.alloc (.cells #[.int .i64 p0.1, .int .i64 p0.2.1, .int .i64 p0.2.2] 33) = W2 at *
  have HG3 := Lib.hid (g_alloc HG1.out (.cells #[] 33))
  have b1 := MBox.c1 (HX0.out.kept HG3.out (by simp))
  have hs3 : W0.heap.size ≤ W2.heap.size := HG1.out.size
  have HE := Lib.hid (own_empty W2 w.heap.size (by omega))
  have HNA := Lib.hid (reads_take (HR0.out.on HG3.out) k)
  have HLA := Lib.hid (show (flatC (xs.take k)).length = k * 3 by rw [flatC_len, List.length_take, HLN.out]; omega)
  go_upto_region 3 with (at_builtin; refine wpList_append_own _ rfl _ _ 24 rfl w.heap.size 33 i0 (.agg #[.int .i64 0, .int .i64 0, .int .i64 0]) 3 24 Try.underlying24 hi0 hz0 hz1 hz2 rfl (by decide) _ _ _ rfl HE.out ⟨g, 0, none⟩ k cap (flatC (xs.take k)) rfl HLA.out HNA.out (flatC_one _) (by unfold maxLen; omega) (by omega) (by simp; omega) ?_; intro v' w3 hown' hgrow hnil; clear hnil; have HO3 := Lib.hid hown'; have HGR3 := Lib.hid (show World.grownBy _ w3 (some W2.heap.size) from hgrow); clear hown' hgrow)
  rw [Nat.zero_add, List.nil_append] at HO3
  obtain ⟨a3, cap3, rfl⟩ := own_shape HO3.out
  have HA3 := Lib.hid ((IBox.kept HA1.out (World.grownBy_alloc W2 (.cells #[] 33) none) (by simp)).kept HGR3.out (by have := IBox.lt HA1.out; simp; omega))
  have HGA := Lib.hid (g_alloc (grown_above HGR3.out (show W0.heap.size ≤ W2.heap.size from hs3) HG3.out) (.cells #[.int .i64 p0.1, .int .i64 p0.2.1, .int .i64 p0.2.2] 33))
  have HOA := Lib.hid (HO3.out.alloc (.cells #[.int .i64 p0.1, .int .i64 p0.2.1, .int .i64 p0.2.2] 33))
  have HPN := Lib.hid (World.news_of_block (cs := (flatC [p0]).toArray) (t := 33) (fr := (0, 0)) (one_new w3 p0))
  have hs4 : w.heap.size ≤ (w3.alloc (.cells #[.int .i64 p0.1, .int .i64 p0.2.1, .int .i64 p0.2.2] 33)).heap.size := by have := HGA.out.size; omega
  have c0 := IBox.c0 HA3.out
  have c1 := IBox.c1 HA3.out
  have c2 := IBox.c2 HA3.out
  clear b1
  go_upto_region 4 with (at_builtin; refine wpList_append_own _ rfl _ _ 24 rfl w.heap.size 33 i0 (.agg #[.int .i64 0, .int .i64 0, .int .i64 0]) 3 24 Try.underlying24 hi0 hz0 hz1 hz2 rfl (by decide) _ _ _ rfl HOA.out ⟨w3.heap.size, 0, none⟩ 1 1 (flatC [p0]) rfl rfl HPN.out (flatC_one _) (by unfold maxLen; omega) (by omega) hs4 ?_; intro v' w4 hown' hgrow hnil; clear hnil; have HO4 := Lib.hid hown'; have HGR4 := Lib.hid (show World.grownBy _ w4 (Value.ownBlock (.slice a3 k cap3)) from hgrow); clear hown' hgrow)
  obtain ⟨a4, cap4, rfl⟩ := own_shape HO4.out
  have hx4 : MBox w4 w.heap.size R (.slice (some ⟨g, 0, none⟩) n cap) := ((HX0.out.kept HGA.out (by simp)).kept HGR4.out (MBox.not_row (HX0.out.kept HGA.out (by simp)) HOA.out))
  have HX4 := Lib.hid (show MBox w4.drew w.heap.size R (.slice (some ⟨g, 0, none⟩) n cap) from hx4)
  have hm4 : MBox w4 (w.heap.size + 1) 0 (.slice none 0 0) := ((HM0.out.kept HGA.out (by simp)).kept HGR4.out (MBox.not_row (HM0.out.kept HGA.out (by simp)) HOA.out))
  have HM4 := Lib.hid (show MBox w4.drew (w.heap.size + 1) 0 (.slice none 0 0) from hm4)
  clear hx4 hm4
  have HG4 := Lib.hid (show w.grownBy w4.drew none from gr_drew (grown_row (grown_trans HG0.out HGA.out) HGR4.out HOA.out))
  have HO5 := Lib.hid (show w4.drew.ownsRow w.heap.size 33 3 (.slice a4 (k + 1) cap4) (k + 1) _ from HO4.out)
  have HLD := Lib.hid (show (flatC (xs.drop (k + 2))).length = (n - (k + 2)) * 3 by rw [flatC_len, List.length_drop, HLN.out])
  have z0 := MBox.c0 HX4.out
  have z1 := MBox.c1 HX4.out
  have f1 : IntKind.i64.wrap ((k : Int) + 2) = (k : Int) + 2 := IntWalk.i64_in _ (by omega)
  have f2 : (0 : Int) ≤ (k : Int) + 2 := by omega
  have f3 : (k : Int) + 2 ≤ (n : Int) := by omega
  have f4 : ((k : Int) + 2).toNat = k + 2 := by omega
  clear HA1 HA3 HGR3 HG1 HG3 HW1 HE HNA HLA c0 c1 c2 hs1 hs3 HP0 HPN
  by_cases hc : cap = k + 2
  · have HND := Lib.hid (show ∀ j u, (flatC (xs.drop (k + 2)))[j]? = some u → w4.drew.cell? ((⟨g, 0, none⟩ : Addr).add j) = some u from fun j u hj => by
      have h0 : flatC (xs.drop (k + 2)) = [] := by rw [List.drop_of_length_le (by rw [HLN.out]; omega)]; rfl
      rw [h0] at hj
      simp at hj)
    go_region_law ((refine step_append_any rfl _ _ rfl w.heap.size (.slice a4 (k + 1) cap4) (k + 1) _ (by first | (simp [Act.eval]; done) | simp [Act.eval, Act.put]) HO5.out ⟨g, 0, none⟩ (n - (k + 2)) 0 (flatC (xs.drop (k + 2))) (by first | (simp [Act.eval]; done) | simp [Act.eval, Act.put]) HLD.out HND.out (flatC_one _) (by omega) (by have := HG4.out.size; exact this) ?_; intro v' w5 hown' hgrow; obtain ⟨a5, cap5, rfl⟩ := own_shape hown'; have hm5 := HM4.out.kept hgrow (MBox.not_row HM4.out HO5.out); have hx5 := HX4.out.kept hgrow (MBox.not_row HX4.out HO5.out); have r0 := MBox.c0 hm5; have r1 := MBox.c1 hm5; have t0 := MBox.f0 hm5; have t1 := MBox.f1 hm5; have y0 := MBox.c0 hx5; have HM5 := Lib.hid hm5; have HOW := Lib.hid hown'; have HGR := Lib.hid (show World.grownBy _ w5 (Value.ownBlock (.slice a4 (k + 1) cap4)) from hgrow); clear hown' hgrow hm5 hx5))
    all_goals
      go_wp2_with fail
      have ho := HOW.out
      have hz : flatC (xs.take k) ++ flatC [p0] ++ flatC (xs.drop (k + 2)) = flatC (merge2 xs k) := by rw [HS.out, ← flatC_append, ← flatC_append]
      rw [hz] at ho
      obtain ⟨hm, ho, hg⟩ := out_set (w := w) (R := R) (by omega) HM5.out ho (grown_row HG4.out HGR.out HO5.out)
      exact bodyPost_ret_by (results_cell_row (fn := Try.f61) rfl _ _ (w.heap.size + 1) _ _ (0, 0) _ rfl hm Try.underlying26 rfl (by kernel_rfl)) rfl ⟨_, rfl, ho, hg⟩
  · have HND := Lib.hid (reads_drop (HR.out.on HG4.out) (k + 2))
    go_region_law ((refine step_append_any rfl _ _ rfl w.heap.size (.slice a4 (k + 1) cap4) (k + 1) _ (by first | (simp [Act.eval]; done) | simp [Act.eval, Act.put]) HO5.out ⟨g, (k + 2) * 3, none⟩ (n - (k + 2)) (cap - (k + 2)) (flatC (xs.drop (k + 2))) (by first | (simp [Act.eval]; done) | simp [Act.eval, Act.put]) HLD.out HND.out (flatC_one _) (by omega) (by have := HG4.out.size; exact this) ?_; intro v' w5 hown' hgrow; obtain ⟨a5, cap5, rfl⟩ := own_shape hown'; have hm5 := HM4.out.kept hgrow (MBox.not_row HM4.out HO5.out); have hx5 := HX4.out.kept hgrow (MBox.not_row HX4.out HO5.out); have r0 := MBox.c0 hm5; have r1 := MBox.c1 hm5; have t0 := MBox.f0 hm5; have t1 := MBox.f1 hm5; have y0 := MBox.c0 hx5; have HM5 := Lib.hid hm5; have HOW := Lib.hid hown'; have HGR := Lib.hid (show World.grownBy _ w5 (Value.ownBlock (.slice a4 (k + 1) cap4)) from hgrow); clear hown' hgrow hm5 hx5))
    all_goals
      go_wp2_with fail
      have ho := HOW.out
      have hz : flatC (xs.take k) ++ flatC [p0] ++ flatC (xs.drop (k + 2)) = flatC (merge2 xs k) := by rw [HS.out, ← flatC_append, ← flatC_append]
      rw [hz] at ho
      obtain ⟨hm, ho, hg⟩ := out_set (w := w) (R := R) (by omega) HM5.out ho (grown_row HG4.out HGR.out HO5.out)
      exact bodyPost_ret_by (results_cell_row (fn := Try.f61) rfl _ _ (w.heap.size + 1) _ _ (0, 0) _ rfl hm Try.underlying26 rfl (by kernel_rfl)) rfl ⟨_, rfl, ho, hg⟩

/-- What the model's two changes go through: may it be done; the mesh as it is; the mesh changed. -/
theorem specRefine_is (R i : Int) (g n cap : Nat) (xs : List C3) (w : World) (hr : Reads w (some ⟨g, 0, none⟩) n xs) (hn : n ≤ 1048576) (hcap : n ≤ cap) :
    Calls Try.prog 27 #[.agg #[.int .i64 R, .slice (some ⟨g, 0, none⟩) n cap], .int .i64 i] w (GivesB R (mayRef R xs i) (refOf R xs i) w) := by
  have HN := Lib.hid hn
  have HR := Lib.hid hr
  have hlen := hr.len
  clear hr hn
  have hmr : ∀ x, Reads x (some ⟨g, 0, none⟩) n xs → Calls Try.prog 24 #[.agg #[.int .i64 R, .slice (some ⟨g, 0, none⟩) n cap], .int .i64 i] x fun e w' => e = .returned (.bool (mayRef R xs i)) ∧ x.grownBy w' none := fun x h => specMayRef_is R i (some ⟨g, 0, none⟩) n cap xs x h HN.out
  have hx0 := (MBox.new w R (.slice (some ⟨g, 0, none⟩) n cap)).alloc (.cells #[.int .i64 0, .slice none 0 0] 26)
  have hg0 : w.grownBy ((w.alloc (.cells #[.int .i64 R, .slice (some ⟨g, 0, none⟩) n cap] 26)).alloc (.cells #[.int .i64 0, .slice none 0 0] 26)) none := g_alloc (g_alloc (grown_refl _) _) _
  have hm0 := MBox.new (w.alloc (.cells #[.int .i64 R, .slice (some ⟨g, 0, none⟩) n cap] 26)) 0 (.slice none 0 0)
  rw [World.size_alloc] at hm0
  have HX0 := Lib.hid hx0; have HG0 := Lib.hid hg0; have HM0 := Lib.hid hm0
  clear hx0 hg0 hm0
  cases hm : mayRef R xs i with
  | false =>
    rw [hm] at hmr
    have HMR := Lib.hid hmr; clear hmr
    rw [show refOf R xs i = xs by simp [refOf, hm]]
    clear hm
    go_enter Try.func27, Try.ntmps27
    go_upto_region 1 with fail
    generalize (w.alloc (.cells #[.int .i64 R, .slice (some ⟨g, 0, none⟩) n cap] 26)).alloc (.cells #[.int .i64 0, .slice none 0 0] 26) = W0 at *
    have b0 := MBox.c0 HX0.out
    have b1 := MBox.c1 HX0.out
    go_wp2_with (first
      | (go_at_call 24; ((with_reducible refine (HMR.out _ (HR.out.on HG0.out)).mono ?_); rintro e w1 ⟨rfl, hg⟩; have hx := HX0.out.kept hg (by simp); have c0 := hx.c0; have c1 := hx.c1; have HG1 := Lib.hid (grown_trans HG0.out hg); have HM1 := Lib.hid (HM0.out.kept hg (by simp)); clear hg hx))
      | (go_at_call 56; ((with_reducible refine (specCopy_is R g n cap xs _ (HR.out.on HG1.out) HN.out).mono ?_); rintro e w2 ⟨v, rfl, ho, hg⟩; obtain ⟨a', cap', rfl⟩ := own_shape ho; have hm := HM1.out.kept hg (by simp); have r0 := hm.c0; have r1 := hm.c1; have s0 := hm.f0; have s1 := hm.f1; have HM2 := Lib.hid hm; have HO2 := Lib.hid (own_low ho HG1.out.size); have HG2 := Lib.hid (grown_trans HG1.out hg); clear ho hg hm)))
    obtain ⟨hm2, ho2, hg2⟩ := out_set (w := w) (R := R) (by omega) HM2.out HO2.out HG2.out
    exact bodyPost_ret_by (results_row_tmp rfl _ _ (w.heap.size + 1) _ _ (0, 0) _ rfl hm2 Try.underlying26 rfl (by kernel_rfl)) rfl ⟨_, rfl, by rw [HR.out.len]; exact ho2, hg2⟩
  | true =>
    rw [hm] at hmr
    have HMR := Lib.hid hmr; clear hmr
    obtain ⟨hok, k, x, rfl, hx, ho, hl, hro⟩ := mayRef_parts hm
    rw [hro]
    obtain ⟨-, hl1, hl2⟩ := mesh_parts hok
    have hj := fun u h => specSplit_is R g n cap k xs x u h (by omega) hcap hx ho hl
    have HJ := Lib.hid hj
    have HL := Lib.hid (split2_len hx)
    clear hm hok hx ho hl hro hl1 hl2 hj
    go_enter Try.func27, Try.ntmps27
    go_upto_region 1 with fail
    generalize (w.alloc (.cells #[.int .i64 R, .slice (some ⟨g, 0, none⟩) n cap] 26)).alloc (.cells #[.int .i64 0, .slice none 0 0] 26) = W0 at *
    have b0 := MBox.c0 HX0.out
    have b1 := MBox.c1 HX0.out
    go_wp2_with (first
      | (go_at_call 24; ((with_reducible refine (HMR.out _ (HR.out.on HG0.out)).mono ?_); rintro e w1 ⟨rfl, hg⟩; have hx := HX0.out.kept hg (by simp); have c0 := hx.c0; have c1 := hx.c1; have HG1 := Lib.hid (grown_trans HG0.out hg); have HM1 := Lib.hid (HM0.out.kept hg (by simp)); clear hg hx))
      | (go_at_call 57; ((with_reducible refine (HJ.out _ (HR.out.on HG1.out)).mono ?_); rintro e w2 ⟨v, rfl, ho, hg⟩; obtain ⟨a', cap', rfl⟩ := own_shape ho; have hm := HM1.out.kept hg (by simp); have r0 := hm.c0; have r1 := hm.c1; have s0 := hm.f0; have s1 := hm.f1; have HM2 := Lib.hid hm; have HO2 := Lib.hid (own_low ho HG1.out.size); have HG2 := Lib.hid (grown_trans HG1.out hg); clear ho hg hm)))
    obtain ⟨hm2, ho2, hg2⟩ := out_set (w := w) (R := R) (by omega) HM2.out HO2.out HG2.out
    exact bodyPost_ret_by (results_row_tmp rfl _ _ (w.heap.size + 1) _ _ (0, 0) _ rfl hm2 Try.underlying26 rfl (by kernel_rfl)) rfl ⟨_, rfl, by rw [HL.out, HR.out.len]; exact ho2, hg2⟩

theorem specCoarsen_is (R i : Int) (g n cap : Nat) (xs : List C3) (w : World) (hr : Reads w (some ⟨g, 0, none⟩) n xs) (hn : n ≤ 1048576) (hcap : n ≤ cap) :
    Calls Try.prog 31 #[.agg #[.int .i64 R, .slice (some ⟨g, 0, none⟩) n cap], .int .i64 i] w (GivesB R (mayCo R xs i) (coOf R xs i) w) := by
  have HN := Lib.hid hn
  have HR := Lib.hid hr
  have hlen := hr.len
  clear hr hn
  have hmr : ∀ x, Reads x (some ⟨g, 0, none⟩) n xs → Calls Try.prog 30 #[.agg #[.int .i64 R, .slice (some ⟨g, 0, none⟩) n cap], .int .i64 i] x fun e w' => e = .returned (.bool (mayCo R xs i)) ∧ x.grownBy w' none := fun x h => specMayCo_is R i (some ⟨g, 0, none⟩) n cap xs x h HN.out
  have hx0 := (MBox.new w R (.slice (some ⟨g, 0, none⟩) n cap)).alloc (.cells #[.int .i64 0, .slice none 0 0] 26)
  have hg0 : w.grownBy ((w.alloc (.cells #[.int .i64 R, .slice (some ⟨g, 0, none⟩) n cap] 26)).alloc (.cells #[.int .i64 0, .slice none 0 0] 26)) none := g_alloc (g_alloc (grown_refl _) _) _
  have hm0 := MBox.new (w.alloc (.cells #[.int .i64 R, .slice (some ⟨g, 0, none⟩) n cap] 26)) 0 (.slice none 0 0)
  rw [World.size_alloc] at hm0
  have HX0 := Lib.hid hx0; have HG0 := Lib.hid hg0; have HM0 := Lib.hid hm0
  clear hx0 hg0 hm0
  cases hm : mayCo R xs i with
  | false =>
    rw [hm] at hmr
    have HMR := Lib.hid hmr; clear hmr
    rw [show coOf R xs i = xs by simp [coOf, hm]]
    clear hm
    go_enter Try.func31, Try.ntmps31
    go_upto_region 1 with fail
    generalize (w.alloc (.cells #[.int .i64 R, .slice (some ⟨g, 0, none⟩) n cap] 26)).alloc (.cells #[.int .i64 0, .slice none 0 0] 26) = W0 at *
    have b0 := MBox.c0 HX0.out
    have b1 := MBox.c1 HX0.out
    go_wp2_with (first
      | (go_at_call 30; ((with_reducible refine (HMR.out _ (HR.out.on HG0.out)).mono ?_); rintro e w1 ⟨rfl, hg⟩; have hx := HX0.out.kept hg (by simp); have c0 := hx.c0; have c1 := hx.c1; have HG1 := Lib.hid (grown_trans HG0.out hg); have HM1 := Lib.hid (HM0.out.kept hg (by simp)); clear hg hx))
      | (go_at_call 56; ((with_reducible refine (specCopy_is R g n cap xs _ (HR.out.on HG1.out) HN.out).mono ?_); rintro e w2 ⟨v, rfl, ho, hg⟩; obtain ⟨a', cap', rfl⟩ := own_shape ho; have hm := HM1.out.kept hg (by simp); have r0 := hm.c0; have r1 := hm.c1; have s0 := hm.f0; have s1 := hm.f1; have HM2 := Lib.hid hm; have HO2 := Lib.hid (own_low ho HG1.out.size); have HG2 := Lib.hid (grown_trans HG1.out hg); clear ho hg hm)))
    obtain ⟨hm2, ho2, hg2⟩ := out_set (w := w) (R := R) (by omega) HM2.out HO2.out HG2.out
    exact bodyPost_ret_by (results_row_tmp rfl _ _ (w.heap.size + 1) _ _ (0, 0) _ rfl hm2 Try.underlying26 rfl (by kernel_rfl)) rfl ⟨_, rfl, by rw [HR.out.len]; exact ho2, hg2⟩
  | true =>
    rw [hm] at hmr
    have HMR := Lib.hid hmr; clear hmr
    obtain ⟨hok, k, x, y, rfl, hx, hy, hs, -, -, hro⟩ := mayCo_parts hm
    rw [hro]
    obtain ⟨ho, -, -⟩ := sib_parts hs
    obtain ⟨-, -, -, -, hl⟩ := sib_kids hs
    obtain ⟨-, hl1, hl2⟩ := mesh_parts hok
    have hk := (List.getElem?_eq_some_iff.1 hy).1
    have HML := Lib.hid (merge_len hx hy)
    have hj := fun u h => specMerge_is R g n cap k xs x u h (by omega) hcap hx ho hl (by omega)
    have HJ := Lib.hid hj
    have HKN := Lib.hid (show k + 2 ≤ n by omega)
    clear hm hok hx hy hs hro ho hl hl1 hl2 hj
    go_enter Try.func31, Try.ntmps31
    go_upto_region 1 with fail
    generalize (w.alloc (.cells #[.int .i64 R, .slice (some ⟨g, 0, none⟩) n cap] 26)).alloc (.cells #[.int .i64 0, .slice none 0 0] 26) = W0 at *
    have b0 := MBox.c0 HX0.out
    have b1 := MBox.c1 HX0.out
    go_wp2_with (first
      | (go_at_call 30; ((with_reducible refine (HMR.out _ (HR.out.on HG0.out)).mono ?_); rintro e w1 ⟨rfl, hg⟩; have hx := HX0.out.kept hg (by simp); have c0 := hx.c0; have c1 := hx.c1; have HG1 := Lib.hid (grown_trans HG0.out hg); have HM1 := Lib.hid (HM0.out.kept hg (by simp)); clear hg hx))
      | (go_at_call 61; ((with_reducible refine (HJ.out _ (HR.out.on HG1.out)).mono ?_); rintro e w2 ⟨v, rfl, ho, hg⟩; obtain ⟨a', cap', rfl⟩ := own_shape ho; have hm := HM1.out.kept hg (by simp); have r0 := hm.c0; have r1 := hm.c1; have s0 := hm.f0; have s1 := hm.f1; have HM2 := Lib.hid hm; have HO2 := Lib.hid (own_low ho HG1.out.size); have HG2 := Lib.hid (grown_trans HG1.out hg); clear ho hg hm)))
    obtain ⟨hm2, ho2, hg2⟩ := out_set (w := w) (R := R) (by omega) HM2.out HO2.out HG2.out
    exact bodyPost_ret_by (results_row_tmp rfl _ _ (w.heap.size + 1) _ _ (0, 0) _ rfl hm2 Try.underlying26 rfl (by kernel_rfl)) rfl ⟨_, rfl, by rw [show (merge2 xs k).length = k + 1 + (n - (k + 2)) by have := HML.out; have := HKN.out; omega]; exact ho2, hg2⟩
end Go.Proofs.Ytmkmlfaekiofcaa.Mesh
