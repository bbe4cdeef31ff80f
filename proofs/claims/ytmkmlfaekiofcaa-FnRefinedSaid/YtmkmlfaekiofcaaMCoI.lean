/- Meshes: RefineLeaf and CoarsenPair of the program, as contracts: the changed mesh or the mesh itself, in memory of its own; nothing that was there is written.
   Conditions: at most 2^20 leaves. -/
import Derived.Test.YtmkmlfaekiofcaaMBalance
import Derived.Test.YtmkmlfaekiofcaaMMayC
import Derived.Test.YtmkmlfaekiofcaaMJoin
namespace Go.Proofs.Ytmkmlfaekiofcaa.Mesh
open Go.ChangeShapes Go.WideShapes Go.ChangeAt Go.RowKit Go.Proofs.Ytmkmlfaekiofcaa.Cell

/-- A mesh in memory of the call's own, and a bool. -/
def GivesB (R : Int) (b : Bool) (zs : List C3) (w : World) (e : Ending) (w' : World) : Prop :=
  ∃ v, e = .returned (.tuple #[.agg #[.int .i64 R, v], .bool b]) ∧ w'.ownsRow w.heap.size 33 3 v zs.length (flatC zs) ∧ w.grownBy w' none

set_option maxHeartbeats 4000000 in
theorem refine_is (R i : Int) (g n cap : Nat) (xs : List C3) (w : World) (hr : Reads w (some ⟨g, 0, none⟩) n xs) (hn : n ≤ 1048576) :
    Calls Try.prog 15 #[.agg #[.int .i64 R, .slice (some ⟨g, 0, none⟩) n cap], .int .i64 i] w (GivesB R (mayRef R xs i) (refOf R xs i) w) := by
  have HN := Lib.hid hn
  have HR := Lib.hid hr
  clear hr hn
  have hmr : ∀ x, Reads x (some ⟨g, 0, none⟩) n xs → Calls Try.prog 17 #[.agg #[.int .i64 R, .slice (some ⟨g, 0, none⟩) n cap], .int .i64 i] x fun e w' => e = .returned (.bool (mayRef R xs i)) ∧ x.grownBy w' none := fun x h => mayRef_is R i (some ⟨g, 0, none⟩) n cap xs x h HN.out
  cases hm : mayRef R xs i with
  | false =>
    rw [hm] at hmr
    have HMR := Lib.hid hmr; clear hmr
    rw [show refOf R xs i = xs by simp [refOf, hm]]
    clear hm
    go_enter Try.func15, Try.ntmps15
    go_upto_region 1 with fail
    have HG0 := Lib.hid (show w.grownBy ((w.alloc (.cells #[.int .i64 R, .slice (some ⟨g, 0, none⟩) n cap] 26)).alloc (.cells #[.int .i64 0, .slice none 0 0] 26)) none from g_alloc (g_alloc (grown_refl _) _) _)
    have HX0 := Lib.hid ((MBox.new w R (.slice (some ⟨g, 0, none⟩) n cap)).alloc (.cells #[.int .i64 0, .slice none 0 0] 26))
    have hm := MBox.new (w.alloc (.cells #[.int .i64 R, .slice (some ⟨g, 0, none⟩) n cap] 26)) 0 (.slice none 0 0)
    rw [World.size_alloc] at hm
    have HM0 := Lib.hid hm
    clear hm
    have hsz : w.heap.size + 2 = ((w.alloc (.cells #[.int .i64 R, .slice (some ⟨g, 0, none⟩) n cap] 26)).alloc (.cells #[.int .i64 0, .slice none 0 0] 26)).heap.size := by simp
    have HR0 := Lib.hid (HR.out.on HG0.out)
    generalize (w.alloc (.cells #[.int .i64 R, .slice (some ⟨g, 0, none⟩) n cap] 26)).alloc (.cells #[.int .i64 0, .slice none 0 0] 26) = W0 at *
    have b0 := MBox.c0 HX0.out
    have b1 := MBox.c1 HX0.out
    go_upto_region 2 with (go_at_call 42; ((with_reducible refine (mclone_is R g n cap xs _ HR0.out HN.out).mono ?_); rintro e w1 ⟨v, rfl, ho, hg⟩; obtain ⟨a', cap', rfl⟩ := own_shape ho; have HO1 := Lib.hid (own_low ho (show w.heap.size ≤ W0.heap.size by omega)); have HG1 := Lib.hid hg; clear ho hg))
    have HB := Lib.hid (bst_B (v := .slice a' n cap') hsz HG0.out HX0.out HM0.out HG1.out (by rw [HR.out.len]; exact HO1.out))
    clear HX0 HM0 HG0 HR0 hsz b0 b1 HO1 HG1
    generalize w1.alloc (.cells #[.int .i64 R, .slice a' n cap'] 26) = wx at *
    generalize w1.heap.size = B at *
    have m0 := MBox.c0 HB.out.m
    have m1 := MBox.c1 HB.out.m
    go_wp2_with (go_at_call 17; ((with_reducible refine (HMR.out _ (HR.out.on HB.out.gr)).mono ?_); rintro e w1 ⟨rfl, hg⟩; have hb := HB.out.on hg; have p0 := MBox.c0 hb.b; have p1 := MBox.c1 hb.b; have r0 := MBox.c0 hb.r; have r1 := MBox.c1 hb.r; have s0 := MBox.f0 hb.r; have s1 := MBox.f1 hb.r; have HB1 := Lib.hid hb; clear hg hb))
    obtain ⟨hm2, ho2, hg2⟩ := out_set (w := w) (R := R) (by omega) HB1.out.r HB1.out.row HB1.out.gr
    exact bodyPost_ret_by (results_row_tmp rfl _ _ (w.heap.size + 1) _ _ (0, 0) _ rfl hm2 Try.underlying26 rfl (by kernel_rfl)) rfl ⟨_, rfl, ho2, hg2⟩
  | true =>
    rw [hm] at hmr
    have HMR := Lib.hid hmr; clear hmr
    obtain ⟨hok, k, x, rfl, hx, ho, hl, hro⟩ := mayRef_parts hm
    rw [hro]
    obtain ⟨-, hl1, hl2⟩ := mesh_parts hok
    have hk := (List.getElem?_eq_some_iff.1 hx).1
    have hn2 : n ≤ 1000 := by have := HR.out.len; omega
    have HN2 := Lib.hid hn2
    have HX := Lib.hid hx
    have HO := Lib.hid ho
    have HL := Lib.hid (split2_len hx)
    have HLN := Lib.hid HR.out.len
    clear hm hok hx ho hl hro hl1 hl2 hn2
    go_enter Try.func15, Try.ntmps15
    go_upto_region 1 with fail
    have HG0 := Lib.hid (show w.grownBy ((w.alloc (.cells #[.int .i64 R, .slice (some ⟨g, 0, none⟩) n cap] 26)).alloc (.cells #[.int .i64 0, .slice none 0 0] 26)) none from g_alloc (g_alloc (grown_refl _) _) _)
    have HX0 := Lib.hid ((MBox.new w R (.slice (some ⟨g, 0, none⟩) n cap)).alloc (.cells #[.int .i64 0, .slice none 0 0] 26))
    have hm := MBox.new (w.alloc (.cells #[.int .i64 R, .slice (some ⟨g, 0, none⟩) n cap] 26)) 0 (.slice none 0 0)
    rw [World.size_alloc] at hm
    have HM0 := Lib.hid hm
    clear hm
    have hsz : w.heap.size + 2 = ((w.alloc (.cells #[.int .i64 R, .slice (some ⟨g, 0, none⟩) n cap] 26)).alloc (.cells #[.int .i64 0, .slice none 0 0] 26)).heap.size := by simp
    have HR0 := Lib.hid (HR.out.on HG0.out)
    generalize (w.alloc (.cells #[.int .i64 R, .slice (some ⟨g, 0, none⟩) n cap] 26)).alloc (.cells #[.int .i64 0, .slice none 0 0] 26) = W0 at *
    have b0 := MBox.c0 HX0.out
    have b1 := MBox.c1 HX0.out
    go_upto_region 2 with (go_at_call 42; ((with_reducible refine (mclone_is R g n cap xs _ HR0.out HN.out).mono ?_); rintro e w1 ⟨v, rfl, ho, hg⟩; obtain ⟨a', cap', rfl⟩ := own_shape ho; have HO1 := Lib.hid (own_low ho (show w.heap.size ≤ W0.heap.size by omega)); have HG1 := Lib.hid hg; clear ho hg))
    have HB := Lib.hid (bst_B (v := .slice a' n cap') hsz HG0.out HX0.out HM0.out HG1.out (by rw [HR.out.len]; exact HO1.out))
    clear HX0 HM0 HG0 HR0 hsz b0 b1 HO1 HG1
    generalize w1.alloc (.cells #[.int .i64 R, .slice a' n cap'] 26) = wx at *
    generalize w1.heap.size = B at *
    rcases HB.out.row.2 with ⟨-, h0⟩ | ⟨g2, cap2, cur, heq, -⟩
    · omega
    have heq2 : a' = some ⟨g2, 0, none⟩ := by cases heq; rfl
    subst heq2
    clear heq cur cap2
    have m0 := MBox.c0 HB.out.m
    have m1 := MBox.c1 HB.out.m
    go_upto_region 4 with (go_at_call 17; ((with_reducible refine (HMR.out _ (HR.out.on HB.out.gr)).mono ?_); rintro e w1 ⟨rfl, hg⟩; have hb := HB.out.on hg; have p0 := MBox.c0 hb.b; have p1 := MBox.c1 hb.b; have HB1 := Lib.hid hb; clear hg hb))
    clear m0 m1
    go_upto_region 5 with (go_at_call 43; ((with_reducible refine (splitLeaf_is w.heap.size g2 n cap' k xs x _ (by have h := HB1.out.row; rw [HLN.out] at h; exact h) HX.out HO.out HN2.out HB1.out.gr.size).mono ?_); rintro e w4 ⟨g4, cap4, rfl, ho4, hg4⟩; have hb4 := HB1.out.b.kept hg4 (HB1.out.b.not_row HB1.out.row); have p4 := MBox.c1 hb4; have s4 := MBox.f1 hb4; have HS := Lib.hid (HB1.out.split hg4 (by rw [HL.out, HLN.out]; exact ho4)); clear hb4 ho4 hg4))
    clear p0 p1 HB HB1
    have p0 := MBox.c0 HS.out.b
    have p1 := MBox.c1 HS.out.b
    have r0 := MBox.c0 HS.out.r
    have r1 := MBox.c1 HS.out.r
    have s0 := MBox.f0 HS.out.r
    have s1 := MBox.f1 HS.out.r
    generalize w4.setCell ⟨B, 1, none⟩ (.slice (some ⟨g4, 0, none⟩) (n + 1) cap4) = wy at *
    go_wp2_with fail
    obtain ⟨hm2, ho2, hg2⟩ := out_set (w := w) (R := R) (by omega) HS.out.r HS.out.row HS.out.gr
    exact bodyPost_ret_by (results_row_tmp rfl _ _ (w.heap.size + 1) _ _ (0, 0) _ rfl hm2 Try.underlying26 rfl (by kernel_rfl)) rfl ⟨_, rfl, ho2, hg2⟩

set_option maxHeartbeats 4000000 in
theorem coarsen_is (R i : Int) (g n cap : Nat) (xs : List C3) (w : World) (hr : Reads w (some ⟨g, 0, none⟩) n xs) (hn : n ≤ 1048576) (hcap : n ≤ cap) :
    Calls Try.prog 18 #[.agg #[.int .i64 R, .slice (some ⟨g, 0, none⟩) n cap], .int .i64 i] w (GivesB R (mayCo R xs i) (coOf R xs i) w) := by
  have HN := Lib.hid hn
  have HR := Lib.hid hr
  clear hr hn
  have hmr : ∀ x, Reads x (some ⟨g, 0, none⟩) n xs → Calls Try.prog 19 #[.agg #[.int .i64 R, .slice (some ⟨g, 0, none⟩) n cap], .int .i64 i] x fun e w' => e = .returned (.bool (mayCo R xs i)) ∧ x.grownBy w' none := fun x h => mayCo_is R i (some ⟨g, 0, none⟩) n cap xs x h HN.out
  cases hm : mayCo R xs i with
  | false =>
    rw [hm] at hmr
    have HMR := Lib.hid hmr; clear hmr
    rw [show coOf R xs i = xs by simp [coOf, hm]]
    clear hm
    go_enter Try.func18, Try.ntmps18
    go_upto_region 1 with fail
    have HG0 := Lib.hid (show w.grownBy ((w.alloc (.cells #[.int .i64 R, .slice (some ⟨g, 0, none⟩) n cap] 26)).alloc (.cells #[.int .i64 0, .slice none 0 0] 26)) none from g_alloc (g_alloc (grown_refl _) _) _)
    have HX0 := Lib.hid ((MBox.new w R (.slice (some ⟨g, 0, none⟩) n cap)).alloc (.cells #[.int .i64 0, .slice none 0 0] 26))
    have hm := MBox.new (w.alloc (.cells #[.int .i64 R, .slice (some ⟨g, 0, none⟩) n cap] 26)) 0 (.slice none 0 0)
    rw [World.size_alloc] at hm
    have HM0 := Lib.hid hm
    clear hm
    have hsz : w.heap.size + 2 = ((w.alloc (.cells #[.int .i64 R, .slice (some ⟨g, 0, none⟩) n cap] 26)).alloc (.cells #[.int .i64 0, .slice none 0 0] 26)).heap.size := by simp
    have HR0 := Lib.hid (HR.out.on HG0.out)
    generalize (w.alloc (.cells #[.int .i64 R, .slice (some ⟨g, 0, none⟩) n cap] 26)).alloc (.cells #[.int .i64 0, .slice none 0 0] 26) = W0 at *
    have b0 := MBox.c0 HX0.out
    have b1 := MBox.c1 HX0.out
    go_wp2_with (first
      | (go_at_call 19; ((with_reducible refine (HMR.out _ HR0.out).mono ?_); rintro e w1 ⟨rfl, hg⟩; have hx := HX0.out.kept hg (by simp); have c0 := hx.c0; have c1 := hx.c1; have HG1 := Lib.hid hg; clear hg hx))
      | (go_at_call 42; ((with_reducible refine (mclone_is R g n cap xs _ (HR0.out.on HG1.out) HN.out).mono ?_); rintro e w2 ⟨v, rfl, ho, hg⟩; obtain ⟨a', cap', rfl⟩ := own_shape ho; have hm := HM0.out.kept (grown_trans HG1.out hg) (by simp); have r0 := hm.c0; have r1 := hm.c1; have s0 := hm.f0; have s1 := hm.f1; have HM2 := Lib.hid hm; have HO2 := Lib.hid (own_low ho (show w.heap.size ≤ _ by have := HG1.out.size; omega)); have HG2 := Lib.hid (grown_trans HG0.out (grown_trans HG1.out hg)); clear ho hg hm)))
    obtain ⟨hm2, ho2, hg2⟩ := out_set (w := w) (R := R) (by omega) HM2.out HO2.out HG2.out
    exact bodyPost_ret_by (results_row_tmp rfl _ _ (w.heap.size + 1) _ _ (0, 0) _ rfl hm2 Try.underlying26 rfl (by kernel_rfl)) rfl ⟨_, rfl, by rw [HR.out.len]; exact ho2, hg2⟩
  | true =>
    rw [hm] at hmr
    have HMR := Lib.hid hmr; clear hmr
    obtain ⟨hok, k, x, y, rfl, hx, hy, hs, -, -, hro⟩ := mayCo_parts hm
    rw [hro]
    obtain ⟨ho, -, -⟩ := sib_parts hs
    obtain ⟨-, -, -, -, hl⟩ := sib_kids hs
    obtain ⟨-, hl1, hl2⟩ := mesh_parts hok
    have hk := (List.getElem?_eq_some_iff.1 hy).1
    have hlen := HR.out.len
    have HML := Lib.hid (merge_len hx hy)
    have hj := fun u h => join_is g n cap k xs x u h (by omega) hcap hx ho hl (by omega)
    have HJ := Lib.hid hj
    have HKN := Lib.hid (show k + 2 ≤ n by omega)
    clear hm hok hx hy hs hro ho hl hl1 hl2 hj
    go_enter Try.func18, Try.ntmps18
    go_upto_region 1 with fail
    have HG0 := Lib.hid (show w.grownBy ((w.alloc (.cells #[.int .i64 R, .slice (some ⟨g, 0, none⟩) n cap] 26)).alloc (.cells #[.int .i64 0, .slice none 0 0] 26)) none from g_alloc (g_alloc (grown_refl _) _) _)
    have HX0 := Lib.hid ((MBox.new w R (.slice (some ⟨g, 0, none⟩) n cap)).alloc (.cells #[.int .i64 0, .slice none 0 0] 26))
    have hm := MBox.new (w.alloc (.cells #[.int .i64 R, .slice (some ⟨g, 0, none⟩) n cap] 26)) 0 (.slice none 0 0)
    rw [World.size_alloc] at hm
    have HM0 := Lib.hid hm
    clear hm
    have hsz : w.heap.size + 2 = ((w.alloc (.cells #[.int .i64 R, .slice (some ⟨g, 0, none⟩) n cap] 26)).alloc (.cells #[.int .i64 0, .slice none 0 0] 26)).heap.size := by simp
    have HR0 := Lib.hid (HR.out.on HG0.out)
    generalize (w.alloc (.cells #[.int .i64 R, .slice (some ⟨g, 0, none⟩) n cap] 26)).alloc (.cells #[.int .i64 0, .slice none 0 0] 26) = W0 at *
    have b0 := MBox.c0 HX0.out
    have b1 := MBox.c1 HX0.out
    go_upto_region 3 with (go_at_call 19; ((with_reducible refine (HMR.out _ HR0.out).mono ?_); rintro e w1 ⟨rfl, hg⟩; have hx := HX0.out.kept hg (by simp); have c0 := hx.c0; have c1 := hx.c1; have HX1 := Lib.hid hx; have HM1 := Lib.hid (HM0.out.kept hg (by simp)); have HG1 := Lib.hid (grown_trans HG0.out hg); clear hg hx))
    clear b0 b1
    go_region_with (go_at_call 46; ((with_reducible refine (HJ.out _ (HR.out.on (by first | exact gr_drew HG1.out | exact HG1.out))).mono ?_); rintro e w2 ⟨v, rfl, ho, hg⟩; obtain ⟨a', cap', rfl⟩ := own_shape ho; have hgd := grown_trans (show w1.grownBy _ none by first | exact gr_drew (grown_refl w1) | exact grown_refl w1) hg; have hm := HM1.out.kept hgd (by simp); have hx := HX1.out.kept hgd (by simp); have r0 := hm.c0; have r1 := hm.c1; have s0 := hm.f0; have s1 := hm.f1; have e0 := hx.c0; have HM2 := Lib.hid hm; have HO2 := Lib.hid (own_low ho (show w.heap.size ≤ _ by first | exact HG1.out.size | (have := HG1.out.size; simp; omega))); have HG2 := Lib.hid (grown_trans HG1.out hgd); clear ho hg hm hx hgd))
    all_goals
      go_wp2_with fail
      obtain ⟨hm2, ho2, hg2⟩ := out_set (w := w) (R := R) (by omega) HM2.out HO2.out HG2.out
      exact bodyPost_ret_by (results_row_tmp rfl _ _ (w.heap.size + 1) _ _ (0, 0) _ rfl hm2 Try.underlying26 rfl (by kernel_rfl)) rfl ⟨_, rfl, by rw [show (merge2 xs k).length = k + 1 + (n - (k + 2)) by have := HML.out; have := HKN.out; omega]; exact ho2, hg2⟩
end Go.Proofs.Ytmkmlfaekiofcaa.Mesh
