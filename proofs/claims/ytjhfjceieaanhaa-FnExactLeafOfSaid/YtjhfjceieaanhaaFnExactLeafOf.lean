/- Proved: for all meshes and cells the law FnExactLeafOf returns true, that is, the program's LeafOf answers as the reference model's LeafOf.
   Conditions: none besides those that the given row prints. -/
import Derived.Test.YtjhfjceieaanhaaRows
import Derived.WalkKit
import Derived.ProofKit
import Derived.OpenShut
import Derived.ShutString
import Derived.ChangeOld
import Derived.Below
import Derived.ChangeSame
import Derived.Lib.SmallJoins
import Derived.Test.YtjhfjceieaanhaaMLeaf
import Derived.Test.YtjhfjceieaanhaaMLeafS
import Derived.Test.YtjhfjceieaanhaaMOpen
namespace Go.Proofs.Ytjhfjceieaanhaa.fnExactLeafOf
open Go.ChangeShapes Go.WideShapes Go.ChangeAt Go.RowKit Go.Joins
set_option linter.unusedVariables false

theorem own : ownKnob Try.prog.godebug = none := by kernel_rfl
theorem laidOut : laidOutB Try.prog = true := by kernel_rfl
theorem cells44 : Try.prog.cellsOf 44 = 2 := by kernel_rfl
theorem cells49 : Try.prog.cellsOf 49 = 3 := by kernel_rfl

set_option maxHeartbeats 4000000 in
theorem walk (a0_0 : Int) (a0_1 : Option Addr) (n0 c0 : Nat) (xs0 : List Mesh.C3) (a1_0 a1_1 a1_2 : Int) (w1_0 : (Lit.int .i64 a1_0).wf = true) (w1_1 : (Lit.int .i64 a1_1).wf = true) (w1_2 : (Lit.int .i64 a1_2).wf = true) (w : World) (hn0 : n0 ≤ maxLen) (hr0 : Mesh.ReadsAt w a0_1 n0 xs0) :
    Calls Try.prog 8 #[.agg #[.int .i64 a0_0, .slice a0_1 n0 c0], .agg #[.int .i64 a1_0, .int .i64 a1_1, .int .i64 a1_2]] w fun e w' => e = .returned (.bool true) ∧ Below w.heap.size w w' := by
  have HR := Lib.hid hr0; have HM := Lib.hid hn0; clear hr0 hn0 w1_0 w1_1 w1_2
  by_cases hn : n0 ≤ 1048576
  · have hs : (if n0 ≤ 1048576 then 1048576 - (n0 : Int) else -1) = 1048576 - n0 := if_pos hn
    have hni : (n0 : Int) ≤ 1048576 := by omega
    have HN := Lib.hid hn; clear hn
    have HS := Lib.hid hs; clear hs
    obtain ⟨w0, hw0⟩ : ∃ w0, w0 = (w.alloc (.cells #[.int .i64 a0_0, .slice a0_1 n0 c0] 44)).alloc (.cells #[.int .i64 a1_0, .int .i64 a1_1, .int .i64 a1_2] 49) := ⟨_, rfl⟩
    have hg0 : w.grownBy w0 none := hw0 ▸ Cell.g_alloc (Cell.g_alloc (Cell.grown_refl _) _) _
    have HB0 := Lib.hid (show Mesh.BoxM w0 w.heap.size a0_0 (.slice a0_1 n0 c0) from hw0 ▸ (Mesh.boxM_new _ _ _ _).on (World.grownBy_alloc _ _ _))
    have HI0 := Lib.hid (show Cell.Laid w0 (w.heap.size + 1) a1_0 a1_1 a1_2 from by have := Cell.laid_new (w.alloc (.cells #[.int .i64 a0_0, .slice a0_1 n0 c0] 44)) 49 a1_0 a1_1 a1_2; rw [World.size_alloc] at this; rw [hw0]; exact this)
    have HA0 := Lib.hid (HR.out.on hg0)
    have HG0 := Lib.hid hg0; clear hg0
    have HC := Lib.hid hw0; clear hw0
    go_enter Try.func8, Try.ntmps8
    go_upto_region 5 with (first
      | (go_at_call 28; rw [← HC.out]; (with_reducible refine (Mesh.sz_is _ _ _ _ HM.out _).mono ?_); rw [HS.out]; rintro e w1 ⟨rfl, hg⟩; have hb := HB0.out.on hg; have b0 := hb.c0; have b1 := hb.c1; obtain ⟨i0, i1, i2, -⟩ := HI0.out.on hg; have HB1 := Lib.hid hb; have HI1 := Lib.hid (HI0.out.on hg); have HA1 := Lib.hid (HA0.out.on hg); have HG1 := Lib.hid (Cell.grown_trans HG0.out hg); clear hb hg))
    go_cut [6] from 14 to 18 (fun v wx => v = .int .i64 (Mesh.leafOf xs0 (a1_0, a1_1, a1_2)) ∧ Hid (w1.grownBy wx none))
    case first =>
      go_region_with (first
        | (go_at_call 30; (with_reducible refine (Mesh.to_is a0_0 a0_1 n0 c0 xs0 _ (HA1.out.on (by first | exact Mesh.g_drew (Cell.grown_refl _) | exact Cell.grown_refl _)) HN.out).mono ?_); rintro e w2 ⟨g2, rfl, hr, hg⟩; have hd := Cell.grown_trans (by first | exact Mesh.g_drew (Cell.grown_refl w1) | exact Cell.grown_refl w1) hg; obtain ⟨j0, j1, j2, -⟩ := HI1.out.on hd; have HR2 := Lib.hid hr; have HD2 := Lib.hid hd; clear hr hg hd)
        | (go_at_call 33; (with_reducible refine (Cell.toId_g a1_0 a1_1 a1_2 _).mono ?_); rintro e w3 ⟨rfl, hg⟩; have hd := Cell.grown_trans (by first | exact Mesh.g_drew (Cell.grown_refl w2) | exact Cell.grown_refl w2) hg; have HR3 := Lib.hid (HR2.out.on hd); have HD3 := Lib.hid (Cell.grown_trans HD2.out hd); clear hg hd)
        | (go_at_call 32; (with_reducible refine (Mesh.specLeafOf_is a0_0 a1_0 a1_1 a1_2 _ n0 n0 xs0 _ (HR3.out.on (by first | exact Mesh.g_drew (Cell.grown_refl _) | exact Cell.grown_refl _)) HN.out).mono ?_); rintro e w4 ⟨rfl, hg⟩; have HD4 := Lib.hid (Cell.grown_trans (Cell.grown_trans HD3.out (by first | exact Mesh.g_drew (Cell.grown_refl _) | exact Cell.grown_refl _)) hg); clear hg))
      all_goals (go_wp2_with fail; go_meet; exact ⟨rfl, HD4⟩)
    case rest =>
      obtain ⟨rfl, HD⟩ := hcut
      have hb := HB1.out.on HD.out
      have d0 := hb.c0; have d1 := hb.c1
      obtain ⟨k0, k1, k2, -⟩ := HI1.out.on HD.out
      have HA2 := Lib.hid (HA1.out.on HD.out)
      have HG2 := Lib.hid (Cell.grown_trans HG1.out HD.out)
      have HB2 := Lib.hid hb
      have HI2 := Lib.hid (HI1.out.on HD.out)
      clear b0 b1 i0 i1 i2 HA1 HB1 HI1 HA0 HB0 HI0 HG0 HG1 HC hb HD
      go_upto_region 7 with (first
        | (go_at_call 30; (with_reducible refine (Mesh.to_is _ _ _ _ _ _ HA2.out HN.out).mono ?_); rintro e w4 ⟨g4, rfl, hr, hg⟩; have HR4 := Lib.hid hr; have HB4 := Lib.hid (HB2.out.on hg); have HI4 := Lib.hid (HI2.out.on hg); have HA4 := Lib.hid (HA2.out.on hg); have HG4 := Lib.hid (Cell.grown_trans HG2.out hg); clear hr hg HB2 HA2 HG2 HI2))
      have hx := Mesh.boxM_new w4 26 a0_0 (.slice (some ⟨g4, 0, none⟩) n0 n0)
      have hgx : w4.grownBy (w4.alloc (.cells #[.int .i64 a0_0, .slice (some ⟨g4, 0, none⟩) n0 n0] 26)) none := World.grownBy_alloc _ _ _
      have HR5 := Lib.hid (HR4.out.on hgx); have HB5 := Lib.hid (HB4.out.on hgx); have HI5 := Lib.hid (HI4.out.on hgx); have HA5 := Lib.hid (HA4.out.on hgx); have HG5 := Lib.hid (Cell.grown_trans HG4.out hgx)
      clear hgx HR4 HB4 HI4 HA4 HG4 d0 d1 k0 k1 k2
      have x0 := hx.c0; have x1 := hx.c1
      have HX5 := Lib.hid hx; clear hx
      generalize w4.alloc (.cells #[.int .i64 a0_0, .slice (some ⟨g4, 0, none⟩) n0 n0] 26) = w5 at *
      obtain ⟨j0, j1, j2, -⟩ := HI5.out
      go_cut [8] from 21 to 24 (fun v wx => v = .int .i64 (Mesh.leafOf xs0 (a1_0, a1_1, a1_2)) ∧ Hid (w5.grownBy wx none))
      case first =>
        go_region_with (first
          | (go_at_call 33; (with_reducible refine (Cell.toId_g a1_0 a1_1 a1_2 _).mono ?_); rintro e w6 ⟨rfl, hg⟩; have hd := Cell.grown_trans (by first | exact Mesh.g_drew (Cell.grown_refl w5) | exact Cell.grown_refl w5) hg; have hx := HX5.out.on hd; have y0 := hx.c0; have y1 := hx.c1; have HR6 := Lib.hid (HR5.out.on hd); have HD6 := Lib.hid hd; clear hg hd hx)
          | (go_at_call 17; (with_reducible refine (Mesh.leafOf_is a0_0 a1_0 a1_1 a1_2 _ n0 n0 xs0 _ (HR6.out.on (by first | exact Mesh.g_drew (Cell.grown_refl _) | exact Cell.grown_refl _)) HN.out).mono ?_); rintro e w7 ⟨rfl, hg⟩; have HD7 := Lib.hid (Cell.grown_trans (Cell.grown_trans HD6.out (by first | exact Mesh.g_drew (Cell.grown_refl _) | exact Cell.grown_refl _)) hg); clear hg))
        all_goals (go_wp2_with fail; go_meet; exact ⟨rfl, HD7⟩)
      case rest =>
        obtain ⟨rfl, HD⟩ := hcut
        have hb := HB5.out.on HD.out
        have d0 := hb.c0; have d1 := hb.c1
        have hx := HX5.out.on HD.out
        have z0 := hx.c0; have z1 := hx.c1
        have HX := Lib.hid hx; clear hx hb
        have HA6 := Lib.hid (HA5.out.on HD.out)
        have HR6 := Lib.hid (HR5.out.on HD.out)
        have HG6 := Lib.hid (Cell.grown_trans HG5.out HD.out)
        clear x0 x1 j0 j1 j2 HA5 HB5 HI5 HR5 HX5 HG5 HD
        go_upto_region 10 with fail
        go_region_with (first
          | (go_at_call 30; (with_reducible refine (Mesh.to_is a0_0 a0_1 n0 c0 xs0 _ (HA6.out.on (by first | exact Mesh.g_drew (Cell.grown_refl _) | exact Cell.grown_refl _)) HN.out).mono ?_); rintro e w7 ⟨g7, rfl, hr, hg⟩; have hd := Cell.grown_trans (by first | exact Mesh.g_drew (Cell.grown_refl wc) | exact Cell.grown_refl wc) hg; have hx := HX.out.on hd; have y0 := hx.c0; have y1 := hx.c1; have HR7 := Lib.hid hr; have HQ7 := Lib.hid (HR6.out.on hd); have HG7 := Lib.hid (Cell.grown_trans HG6.out hd); clear hr hg hd hx HX HA6 HG6)
          | (go_at_call 25; (with_reducible refine (Mesh.eq_is a0_0 _ _ n0 n0 _ _ xs0 _ (HQ7.out.on (by first | exact Mesh.g_drew (Cell.grown_refl _) | exact Cell.grown_refl _)) (HR7.out.on (by first | exact Mesh.g_drew (Cell.grown_refl _) | exact Cell.grown_refl _)) HN.out HN.out).mono ?_); rintro e w8 ⟨rfl, hg⟩; have HG8 := Lib.hid (Cell.grown_trans (Cell.grown_trans HG7.out (by first | exact Mesh.g_drew (Cell.grown_refl _) | exact Cell.grown_refl _)) hg); clear hg))
        all_goals go_wp2_with fail
        all_goals go_ret
        all_goals exact ⟨rfl, Cell.grown_below HG8.out (Nat.le_refl _)⟩
  · have hs : (if n0 ≤ 1048576 then 1048576 - (n0 : Int) else -1) = -1 := if_neg hn
    have HS := Lib.hid hs; clear hs hn
    go_enter Try.func8, Try.ntmps8
    go_wp2_with (go_at_call 28; (with_reducible refine (Mesh.sz_is _ _ _ _ HM.out _).mono ?_); rw [HS.out]; rintro e w1 ⟨rfl, hg⟩; have HG := Lib.hid (Cell.grown_trans (Cell.g_alloc (Cell.g_alloc (Cell.grown_refl _) _) _) hg); clear hg)
    go_ret
    exact ⟨rfl, Cell.grown_below HG.out (Nat.le_refl _)⟩

set_option maxRecDepth 100000 in
theorem lifted (os : Os) (started : os.Started) (H : Type) (enc : TypeId × Value → H) :
    ReturnsInHanded {} Try.checked os 8 .any (Rows.fnExactLeafOfSpec.pre6 enc Try.prog Try.f8 Rows.fnExactLeafOfRow.domain false) (Rows.fnExactLeafOfSpec.post enc Try.prog Try.f8 false true false false) := by
  refine returnsInHanded_of_change (C := Try.checked) own started (by kernel_rfl) Try.func8
    (ChangeSpec.witness6 (enc := enc) (C := Try.checked) false ⟨#[], #[.agg #[.int .i64 0, .slice none 0 0], .agg #[.int .i64 0, .int .i64 0, .int .i64 0]], []⟩ 8 (by kernel_rfl) (by kernel_rfl) (by kernel_rfl) (by kernel_rfl)) ?_
  intro W base args ds gs before hval0 hW hcnd _
  have hval : ∀ (j : Nat) t v, Try.f8.params[j]? = some t → args[j]? = some v → Value.okWide Try.prog W .any base t v := hval0
  have hW' := hW
  obtain ⟨p, q, hA0, hV, rfl, hfz, hnd⟩ := hW
  have hA : DataW.TrodAll enc Try.prog W 0 (fun _ => true) true Try.f8.params.toList args.toList ds p := hA0
  rw [Try.params8] at hA hval
  obtain ⟨v0, vs0, d0, ds0, p0, q0, hargs, rfl, rfl, h0, r0⟩ := trodAll_cons hA
  obtain ⟨v1, vs1, d1, ds1, p1, q1, rfl, rfl, rfl, h1, r1⟩ := trodAll_cons r0
  obtain ⟨rfl, rfl, rfl⟩ := trodAll_nil r1
  obtain rfl : args = #[v0, v1] := by cases args; simp_all
  obtain ⟨rfl, rfl⟩ := trodVars_none hV
  have lt0 : ∀ x ∈ p0, x.block < W.heap.size := by obtain ⟨m, hm⟩ := h0; exact DataW.trod_lt m _ _ _ hm
  obtain ⟨k0_0, k0_1, y0_0, y0_1, m0, rfl, rfl, rfl, hy0_0, hy0_1⟩ := open_agg2 Try.underlying44 (by kernel_rfl) cells44 (hval 0 44 v0 rfl rfl) h0
  obtain ⟨a0_0, e0_0, rfl, -⟩ := DataW.trod_int Try.underlying3 hy0_0
  simp at e0_0
  subst e0_0
  obtain ⟨a0_1, n0, c0, xs0, rfl, hn0, hr0⟩ := Mesh.open_ids hy0_1
  obtain ⟨c1_0, c1_1, c1_2, y1_0, y1_1, y1_2, m1, rfl, rfl, rfl, hy1_0, hy1_1, hy1_2⟩ := open_agg3 Try.underlying49 (by kernel_rfl) cells49 (hval 1 49 v1 rfl rfl) h1
  obtain ⟨a1_0, e1_0, rfl, w1_0⟩ := DataW.trod_int Try.underlying3 hy1_0
  obtain ⟨a1_1, e1_1, rfl, w1_1⟩ := DataW.trod_int Try.underlying3 hy1_1
  obtain ⟨a1_2, e1_2, rfl, w1_2⟩ := DataW.trod_int Try.underlying3 hy1_2
  simp at e1_0 e1_1 e1_2
  subst e1_0 e1_1 e1_2
  have shut1 : ∀ (W' : World) (sp : Nat → Bool), DataW.Trod enc Try.prog W' 0 sp true 49 (.agg #[.int .i64 a1_0, .int .i64 a1_1, .int .i64 a1_2]) (.agg [.lit (.int .i64 a1_0), .lit (.int .i64 a1_1), .lit (.int .i64 a1_2)]) [] := fun W' sp =>
    shut_agg3 (y0 := (.lit (.int .i64 a1_0), [])) (y1 := (.lit (.int .i64 a1_1), [])) (y2 := (.lit (.int .i64 a1_2), [])) Try.underlying49 (by kernel_rfl) cells49 ⟨1, by simp [DataW.trod, Try.underlying3, w1_0]⟩ ⟨1, by simp [DataW.trod, Try.underlying3, w1_1]⟩ ⟨1, by simp [DataW.trod, Try.underlying3, w1_2]⟩
  clear hA0 hval0
  simp only [List.append_nil] at hW'
  refine (walk a0_0 a0_1 n0 c0 xs0 a1_0 a1_1 a1_2 w1_0 w1_1 w1_2 W hn0 hr0).mono fun e W' ⟨he, bel⟩ => ?_
  subst he
  exact ⟨_, rfl, _, _, _, [], _, [], hW', (trodAll_cons_mk (shut_bool Try.underlying4 _) trodAll_mk0), (trodAll_cons_mk (Below.trod laidOut (by kernel_rfl) (of_decide_eq_true (by kernel_rfl)) h0 bel lt0) (trodAll_cons_mk (shut1 _ _) trodAll_mk0)), rfl, bel.frame _, fun h => by cases h⟩

theorem over : Rows.fnExactLeafOfRow.holds Try.pinned (OpenSpec.ofChange Rows.fnExactLeafOfSpec) :=
  OpenClaim.holds_of_wide 8 Try.f8 rfl rfl rfl rfl rfl rfl rfl ⟨rfl, rfl, rfl, rfl, rfl⟩ rfl rfl rfl rfl rfl (by kernel_rfl) Try.func8 (by kernel_rfl)
    (of_decide_eq_true (by kernel_rfl)) (by unfold Func.isWrapper; first | (rw [if_pos (by decide +kernel)]; kernel_rfl) | (rw [if_neg (by decide +kernel)]; exact ⟨rfl, rfl⟩))
    (fun os started H enc _ => lifted os started H enc)

theorem proved : Rows.FnExactLeafOfSaid := over
#print axioms proved
end Go.Proofs.Ytjhfjceieaanhaa.fnExactLeafOf
