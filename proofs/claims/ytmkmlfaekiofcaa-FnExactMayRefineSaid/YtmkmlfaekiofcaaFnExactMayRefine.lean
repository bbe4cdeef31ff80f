/- Proved: for all meshes and numbers of leaves the law FnExactMayRefine returns true, that is, the program's MayRefine answers as the reference model's MayRefine.
   Conditions: none besides those that the given row prints. -/
import Derived.Test.YtmkmlfaekiofcaaRows
import Derived.WalkKit
import Derived.ProofKit
import Derived.OpenShut
import Derived.ShutString
import Derived.ChangeOld
import Derived.Below
import Derived.ChangeSame
import Derived.Lib.SmallJoins
import Derived.Test.YtmkmlfaekiofcaaMMay
import Derived.Test.YtmkmlfaekiofcaaMMayS
import Derived.Test.YtmkmlfaekiofcaaMOpen
namespace Go.Proofs.Ytmkmlfaekiofcaa.fnExactMayRefine
open Go.ChangeShapes Go.WideShapes Go.ChangeAt Go.RowKit Go.Joins
set_option linter.unusedVariables false

theorem own : ownKnob Try.prog.godebug = none := by kernel_rfl
theorem laidOut : laidOutB Try.prog = true := by kernel_rfl
theorem cells39 : Try.prog.cellsOf 39 = 2 := by kernel_rfl

set_option maxHeartbeats 4000000 in
theorem walk (a0_0 : Int) (a0_1 : Option Addr) (n0 c0 : Nat) (xs0 : List Mesh.C3) (a1 : Int) (w1 : (Lit.int .i64 a1).wf = true) (w : World) (hn0 : n0 ≤ maxLen) (hr0 : Mesh.ReadsAt w a0_1 n0 xs0) :
    Calls Try.prog 5 #[.agg #[.int .i64 a0_0, .slice a0_1 n0 c0], .int .i64 a1] w fun e w' => e = .returned (.bool true) ∧ Below w.heap.size w w' := by
  have HR := Lib.hid hr0; have HM := Lib.hid hn0; clear hr0 hn0
  by_cases hn : n0 ≤ 1048576
  · have hs : (if n0 ≤ 1048576 then 1048576 - (n0 : Int) else -1) = 1048576 - n0 := if_pos hn
    have hni : (n0 : Int) ≤ 1048576 := by omega
    have HN := Lib.hid hn; clear hn
    have HS := Lib.hid hs; clear hs
    obtain ⟨w0, hw0⟩ : ∃ w0, w0 = w.alloc (.cells #[.int .i64 a0_0, .slice a0_1 n0 c0] 39) := ⟨_, rfl⟩
    have HB0 := Lib.hid (show Mesh.BoxM w0 w.heap.size a0_0 (.slice a0_1 n0 c0) from hw0 ▸ Mesh.boxM_new _ _ _ _)
    have HA0 := Lib.hid (show Mesh.ReadsAt w0 a0_1 n0 xs0 from hw0 ▸ HR.out.on (Cell.g_alloc (Cell.grown_refl _) _))
    have HG0 := Lib.hid (show w.grownBy w0 none from hw0 ▸ Cell.g_alloc (Cell.grown_refl _) _)
    have HC := Lib.hid hw0; clear hw0
    go_enter Try.func5, Try.ntmps5
    go_wp2_with (first
      | (go_at_call 23; rw [← HC.out]; (with_reducible refine (Mesh.sz_is _ _ _ _ HM.out _).mono ?_); rw [HS.out]; rintro e w1 ⟨rfl, hg⟩; have hb := HB0.out.on hg; have b0 := hb.c0; have b1 := hb.c1; have HB1 := Lib.hid hb; have HA1 := Lib.hid (HA0.out.on hg); have HG1 := Lib.hid (Cell.grown_trans HG0.out hg); clear hb hg)
      | (go_at_call 25; (with_reducible refine (Mesh.to_is _ _ _ _ _ w1 HA1.out HN.out).mono ?_); rintro e w2 ⟨g2, rfl, hr, hg⟩; have HR2 := Lib.hid hr; have HB2 := Lib.hid (HB1.out.on hg); have HA2 := Lib.hid (HA1.out.on hg); have HG2 := Lib.hid (Cell.grown_trans HG1.out hg); clear hr hg HB1 HA1 HG1)
      | (go_at_call 24; (with_reducible refine (Mesh.specMayRef_is _ _ _ _ _ _ _ HR2.out HN.out).mono ?_); rintro e w3 ⟨rfl, hg⟩; have hb := HB2.out.on hg; have d0 := hb.c0; have d1 := hb.c1; have HB3 := Lib.hid hb; have HA3 := Lib.hid (HA2.out.on hg); have HG3 := Lib.hid (Cell.grown_trans HG2.out hg); clear hb hg HR2 HB2 HA2 HG2)
      | (go_at_call 25; (with_reducible refine (Mesh.to_is _ _ _ _ _ w3 HA3.out HN.out).mono ?_); rintro e w4 ⟨g4, rfl, hr, hg⟩; have HR4 := Lib.hid hr; have HB4 := Lib.hid (HB3.out.on hg); have HA4 := Lib.hid (HA3.out.on hg); have HG4 := Lib.hid (Cell.grown_trans HG3.out hg); clear hr hg HB3 HA3 HG3)
      | (go_at_call 17; (with_reducible refine (Mesh.mayRef_is _ _ _ _ _ _ _ (HR4.out.past _) HN.out).mono ?_); rintro e w6 ⟨rfl, hg⟩; have hb := (HB4.out.on (World.grownBy_alloc _ _ _)).on hg; have hx := (Mesh.boxM_new w4 26 a0_0 (.slice (some ⟨g4, 0, none⟩) n0 n0)).on hg; have e0 := hb.c0; have e1 := hb.c1; have x0 := hx.c0; have x1 := hx.c1; have HR6 := Lib.hid ((HR4.out.past _).on hg); have HA6 := Lib.hid ((HA4.out.on (World.grownBy_alloc _ _ _)).on hg); have HG6 := Lib.hid (Cell.grown_trans (Cell.g_alloc HG4.out _) hg); have HX := Lib.hid hx; clear hb hx hg HR4 HB4 HA4 HG4))
    go_region_with (first
      | (go_at_call 25; (with_reducible refine (Mesh.to_is a0_0 a0_1 n0 c0 xs0 _ (HA6.out.on (by first | exact Mesh.g_drew (Cell.grown_refl _) | exact Cell.grown_refl _)) HN.out).mono ?_); rintro e w7 ⟨g7, rfl, hr, hg⟩; have hd := Cell.grown_trans (by first | exact Mesh.g_drew (Cell.grown_refl w6) | exact Cell.grown_refl w6) hg; have hx := HX.out.on hd; have y0 := hx.c0; have y1 := hx.c1; have HR7 := Lib.hid hr; have HQ7 := Lib.hid (HR6.out.on hd); have HG7 := Lib.hid (Cell.grown_trans HG6.out hd); clear hr hg hd hx HX HA6 HG6)
      | (go_at_call 26; (with_reducible refine (Mesh.eq_is a0_0 _ _ n0 n0 _ _ xs0 _ (HQ7.out.on (by first | exact Mesh.g_drew (Cell.grown_refl _) | exact Cell.grown_refl _)) (HR7.out.on (by first | exact Mesh.g_drew (Cell.grown_refl _) | exact Cell.grown_refl _)) HN.out HN.out).mono ?_); rintro e w8 ⟨rfl, hg⟩; have HG8 := Lib.hid (Cell.grown_trans (Cell.grown_trans HG7.out (by first | exact Mesh.g_drew (Cell.grown_refl _) | exact Cell.grown_refl _)) hg); clear hg))
    all_goals go_wp2_with fail
    all_goals go_ret
    all_goals exact ⟨rfl, Cell.grown_below HG8.out (Nat.le_refl _)⟩
  · have hs : (if n0 ≤ 1048576 then 1048576 - (n0 : Int) else -1) = -1 := if_neg hn
    have HS := Lib.hid hs; clear hs hn
    go_enter Try.func5, Try.ntmps5
    go_wp2_with (go_at_call 23; (with_reducible refine (Mesh.sz_is _ _ _ _ HM.out _).mono ?_); rw [HS.out]; rintro e w1 ⟨rfl, hg⟩; have HG := Lib.hid (Cell.grown_trans (Cell.g_alloc (Cell.grown_refl _) _) hg); clear hg)
    go_ret
    exact ⟨rfl, Cell.grown_below HG.out (Nat.le_refl _)⟩

set_option maxRecDepth 100000 in
theorem lifted (os : Os) (started : os.Started) (H : Type) (enc : TypeId × Value → H) :
    ReturnsInHanded {} Try.checked os 5 .any (Rows.fnExactMayRefineSpec.pre6 enc Try.prog Try.f5 Rows.fnExactMayRefineRow.domain false) (Rows.fnExactMayRefineSpec.post enc Try.prog Try.f5 false true false false) := by
  refine returnsInHanded_of_change (C := Try.checked) own started (by kernel_rfl) Try.func5
    (ChangeSpec.witness6 (enc := enc) (C := Try.checked) false ⟨#[], #[.agg #[.int .i64 0, .slice none 0 0], .int .i64 0], []⟩ 8 (by kernel_rfl) (by kernel_rfl) (by kernel_rfl) (by kernel_rfl)) ?_
  intro W base args ds gs before hval0 hW hcnd _
  have hval : ∀ (j : Nat) t v, Try.f5.params[j]? = some t → args[j]? = some v → Value.okWide Try.prog W .any base t v := hval0
  have hW' := hW
  obtain ⟨p, q, hA0, hV, rfl, hfz, hnd⟩ := hW
  have hA : DataW.TrodAll enc Try.prog W 0 (fun _ => true) true Try.f5.params.toList args.toList ds p := hA0
  rw [Try.params5] at hA hval
  obtain ⟨v0, vs0, d0, ds0, p0, q0, hargs, rfl, rfl, h0, r0⟩ := trodAll_cons hA
  obtain ⟨v1, vs1, d1, ds1, p1, q1, rfl, rfl, rfl, h1, r1⟩ := trodAll_cons r0
  obtain ⟨rfl, rfl, rfl⟩ := trodAll_nil r1
  obtain rfl : args = #[v0, v1] := by cases args; simp_all
  obtain ⟨rfl, rfl⟩ := trodVars_none hV
  have lt0 : ∀ x ∈ p0, x.block < W.heap.size := by obtain ⟨m, hm⟩ := h0; exact DataW.trod_lt m _ _ _ hm
  obtain ⟨k0_0, k0_1, y0_0, y0_1, m0, rfl, rfl, rfl, hy0_0, hy0_1⟩ := open_agg2 Try.underlying39 (by kernel_rfl) cells39 (hval 0 39 v0 rfl rfl) h0
  obtain ⟨a0_0, e0_0, rfl, -⟩ := DataW.trod_int Try.underlying3 hy0_0
  simp at e0_0
  subst e0_0
  obtain ⟨a0_1, n0, c0, xs0, rfl, hn0, hr0⟩ := Mesh.open_ids hy0_1
  obtain ⟨a1, rfl, rfl, rfl, w1⟩ := open_int Try.underlying3 (hval 1 3 v1 rfl rfl) h1
  clear hA0 hval0
  simp only [List.append_nil] at hW'
  refine (walk a0_0 a0_1 n0 c0 xs0 a1 w1 W hn0 hr0).mono fun e W' ⟨he, bel⟩ => ?_
  subst he
  exact ⟨_, rfl, _, _, _, [], _, [], hW', (trodAll_cons_mk (shut_bool Try.underlying4 _) trodAll_mk0), (trodAll_cons_mk (Below.trod laidOut (by kernel_rfl) (of_decide_eq_true (by kernel_rfl)) h0 bel lt0) (trodAll_cons_mk (shut_int Try.underlying3 w1) trodAll_mk0)), rfl, bel.frame _, fun h => by cases h⟩

theorem over : Rows.fnExactMayRefineRow.holds Try.pinned (OpenSpec.ofChange Rows.fnExactMayRefineSpec) :=
  OpenClaim.holds_of_wide 5 Try.f5 rfl rfl rfl rfl rfl rfl rfl ⟨rfl, rfl, rfl, rfl, rfl⟩ rfl rfl rfl rfl rfl (by kernel_rfl) Try.func5 (by kernel_rfl)
    (of_decide_eq_true (by kernel_rfl)) (by unfold Func.isWrapper; first | (rw [if_pos (by decide +kernel)]; kernel_rfl) | (rw [if_neg (by decide +kernel)]; exact ⟨rfl, rfl⟩))
    (fun os started H enc _ => lifted os started H enc)

theorem proved : Rows.FnExactMayRefineSaid := over
#print axioms proved
end Go.Proofs.Ytmkmlfaekiofcaa.fnExactMayRefine
