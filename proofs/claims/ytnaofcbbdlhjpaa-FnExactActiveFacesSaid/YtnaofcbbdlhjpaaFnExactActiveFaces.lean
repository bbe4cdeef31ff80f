/- Proved: for all arguments the law FnExactActiveFaces returns true, that is, the program's ActiveFaces answers as the reference model's ActiveFaces, and writes into no argument, and its answer owns its memory.
   Conditions: none besides those that the given row prints. -/
import Derived.Test.YtnaofcbbdlhjpaaRows
import Derived.WalkKit
import Derived.ProofKit
import Derived.OpenShut
import Derived.ShutString
import Derived.ChangeOld
import Derived.Below
import Derived.ChangeSame
import Derived.Lib.SmallJoins
import Derived.Test.YtnaofcbbdlhjpaaStStepB
namespace Go.Proofs.Ytnaofcbbdlhjpaa.fnExactActiveFaces
open Go.ChangeShapes Go.WideShapes Go.ChangeAt Go.RowKit Go.Joins
set_option linter.unusedVariables false
set_option maxRecDepth 100000

theorem own : ownKnob Try.prog.godebug = none := by kernel_rfl
theorem laidOut : laidOutB Try.prog = true := by kernel_rfl
theorem cells47 : Try.prog.cellsOf 47 = 2 := by kernel_rfl

set_option maxHeartbeats 16000000 in
theorem walk (a0_0 : Int) (a0_1 : Option Addr) (n0 c0 : Nat) (xs0 : List Mesh.C3) (a1 : Int) (w1 : (Lit.int .i64 a1).wf = true) (w : World) (hn0 : n0 ≤ maxLen) (hr0 : Mesh.ReadsAt w a0_1 n0 xs0) :
    Calls Try.prog 10 #[.agg #[.int .i64 a0_0, .slice a0_1 n0 c0], .int .i64 a1] w fun e w' => e = .returned (.bool true) ∧ Below w.heap.size w w' := by
  have HR0 := Lib.hid hr0
  have HM0 := Lib.hid hn0
  clear hr0 hn0
  obtain ⟨r0, hl0, hs0⟩ := State.szMesh_is a0_0 a0_1 n0 c0 1048576 HM0.out (by omega) (by omega)
  have HS0 := Lib.hid hs0; clear hs0
  rcases hl0 with ⟨hk0, hl0⟩ | rfl
  case inr =>
    have he := (Law.Held.nil w).box 47 #[.int .i64 a0_0, .slice a0_1 n0 c0]
    try simp only [World.size_alloc] at he
    have HE0 := Lib.hid he; clear he
    go_enter Try.func10, Try.ntmps10
    go_upto_region 2 with fail
    generalize w.alloc (.cells #[.int .i64 a0_0, .slice a0_1 n0 c0] 47) = W0 at *
    obtain ⟨p0, p1⟩ := Law.box2 (HE0.out.nth 0 rfl)
    go_wp2_with (go_at_call 38; ((with_reducible refine (HS0.out _).mono ?_); rintro e w1 ⟨rfl, hg⟩; have HE1 := Lib.hid (HE0.out.on hg); clear hg))
    go_ret
    exact ⟨rfl, Cell.grown_below HE1.out.gr (Nat.le_refl _)⟩
  case inl =>
    have Hn0 : Hid (n0 ≤ 1048576) := Lib.hid (by omega)
    obtain ⟨m1, ys, zm1, hS, hI⟩ := State.both_ActiveFaces a0_0 n0 xs0 HR0.out.len Hn0.out a1 w1
    have Hm1 := Lib.hid zm1
    have in0 : (n0 : Int) ≤ 1048576 := by have := Hn0.out; omega
    have HSB := Lib.hid hS; have HIB := Lib.hid hI; clear hS hI zm1
    clear hl0
    obtain ⟨k0, ek0⟩ : ∃ s : Nat, s = 1 + 3 * n0 := ⟨_, rfl⟩
    obtain ⟨kg, ekg⟩ : ∃ s : Nat, s = 1 + m1 := ⟨_, rfl⟩
    have EK0 := Lib.hid ek0; have pk0 : ¬ (k0 : Int) < 0 := by omega
    have bk0 : Hid (k0 ≤ 549755813888) := Lib.hid (by have := Hn0.out; omega)
    have EKG := Lib.hid ekg; have pkg : ¬ (kg : Int) < 0 := by omega
    clear ek0 ekg
    have he := (Law.Held.nil w).box 47 #[.int .i64 a0_0, .slice a0_1 n0 c0]
    try simp only [World.size_alloc] at he
    have HE0 := Lib.hid he; clear he
    go_enter Try.func10, Try.ntmps10
    go_upto_region 2 with fail
    generalize w.alloc (.cells #[.int .i64 a0_0, .slice a0_1 n0 c0] 47) = W0 at *
    obtain ⟨p0, p1⟩ := Law.box2 (HE0.out.nth 0 rfl)
    go_upto_region 5 with (go_at_call 38; ((with_reducible refine (HS0.out _).mono ?_); rintro e w1 ⟨rfl, hg⟩; have HE1 := Lib.hid (HE0.out.on hg); clear hg))
    clear p0 p1 HE0 HS0
    obtain ⟨b0_0, b0_1⟩ := Law.box2 (HE1.out.nth 0 rfl)
    go_upto_region 6 with (first | (go_at_call 40; ((with_reducible refine (Mesh.to_own _ _ _ _ xs0 _ (HR0.out.on HE1.out.gr) Hn0.out).mono ?_); rintro e u1 ⟨g1_1, rfl, ho, hg⟩; have HE2 := Lib.hid (HE1.out.row hg ho); clear ho hg)) | (go_at_call 39; ((with_reducible refine (HSB.out _ _ _ (Mesh.own_reads (HE2.out.nth 1 rfl))).mono ?_); rintro e u2 ⟨q2_1, d2_1, rfl, ho, hg⟩; have HE3 := Lib.hid (HE2.out.row hg ho); clear ho hg)))
    clear b0_0 b0_1 HE1 HE2
    obtain ⟨b0_0, b0_1⟩ := Law.box2 (HE3.out.nth 0 rfl)
    go_upto_region 7 with (go_at_call 40; ((with_reducible refine (Mesh.to_own _ _ _ _ xs0 _ (HR0.out.on HE3.out.gr) Hn0.out).mono ?_); rintro e u3 ⟨g3_1, rfl, ho, hg⟩; have HE4 := Lib.hid (HE3.out.row hg ho); clear ho hg))
    clear b0_0 b0_1 HE3
    have HE5 := Lib.hid (HE4.out.box 26 #[.int .i64 a0_0, .slice (some ⟨g3_1, 0, none⟩) n0 n0]); clear HE4
    obtain ⟨B4, hB4⟩ : ∃ B, B = u3.heap.size := ⟨_, rfl⟩
    rw [← hB4] at HE5 ⊢
    clear hB4
    generalize u3.alloc (.cells #[.int .i64 a0_0, .slice (some ⟨g3_1, 0, none⟩) n0 n0] 26) = V4 at *
    obtain ⟨x0_0, x0_1⟩ := Law.box2 (HE5.out.nth 4 rfl)
    go_upto_region 8 with (go_at_call 27; ((with_reducible refine (HIB.out _ _ _ (Mesh.own_reads (HE5.out.nth 3 rfl))).mono ?_); rintro e u5 ⟨q5_1, d5_1, rfl, ho, hg⟩; have HE6 := Lib.hid (HE5.out.row hg ho); clear ho hg))
    clear x0_0 x0_1 HE5
    go_upto_region 10 with (go_at_call 41; ((with_reducible refine (Ints.eqI_is _ _ _ _ _ ys _ (Ints.own_readsI (HE6.out.nth 5 rfl)) (Ints.own_readsI (HE6.out.nth 2 rfl)) Hm1.out).mono ?_); rintro e u6 ⟨rfl, hg⟩; have HE7 := Lib.hid (HE6.out.on hg); clear hg))
    clear HE6
    go_cut [35] from 31 to 34 (fun v wx => v = .bool false ∧ Hid (Law.Held w wx (Law.gsOf HE7.out)))
    case first =>
      obtain ⟨b0_0, b0_1⟩ := Law.box2 (HE7.out.nth 0 rfl)
      obtain ⟨x0, x1⟩ := Law.box2 (HE7.out.nth 4 rfl)
      go_region_with (first | (go_at_call 40; ((with_reducible refine (Mesh.to_own _ _ _ _ xs0 _ (HR0.out.on (Mesh.gr_drew HE7.out.gr)) Hn0.out).mono ?_); rintro e u7 ⟨z1, rfl, ho, hg⟩; have hE := HE7.out.on (Cell.grown_trans (Mesh.gr_drew (Cell.grown_refl _)) hg); obtain ⟨s0, s1⟩ := Law.box2 (hE.nth 4 rfl); have HRR := Lib.hid (Mesh.own_reads ho); have HEA := Lib.hid hE; clear ho hg hE)) | (go_at_call 42; ((with_reducible refine (Mesh.eq_is _ _ _ _ _ _ _ xs0 _ (Mesh.own_reads (HEA.out.nth 3 rfl)) HRR.out Hn0.out Hn0.out).mono ?_); rintro e u8 ⟨rfl, hg⟩; have HEB := Lib.hid (HEA.out.on hg); clear hg)))
      all_goals
        go_wp2_with fail
        go_meet
        exact ⟨rfl, HEB⟩
    case rest =>
      obtain ⟨rfl, HE8⟩ := hcut
      dsimp only [Law.gsOf] at HE8
      clear HE7
      obtain ⟨x0, x1⟩ := Law.box2 (HE8.out.nth 4 rfl)
      go_upto_region 14 with (go_at_call 43; ((with_reducible refine (State.markM1 _ Hn0.out (HE8.out.nth 3 rfl)).mono ?_); rw [← EK0.out]; rintro e u9 ⟨rfl, ho, ht⟩; have HE9 := Lib.hid (HE8.out.turn 3 rfl (g' := Law.rowG 68 3 (.slice (some ⟨g3_1, 0, none⟩) n0 n0) n0 (Mesh.flatC (State.marksC 1 n0))) (Law.Turned.of ht) rfl ho); clear ho ht))
      clear x0 x1 HE8
      go_upto_region 17 with (go_at_call 41; ((with_reducible refine (Ints.eqI_is _ _ _ _ _ ys _ (Ints.own_readsI (HE9.out.nth 5 rfl)) (Ints.own_readsI (HE9.out.nth 2 rfl)) Hm1.out).mono ?_); rintro e u10 ⟨rfl, hg⟩; have HE10 := Lib.hid (HE9.out.on hg); clear hg))
      clear HE9
      go_upto_region 19 with (go_at_call 44; ((with_reducible refine (Ints.markI1 Hm1.out (HE10.out.nth 5 rfl)).mono ?_); rw [← EKG.out]; rintro e u11 ⟨rfl, ho, ht⟩; have HE11 := Lib.hid (HE10.out.turn 5 rfl (g' := Law.rowG 3 1 (.slice q5_1 m1 d5_1) m1 (Ints.vals (Ints.marksI 1 m1))) (Law.Turned.of ht) rfl ho); clear ho ht))
      clear HE10
      go_upto_region 24 with (go_at_call 45; ((with_reducible refine (Ints.heldI1 Hm1.out (Ints.own_readsI (HE11.out.nth 5 rfl))).mono ?_); rw [← EKG.out]; rintro e u12 ⟨rfl, rfl⟩; have HE12 := HE11))
      clear HE11
      obtain ⟨b0_0, b0_1⟩ := Law.box2 (HE12.out.nth 0 rfl)
      go_upto_region 25 with (first | (go_at_call 40; ((with_reducible refine (Mesh.to_own _ _ _ _ xs0 _ (HR0.out.on HE12.out.gr) Hn0.out).mono ?_); rintro e u13 ⟨g13_1, rfl, ho, hg⟩; have HE13 := Lib.hid (HE12.out.row hg ho); clear ho hg)) | (go_at_call 27; ((with_reducible refine (HIB.out _ _ _ (Mesh.own_reads (HE13.out.nth 6 rfl))).mono ?_); rintro e u14 ⟨q14_1, d14_1, rfl, ho, hg⟩; have HE14 := Lib.hid (HE13.out.row hg ho); clear ho hg)))
      clear b0_0 b0_1 HE12 HE13
      go_upto_region 28 with (go_at_call 41; ((with_reducible refine (Ints.eqI_is _ _ _ _ _ ys _ (Ints.own_readsI (HE14.out.nth 7 rfl)) (Ints.own_readsI (HE14.out.nth 2 rfl)) Hm1.out).mono ?_); rintro e u15 ⟨rfl, hg⟩; have HE15 := Lib.hid (HE14.out.on hg); clear hg))
      clear HE14
      go_wp2_with (go_at_call 45; ((with_reducible refine (Ints.heldI1 Hm1.out (Ints.own_readsI (HE15.out.nth 5 rfl))).mono ?_); rw [← EKG.out]; rintro e u16 ⟨rfl, rfl⟩; have HE16 := HE15))
      go_ret
      exact ⟨rfl, Cell.grown_below HE16.out.gr (Nat.le_refl _)⟩

set_option maxRecDepth 100000 in
theorem lifted (os : Os) (started : os.Started) (H : Type) (enc : TypeId × Value → H) :
    ReturnsInHanded {} Try.checked os 10 .any (Rows.fnExactActiveFacesSpec.pre6 enc Try.prog Try.f10 Rows.fnExactActiveFacesRow.domain false) (Rows.fnExactActiveFacesSpec.post enc Try.prog Try.f10 false true false false) := by
  refine returnsInHanded_of_change (C := Try.checked) own started (by kernel_rfl) Try.func10
    (ChangeSpec.witness6 (enc := enc) (C := Try.checked) false ⟨#[], #[.agg #[.int .i64 0, .slice none 0 0], .int .i64 0], []⟩ 8 (by kernel_rfl) (by kernel_rfl) (by kernel_rfl) (by kernel_rfl)) ?_
  intro W base args ds gs before hval0 hW hcnd _
  have hval : ∀ (j : Nat) t v, Try.f10.params[j]? = some t → args[j]? = some v → Value.okWide Try.prog W .any base t v := hval0
  have hW' := hW
  obtain ⟨p, q, hA0, hV, rfl, hfz, hnd⟩ := hW
  have hA : DataW.TrodAll enc Try.prog W 0 (fun _ => true) true Try.f10.params.toList args.toList ds p := hA0
  rw [Try.params10] at hA hval
  obtain ⟨v0, vs0, d0, ds0, p0, q0, hargs, rfl, rfl, h0, r0⟩ := trodAll_cons hA
  obtain ⟨v1, vs1, d1, ds1, p1, q1, rfl, rfl, rfl, h1, r1⟩ := trodAll_cons r0
  obtain ⟨rfl, rfl, rfl⟩ := trodAll_nil r1
  obtain rfl : args = #[v0, v1] := by cases args; simp_all
  obtain ⟨rfl, rfl⟩ := trodVars_none hV
  have lt0 : ∀ x ∈ p0, x.block < W.heap.size := by obtain ⟨m, hm⟩ := h0; exact DataW.trod_lt m _ _ _ hm
  obtain ⟨k0_0, k0_1, y0_0, y0_1, m0, rfl, rfl, rfl, hy0_0, hy0_1⟩ := open_agg2 Try.underlying47 (by kernel_rfl) cells47 (hval 0 47 v0 rfl rfl) h0
  obtain ⟨a0_0, e0_0, rfl, -⟩ := DataW.trod_int Try.underlying3 hy0_0
  simp at e0_0
  subst e0_0
  obtain ⟨a0_1, n0, c0, xs0, rfl, hn0, hr0⟩ := Mesh.open_ids hy0_1
  obtain ⟨a1, rfl, rfl, rfl, w1⟩ := open_int Try.underlying3 (hval 1 3 v1 rfl rfl) h1
  clear hA0 hval0
  simp only [List.append_nil] at hW'
  refine (walk a0_0 a0_1 n0 c0 xs0 a1 w1 W hn0 hr0).mono fun e W' ⟨he, bel⟩ => ?_
  subst he
  exact ⟨_, rfl, _, _, _, [], _, [], hW', (trodAll_cons_mk (shut_bool Try.underlying4 _) trodAll_mk0), (trodAll_cons_mk (Below.trod laidOut (by kernel_rfl) (of_decide_eq_true (by kernel_rfl)) h0 bel lt0) (trodAll_cons_mk (shut_int Try.underlying3 w1) trodAll_mk0)), rfl, bel.frame _, fun h => by cases h⟩

theorem over : Rows.fnExactActiveFacesRow.holds Try.pinned (OpenSpec.ofChange Rows.fnExactActiveFacesSpec) :=
  OpenClaim.holds_of_wide 10 Try.f10 rfl rfl rfl rfl rfl rfl rfl ⟨rfl, rfl, rfl, rfl, rfl⟩ rfl rfl rfl rfl rfl (by kernel_rfl) Try.func10 (by kernel_rfl)
    (of_decide_eq_true (by kernel_rfl)) (by unfold Func.isWrapper; first | (rw [if_pos (by decide +kernel)]; kernel_rfl) | (rw [if_neg (by decide +kernel)]; exact ⟨rfl, rfl⟩))
    (fun os started H enc _ => lifted os started H enc)

theorem proved : Rows.FnExactActiveFacesSaid := over
#print axioms proved
end Go.Proofs.Ytnaofcbbdlhjpaa.fnExactActiveFaces
