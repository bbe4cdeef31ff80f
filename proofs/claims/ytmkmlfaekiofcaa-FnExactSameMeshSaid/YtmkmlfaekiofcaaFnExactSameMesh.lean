/- Proved: for all pairs of meshes the law FnExactSameMesh returns true, that is, the program's SameMesh answers as the reference model's SameMesh.
   Conditions: none besides those that the given row prints. -/
import Derived.Test.YtmkmlfaekiofcaaRows
import Derived.WalkKit
import Derived.ProofKit
import Derived.OpenShut
import Derived.ShutString
import Derived.ChangeOld
import Derived.Below
import Derived.ChangeSame
import Derived.Lib.SmallJoins
import Derived.Test.YtmkmlfaekiofcaaMSz
import Derived.Test.YtmkmlfaekiofcaaMOpen
namespace Go.Proofs.Ytmkmlfaekiofcaa.fnExactSameMesh
open Go.ChangeShapes Go.WideShapes Go.ChangeAt Go.RowKit Go.Joins
set_option linter.unusedVariables false

theorem own : ownKnob Try.prog.godebug = none := by kernel_rfl
theorem laidOut : laidOutB Try.prog = true := by kernel_rfl
theorem cells39 : Try.prog.cellsOf 39 = 2 := by kernel_rfl

set_option maxHeartbeats 8000000 in
theorem walk (a0_0 : Int) (a0_1 : Option Addr) (n0 c0 : Nat) (xs0 : List Mesh.C3) (a1_0 : Int) (a1_1 : Option Addr) (n1 c1 : Nat) (xs1 : List Mesh.C3) (w : World) (hn0 : n0 ≤ maxLen) (hr0 : Mesh.ReadsAt w a0_1 n0 xs0) (hn1 : n1 ≤ maxLen) (hr1 : Mesh.ReadsAt w a1_1 n1 xs1) :
    Calls Try.prog 9 #[.agg #[.int .i64 a0_0, .slice a0_1 n0 c0], .agg #[.int .i64 a1_0, .slice a1_1 n1 c1]] w fun e w' => e = .returned (.bool true) ∧ Below w.heap.size w w' := by
  have HR0 := Lib.hid hr0; have HM0 := Lib.hid hn0; clear hr0 hn0
  have HR1 := Lib.hid hr1; have HM1 := Lib.hid hn1; clear hr1 hn1
  have HT0 := Lib.hid (Mesh.TSt.new w a0_0 a1_0 (.slice a0_1 n0 c0) (.slice a1_1 n1 c1))
  by_cases hn : n0 ≤ 1048576
  · have HZ0 := Lib.hid (show (if (n0 : Int) ≤ 1048576 then (1048576 : Int) - n0 else -1) = 1048576 - n0 from if_pos (by omega))
    have hl : ¬ (1048576 : Int) - n0 < 0 := by omega
    by_cases hn1 : n0 + n1 ≤ 1048576
    · have HZ1 := Lib.hid (show (if (n1 : Int) ≤ 1048576 - (n0 : Int) then 1048576 - (n0 : Int) - n1 else -1) = 1048576 - (n0 : Int) - n1 from if_pos (by omega))
      have hl1 : ¬ (1048576 : Int) - n0 - n1 < 0 := by omega
      have HN0 := Lib.hid hn
      have HN1 := Lib.hid (show n1 ≤ 1048576 by omega)
      go_enter Try.func9, Try.ntmps9
      go_upto_region 2 with fail
      generalize (w.alloc (.cells #[.int .i64 a0_0, .slice a0_1 n0 c0] 39)).alloc (.cells #[.int .i64 a1_0, .slice a1_1 n1 c1] 39) = W0 at *
      have b0 := HT0.out.m0.c0
      have b1 := HT0.out.m0.c1
      go_upto_region 5 with (go_at_call 23; ((with_reducible refine (Mesh.sz_to a0_0 _ _ _ _ HM0.out (by omega) (by omega) _).mono ?_); rw [HZ0.out]; rintro e w1 ⟨rfl, hg⟩; have HT1 := Lib.hid (HT0.out.on hg); clear hg))
      clear b0 b1 HT0
      have b0 := HT1.out.m1.c0
      have b1 := HT1.out.m1.c1
      go_upto_region 8 with (go_at_call 23; ((with_reducible refine (Mesh.sz_to a1_0 _ _ _ _ HM1.out (by omega) (by omega) _).mono ?_); rw [HZ1.out]; rintro e w2 ⟨rfl, hg⟩; have HT2 := Lib.hid (HT1.out.on hg); clear hg))
      clear b0 b1 HT1 hn hn1 hl hl1 HZ0 HZ1
      go_cut [6] from 20 to 24 (fun v wx => v = .bool (Mesh.sameB a0_0 xs0 a1_0 xs1) ∧ Hid (Mesh.TSt w wx a0_0 (.slice a0_1 n0 c0) a1_0 (.slice a1_1 n1 c1)))
      case first =>
        have b0 := HT2.out.m0.c0
        have b1 := HT2.out.m0.c1
        have d0 := HT2.out.m1.c0
        have d1 := HT2.out.m1.c1
        go_region_with (first
          | (go_at_call 25; ((with_reducible refine (Mesh.to_is a0_0 a0_1 n0 c0 xs0 _ (HR0.out.on (Mesh.gr_drew HT2.out.gr)) HN0.out).mono ?_); rintro e w3 ⟨g3, rfl, hr, hg⟩; have hT := HT2.out.on (Cell.grown_trans (Mesh.gr_drew (Cell.grown_refl w2)) hg); have y0 := hT.m1.c0; have y1 := hT.m1.c1; have HQ3 := Lib.hid hr; have HT3 := Lib.hid hT; clear hr hg hT))
          | (go_at_call 25; ((with_reducible refine (Mesh.to_is a1_0 a1_1 n1 c1 xs1 _ (HR1.out.on HT3.out.gr) HN1.out).mono ?_); rintro e w4 ⟨g4, rfl, hr, hg⟩; have HQ4 := Lib.hid hr; have HP4 := Lib.hid (HQ3.out.on hg); have HT4 := Lib.hid (HT3.out.on hg); clear hr hg))
          | (go_at_call 22; ((with_reducible refine (Mesh.specSame_is a0_0 a1_0 _ _ n0 n1 _ _ xs0 xs1 _ HP4.out HQ4.out HN0.out HN1.out).mono ?_); rintro e w5 ⟨rfl, hg⟩; have HT5 := Lib.hid (HT4.out.on hg); clear hg)))
        all_goals
          go_wp2_with fail
          go_meet
          exact ⟨rfl, HT5⟩
      case rest =>
        clear HT2
        obtain ⟨rfl, HT⟩ := hcut
        have b0 := HT.out.m0.c0
        have b1 := HT.out.m0.c1
        go_upto_region 10 with (go_at_call 25; ((with_reducible refine (Mesh.to_is a0_0 a0_1 n0 c0 xs0 _ (HR0.out.on HT.out.gr) HN0.out).mono ?_); rintro e w6 ⟨g6, rfl, hr, hg⟩; have HQ6 := Lib.hid (hr.past (.cells #[.int .i64 a0_0, .slice (some ⟨g6, 0, none⟩) n0 n0] 26)); have HT6 := Lib.hid (HT.out.on (Cell.g_alloc hg (.cells #[.int .i64 a0_0, .slice (some ⟨g6, 0, none⟩) n0 n0] 26))); have HX6 := Lib.hid (Mesh.MBox.new w6 a0_0 (.slice (some ⟨g6, 0, none⟩) n0 n0)); clear hr hg))
        clear b0 b1 HT
        generalize w6.alloc (.cells #[.int .i64 a0_0, .slice (some ⟨g6, 0, none⟩) n0 n0] 26) = W6 at *
        generalize w6.heap.size = B6 at *
        have b0 := HT6.out.m1.c0
        have b1 := HT6.out.m1.c1
        go_upto_region 11 with (go_at_call 25; ((with_reducible refine (Mesh.to_is a1_0 a1_1 n1 c1 xs1 _ (HR1.out.on HT6.out.gr) HN1.out).mono ?_); rintro e w7 ⟨g7, rfl, hr, hg⟩; have HS7 := Lib.hid (show Mesh.SSt w (w7.alloc (.cells #[.int .i64 a1_0, .slice (some ⟨g7, 0, none⟩) n1 n1] 26)) a0_0 (.slice a0_1 n0 c0) a1_0 (.slice a1_1 n1 c1) B6 w7.heap.size (some ⟨g6, 0, none⟩) (some ⟨g7, 0, none⟩) n0 n1 n0 n1 xs0 xs1 from ⟨HT6.out.on (Cell.g_alloc hg _), (HX6.out.kept hg (by simp)).alloc _, Mesh.MBox.new w7 _ _, (HQ6.out.on hg).past _, hr.past _⟩); clear hr hg))
        clear b0 b1 HT6 HX6 HQ6
        obtain ⟨B7, hB7⟩ : ∃ B7, B7 = w7.heap.size := ⟨_, rfl⟩
        rw [← hB7] at HS7 ⊢
        clear hB7
        generalize w7.alloc (.cells #[.int .i64 a1_0, .slice (some ⟨g7, 0, none⟩) n1 n1] 26) = W7 at *
        have p0 := HS7.out.x0.c0
        have p1 := HS7.out.x0.c1
        have q0 := HS7.out.x1.c0
        have q1 := HS7.out.x1.c1
        go_upto_region 14 with (go_at_call 16; ((with_reducible refine (Mesh.sameMesh_is a0_0 a1_0 _ _ n0 n1 _ _ xs0 xs1 _ HS7.out.r0 HS7.out.r1 HN0.out HN1.out).mono ?_); rintro e w8 ⟨rfl, hg⟩; have HS8 := Lib.hid (HS7.out.on hg); clear hg))
        clear p0 p1 q0 q1 HS7
        go_cut [39] from 35 to 38 (fun v wx => v = .bool false ∧ Hid (Mesh.SSt w wx a0_0 (.slice a0_1 n0 c0) a1_0 (.slice a1_1 n1 c1) B6 B7 (some ⟨g6, 0, none⟩) (some ⟨g7, 0, none⟩) n0 n1 n0 n1 xs0 xs1))
        case first =>
          have b0 := HS8.out.t.m0.c0
          have b1 := HS8.out.t.m0.c1
          have x0 := HS8.out.x0.c0
          have x1 := HS8.out.x0.c1
          go_region_with (first
            | (go_at_call 25; ((with_reducible refine (Mesh.to_is a0_0 a0_1 n0 c0 xs0 _ (HR0.out.on (Mesh.gr_drew HS8.out.t.gr)) HN0.out).mono ?_); rintro e w9 ⟨g9, rfl, hr, hg⟩; have hS := HS8.out.on (Cell.grown_trans (Mesh.gr_drew (Cell.grown_refl w8)) hg); have y0 := hS.x0.c0; have y1 := hS.x0.c1; have HQ9 := Lib.hid hr; have HS9 := Lib.hid hS; clear hr hg hS))
            | (go_at_call 26; ((with_reducible refine (Mesh.eq_is a0_0 _ _ n0 n0 _ _ xs0 _ HS9.out.r0 HQ9.out HN0.out HN0.out).mono ?_); rintro e w10 ⟨rfl, hg⟩; have HS10 := Lib.hid (HS9.out.on hg); clear hg)))
          all_goals
            go_wp2_with fail
            go_meet
            exact ⟨rfl, HS10⟩
        case rest =>
          clear HS8
          obtain ⟨rfl, HS⟩ := hcut
          go_upto_region 16 with fail
          have b0 := HS.out.t.m1.c0
          have b1 := HS.out.t.m1.c1
          have x0 := HS.out.x1.c0
          have x1 := HS.out.x1.c1
          go_region_with (first
            | (go_at_call 25; ((with_reducible refine (Mesh.to_is a1_0 a1_1 n1 c1 xs1 _ (HR1.out.on (Mesh.gr_drew HS.out.t.gr)) HN1.out).mono ?_); rintro e w11 ⟨g11, rfl, hr, hg⟩; have hS := HS.out.on (Cell.grown_trans (Mesh.gr_drew (Cell.grown_refl _)) hg); have y0 := hS.x1.c0; have y1 := hS.x1.c1; have HQ11 := Lib.hid hr; have HS11 := Lib.hid hS; clear hr hg hS))
            | (go_at_call 26; ((with_reducible refine (Mesh.eq_is a1_0 _ _ n1 n1 _ _ xs1 _ HS11.out.r1 HQ11.out HN1.out HN1.out).mono ?_); rintro e w12 ⟨rfl, hg⟩; have HS12 := Lib.hid (HS11.out.on hg); clear hg)))
          all_goals go_wp2_with fail
          all_goals go_ret
          all_goals exact ⟨rfl, Cell.grown_below HS12.out.t.gr (Nat.le_refl _)⟩
    · have HZ1 := Lib.hid (show (if (n1 : Int) ≤ 1048576 - (n0 : Int) then 1048576 - (n0 : Int) - n1 else -1) = -1 from if_neg (by omega))
      go_enter Try.func9, Try.ntmps9
      go_upto_region 2 with fail
      generalize (w.alloc (.cells #[.int .i64 a0_0, .slice a0_1 n0 c0] 39)).alloc (.cells #[.int .i64 a1_0, .slice a1_1 n1 c1] 39) = W0 at *
      have b0 := HT0.out.m0.c0
      have b1 := HT0.out.m0.c1
      go_upto_region 5 with (go_at_call 23; ((with_reducible refine (Mesh.sz_to a0_0 _ _ _ _ HM0.out (by omega) (by omega) _).mono ?_); rw [HZ0.out]; rintro e w1 ⟨rfl, hg⟩; have HT1 := Lib.hid (HT0.out.on hg); clear hg))
      clear b0 b1 HT0
      have b0 := HT1.out.m1.c0
      have b1 := HT1.out.m1.c1
      go_wp2_with (go_at_call 23; ((with_reducible refine (Mesh.sz_to a1_0 _ _ _ _ HM1.out (by omega) (by omega) _).mono ?_); rw [HZ1.out]; rintro e w2 ⟨rfl, hg⟩; have HT2 := Lib.hid (HT1.out.on hg); clear hg))
      go_ret
      exact ⟨rfl, Cell.grown_below HT2.out.gr (Nat.le_refl _)⟩
  · have HZ0 := Lib.hid (show (if (n0 : Int) ≤ 1048576 then (1048576 : Int) - n0 else -1) = -1 from if_neg (by omega))
    go_enter Try.func9, Try.ntmps9
    go_upto_region 2 with fail
    generalize (w.alloc (.cells #[.int .i64 a0_0, .slice a0_1 n0 c0] 39)).alloc (.cells #[.int .i64 a1_0, .slice a1_1 n1 c1] 39) = W0 at *
    have b0 := HT0.out.m0.c0
    have b1 := HT0.out.m0.c1
    go_wp2_with (go_at_call 23; ((with_reducible refine (Mesh.sz_to a0_0 _ _ _ _ HM0.out (by omega) (by omega) _).mono ?_); rw [HZ0.out]; rintro e w1 ⟨rfl, hg⟩; have HT1 := Lib.hid (HT0.out.on hg); clear hg))
    go_ret
    exact ⟨rfl, Cell.grown_below HT1.out.gr (Nat.le_refl _)⟩

set_option maxRecDepth 100000 in
theorem lifted (os : Os) (started : os.Started) (H : Type) (enc : TypeId × Value → H) :
    ReturnsInHanded {} Try.checked os 9 .any (Rows.fnExactSameMeshSpec.pre6 enc Try.prog Try.f9 Rows.fnExactSameMeshRow.domain false) (Rows.fnExactSameMeshSpec.post enc Try.prog Try.f9 false true false false) := by
  refine returnsInHanded_of_change (C := Try.checked) own started (by kernel_rfl) Try.func9
    (ChangeSpec.witness6 (enc := enc) (C := Try.checked) false ⟨#[], #[.agg #[.int .i64 0, .slice none 0 0], .agg #[.int .i64 0, .slice none 0 0]], []⟩ 8 (by kernel_rfl) (by kernel_rfl) (by kernel_rfl) (by kernel_rfl)) ?_
  intro W base args ds gs before hval0 hW hcnd _
  have hval : ∀ (j : Nat) t v, Try.f9.params[j]? = some t → args[j]? = some v → Value.okWide Try.prog W .any base t v := hval0
  have hW' := hW
  obtain ⟨p, q, hA0, hV, rfl, hfz, hnd⟩ := hW
  have hA : DataW.TrodAll enc Try.prog W 0 (fun _ => true) true Try.f9.params.toList args.toList ds p := hA0
  rw [Try.params9] at hA hval
  obtain ⟨v0, vs0, d0, ds0, p0, q0, hargs, rfl, rfl, h0, r0⟩ := trodAll_cons hA
  obtain ⟨v1, vs1, d1, ds1, p1, q1, rfl, rfl, rfl, h1, r1⟩ := trodAll_cons r0
  obtain ⟨rfl, rfl, rfl⟩ := trodAll_nil r1
  obtain rfl : args = #[v0, v1] := by cases args; simp_all
  obtain ⟨rfl, rfl⟩ := trodVars_none hV
  have lt0 : ∀ x ∈ p0, x.block < W.heap.size := by obtain ⟨m, hm⟩ := h0; exact DataW.trod_lt m _ _ _ hm
  obtain ⟨k0_0, k0_1, y0_0, y0_1, m0, rfl, rfl, rfl, hy0_0, hy0_1⟩ := open_agg2 Try.underlying39 (by kernel_rfl) cells39 (hval 0 39 v0 rfl rfl) h0
  obtain ⟨a0_0, e0_0, rfl, -⟩ := DataW.trod_int Try.underlying3 hy0_0
  simp at e0_0
  subst e0_0
  obtain ⟨a0_1, n0, c0, xs0, rfl, hn0, hr0⟩ := Mesh.open_ids hy0_1
  have lt1 : ∀ x ∈ p1, x.block < W.heap.size := by obtain ⟨m, hm⟩ := h1; exact DataW.trod_lt m _ _ _ hm
  obtain ⟨k1_0, k1_1, y1_0, y1_1, m1, rfl, rfl, rfl, hy1_0, hy1_1⟩ := open_agg2 Try.underlying39 (by kernel_rfl) cells39 (hval 1 39 v1 rfl rfl) h1
  obtain ⟨a1_0, e1_0, rfl, -⟩ := DataW.trod_int Try.underlying3 hy1_0
  simp at e1_0
  subst e1_0
  obtain ⟨a1_1, n1, c1, xs1, rfl, hn1, hr1⟩ := Mesh.open_ids hy1_1
  clear hA0 hval0
  simp only [List.append_nil] at hW'
  refine (walk a0_0 a0_1 n0 c0 xs0 a1_0 a1_1 n1 c1 xs1 W hn0 hr0 hn1 hr1).mono fun e W' ⟨he, bel⟩ => ?_
  subst he
  exact ⟨_, rfl, _, _, _, [], _, [], hW', (trodAll_cons_mk (shut_bool Try.underlying4 _) trodAll_mk0), (trodAll_cons_mk (Below.trod laidOut (by kernel_rfl) (of_decide_eq_true (by kernel_rfl)) h0 bel lt0) (trodAll_cons_mk (Below.trod laidOut (by kernel_rfl) (of_decide_eq_true (by kernel_rfl)) h1 bel lt1) trodAll_mk0)), rfl, bel.frame _, fun h => by cases h⟩

theorem over : Rows.fnExactSameMeshRow.holds Try.pinned (OpenSpec.ofChange Rows.fnExactSameMeshSpec) :=
  OpenClaim.holds_of_wide 9 Try.f9 rfl rfl rfl rfl rfl rfl rfl ⟨rfl, rfl, rfl, rfl, rfl⟩ rfl rfl rfl rfl rfl (by kernel_rfl) Try.func9 (by kernel_rfl)
    (of_decide_eq_true (by kernel_rfl)) (by unfold Func.isWrapper; first | (rw [if_pos (by decide +kernel)]; kernel_rfl) | (rw [if_neg (by decide +kernel)]; exact ⟨rfl, rfl⟩))
    (fun os started H enc _ => lifted os started H enc)

theorem proved : Rows.FnExactSameMeshSaid := over
#print axioms proved
end Go.Proofs.Ytmkmlfaekiofcaa.fnExactSameMesh
