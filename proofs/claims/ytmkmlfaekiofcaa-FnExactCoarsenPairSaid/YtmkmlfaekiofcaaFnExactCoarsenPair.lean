/- Proved: for all meshes and numbers of leaves the law FnExactCoarsenPair returns true, that is, the program's CoarsenPair answers as the reference model's CoarsenPair, in memory of its own.
   Conditions: none besides those that the given row prints. -/
import Derived.Test.YtmkmlfaekiofcaaRows
import Derived.WalkKit
import Derived.ProofKit
import Derived.OpenShut
import Derived.ShutString
import Derived.ChangeOld
import Derived.Below
import Derived.ChangeSame
import Derived.Lib.SmallJoins
import Derived.Test.YtmkmlfaekiofcaaMCoAns
namespace Go.Proofs.Ytmkmlfaekiofcaa.fnExactCoarsenPair
open Go.ChangeShapes Go.WideShapes Go.ChangeAt Go.RowKit Go.Joins
set_option linter.unusedVariables false

theorem own : ownKnob Try.prog.godebug = none := by kernel_rfl
theorem laidOut : laidOutB Try.prog = true := by kernel_rfl
theorem cells39 : Try.prog.cellsOf 39 = 2 := by kernel_rfl

set_option maxHeartbeats 8000000 in
theorem walk (a0_0 : Int) (a0_1 : Option Addr) (n0 c0 : Nat) (xs0 : List Mesh.C3) (a1 : Int) (w1 : (Lit.int .i64 a1).wf = true) (w : World) (hn0 : n0 ≤ maxLen) (hr0 : Mesh.ReadsAt w a0_1 n0 xs0) :
    Calls Try.prog 8 #[.agg #[.int .i64 a0_0, .slice a0_1 n0 c0], .int .i64 a1] w fun e w' => e = .returned (.bool true) ∧ Below w.heap.size w w' := by
  have HR := Lib.hid hr0; have HM := Lib.hid hn0; clear hr0 hn0
  by_cases hn : n0 ≤ 1048576
  · have hs : (if n0 ≤ 1048576 then 1048576 - (n0 : Int) else -1) = 1048576 - n0 := if_pos hn
    have hni : (n0 : Int) ≤ 1048576 := by omega
    obtain ⟨bb, zs, nz, hzl, hnz, hS, hI⟩ := Mesh.both_coarsen a0_0 a1 n0 xs0 HR.out.len hn
    have HN := Lib.hid hn; clear hn
    have HS := Lib.hid hs; clear hs
    have HSB := Lib.hid hS; clear hS
    have HIB := Lib.hid hI; clear hI
    have HNZ := Lib.hid hnz; clear hnz hzl
    have hpos : ¬ ((1 + 3 * n0 : Nat) : Int) < 0 := by omega
    have hpos2 : ¬ ((1 + 3 * nz : Nat) : Int) < 0 := by omega
    go_enter Try.func8, Try.ntmps8
    go_upto_region 2 with fail
    have HL0 := Lib.hid (show Mesh.LBox (w.alloc (.cells #[.int .i64 a0_0, .slice a0_1 n0 c0] 39)) w.heap.size a0_0 (.slice a0_1 n0 c0) from World.alloc_heap_new w _)
    have HG0 := Lib.hid (show w.grownBy (w.alloc (.cells #[.int .i64 a0_0, .slice a0_1 n0 c0] 39)) none from Cell.g_alloc (Cell.grown_refl _) _)
    generalize w.alloc (.cells #[.int .i64 a0_0, .slice a0_1 n0 c0] 39) = w0 at *
    have b0 := HL0.out.c0
    have b1 := HL0.out.c1
    go_upto_region 5 with (go_at_call 23; ((with_reducible refine (Mesh.sz_is _ _ _ _ HM.out _).mono ?_); rw [HS.out]; rintro e w1 ⟨rfl, hg⟩; have HL1 := Lib.hid (HL0.out.kept hg (by simp)); have HG1 := Lib.hid (Cell.grown_trans HG0.out hg); clear hg))
    clear b0 b1 HL0 HG0
    have b0 := HL1.out.c0
    have b1 := HL1.out.c1
    go_upto_region 6 with (first
      | (go_at_call 25; ((with_reducible refine (Mesh.to_is _ _ _ _ _ _ (HR.out.on HG1.out) HN.out).mono ?_); rintro e w2 ⟨g2, rfl, hr, hg⟩; have HR2 := Lib.hid hr; have HL2 := Lib.hid (HL1.out.kept hg (by simp)); have HG2 := Lib.hid (Cell.grown_trans HG1.out hg); clear hr hg))
      | (go_at_call 31; ((with_reducible refine (HSB.out _ _ HR2.out).mono ?_); rintro e w3 ⟨pa, pc, rfl, ho, hg⟩; have HP3 := Lib.hid (Mesh.own_down ho HG2.out.size); have HL3 := Lib.hid (HL2.out.kept hg (by simp)); have HG3 := Lib.hid (Cell.grown_trans HG2.out hg); clear ho hg)))
    have HB4 := Lib.hid (Mesh.MBox.new w3 a0_0 (.slice pa nz pc))
    have HL4 := Lib.hid (HL3.out.kept (World.grownBy_alloc w3 (.cells #[.int .i64 a0_0, .slice pa nz pc] 26) none) (by simp))
    have HP4 := Lib.hid (HP3.out.alloc (.cells #[.int .i64 a0_0, .slice pa nz pc] 26))
    have HG4 := Lib.hid (Cell.g_alloc HG3.out (.cells #[.int .i64 a0_0, .slice pa nz pc] 26))
    clear b0 b1 HL1 HL2 HG1 HG2 HR2 HP3 HL3 HG3 HSB
    generalize w3.heap.size = B4 at *
    generalize w3.alloc (.cells #[.int .i64 a0_0, .slice pa nz pc] 26) = W4 at *
    have b0 := HL4.out.c0
    have b1 := HL4.out.c1
    go_upto_region 7 with (go_at_call 25; ((with_reducible refine (Mesh.to_own _ _ _ _ _ _ (HR.out.on HG4.out) HN.out).mono ?_); rintro e w5 ⟨g5, rfl, ho, hg⟩; have HX5 := Lib.hid (Mesh.own_down ho HG4.out.size); have HD5 := Lib.hid (Mesh.apart_new HP4.out ho (Nat.le_refl _)); have HB45 := Lib.hid (HB4.out.kept hg (by simp)); have HL5 := Lib.hid (HL4.out.kept hg (by simp)); have HP5 := Lib.hid (Mesh.own_grown HP4.out hg); have HG5 := Lib.hid (Cell.grown_trans HG4.out hg); clear ho hg))
    have HB5 := Lib.hid (Mesh.MBox.new w5 a0_0 (.slice (some ⟨g5, 0, none⟩) n0 n0))
    have HB6 := Lib.hid (HB45.out.alloc (.cells #[.int .i64 a0_0, .slice (some ⟨g5, 0, none⟩) n0 n0] 26))
    have HL6 := Lib.hid (HL5.out.kept (World.grownBy_alloc w5 (.cells #[.int .i64 a0_0, .slice (some ⟨g5, 0, none⟩) n0 n0] 26) none) (by simp))
    have HP6 := Lib.hid (HP5.out.alloc (.cells #[.int .i64 a0_0, .slice (some ⟨g5, 0, none⟩) n0 n0] 26))
    have HX6 := Lib.hid (HX5.out.alloc (.cells #[.int .i64 a0_0, .slice (some ⟨g5, 0, none⟩) n0 n0] 26))
    have HG6 := Lib.hid (Cell.g_alloc HG5.out (.cells #[.int .i64 a0_0, .slice (some ⟨g5, 0, none⟩) n0 n0] 26))
    clear b0 b1 HB4 HL4 HP4 HG4 HX5 HB45 HL5 HP5 HG5
    generalize w5.heap.size = B5 at *
    generalize w5.alloc (.cells #[.int .i64 a0_0, .slice (some ⟨g5, 0, none⟩) n0 n0] 26) = W5 at *
    have b0 := HB5.out.c0
    have b1 := HB5.out.c1
    have HIC := HIB
    go_upto_region 8 with (go_at_call 18; ((with_reducible refine (HIB.out _ _ (Mesh.own_reads HX6.out)).mono ?_); rintro e w6 ⟨ga, gc, rfl, ho, hg⟩; have HE6 := Lib.hid (show Mesh.ESt w (w6.alloc (.cells #[.int .i64 a0_0, .slice ga nz gc] 26)) a0_0 (.slice a0_1 n0 c0) (.slice pa nz pc) (.slice (some ⟨g5, 0, none⟩) n0 n0) (.slice ga nz gc) B4 B5 w6.heap.size nz n0 nz _ _ _ from ⟨(HL6.out.kept hg (by simp)).kept (World.grownBy_alloc w6 _ none) (by simp), (HB6.out.kept hg (by simp)).alloc _, (HB5.out.kept hg (by simp)).alloc _, Mesh.MBox.new w6 _ _, (Mesh.own_grown HP6.out hg).alloc _, (Mesh.own_grown HX6.out hg).alloc _, (Mesh.own_down ho HG6.out.size).alloc _, HD5.out.1, (Mesh.apart_new HX6.out ho (Nat.le_refl _)).2, (Mesh.apart_new HP6.out ho (Nat.le_refl _)).1, (Mesh.apart_new HX6.out ho (Nat.le_refl _)).1, Cell.g_alloc (Cell.grown_trans HG6.out hg) _⟩); clear ho hg))
    clear b0 b1 HB5 HB6 HL6 HP6 HX6 HG6 HD5 HIB
    obtain ⟨B6, hB6⟩ : ∃ B6, B6 = w6.heap.size := ⟨_, rfl⟩
    rw [← hB6] at HE6 ⊢
    clear hB6
    generalize w6.alloc (.cells #[.int .i64 a0_0, .slice ga nz gc] 26) = W6 at *
    have p0 := HE6.out.b4.c0
    have p1 := HE6.out.b4.c1
    have q0 := HE6.out.b6.c0
    have q1 := HE6.out.b6.c1
    go_upto_region 10 with (go_at_call 26; ((with_reducible refine (Mesh.eq_is a0_0 _ _ nz nz _ _ zs _ (Mesh.own_reads HE6.out.rG) (Mesh.own_reads HE6.out.rP) HNZ.out HNZ.out).mono ?_); rintro e w7 ⟨rfl, hg⟩; have HE7 := Lib.hid (HE6.out.on hg); clear hg))
    clear p0 p1 q0 q1 HE6
    go_cut [49] from 45 to 48 (fun v wx => v = .bool false ∧ Hid (Mesh.ESt w wx a0_0 (.slice a0_1 n0 c0) (.slice pa nz pc) (.slice (some ⟨g5, 0, none⟩) n0 n0) (.slice ga nz gc) B4 B5 B6 nz n0 nz (Mesh.flatC zs) (Mesh.flatC xs0) (Mesh.flatC zs)))
    case first =>
      have b0 := HE7.out.m.c0
      have b1 := HE7.out.m.c1
      have x0 := HE7.out.b5.c0
      have x1 := HE7.out.b5.c1
      go_region_with (first
        | (go_at_call 25; ((with_reducible refine (Mesh.to_is _ _ _ _ _ _ (HR.out.on (Mesh.gr_drew HE7.out.gr)) HN.out).mono ?_); rintro e w8 ⟨g8, rfl, hr, hg⟩; have hE := HE7.out.on (Cell.grown_trans (Mesh.gr_drew (Cell.grown_refl w7)) hg); have y0 := hE.b5.c0; have y1 := hE.b5.c1; have HR8 := Lib.hid hr; have HE8 := Lib.hid hE; clear hr hg hE))
        | (go_at_call 26; ((with_reducible refine (Mesh.eq_is a0_0 _ _ n0 n0 _ _ xs0 _ (Mesh.own_reads HE8.out.rX) HR8.out HN.out HN.out).mono ?_); rintro e w9 ⟨rfl, hg⟩; have HE9 := Lib.hid (HE8.out.on hg); clear hg)))
      all_goals
        go_wp2_with fail
        go_meet
        exact ⟨rfl, HE9⟩
    case rest =>
      clear HE7
      obtain ⟨rfl, HE⟩ := hcut
      have x0 := HE.out.b5.c0
      have x1 := HE.out.b5.c1
      go_upto_region 14 with (go_at_call 28; ((with_reducible refine (Mesh.mark_is a0_0 HN.out HE.out.rX).mono ?_); rintro e w10 ⟨rfl, ho, hg⟩; have HE10 := Lib.hid (HE.out.markX hg ho); clear ho hg))
      clear x0 x1 HE
      have p0 := HE10.out.b4.c0
      have p1 := HE10.out.b4.c1
      have q0 := HE10.out.b6.c0
      have q1 := HE10.out.b6.c1
      go_upto_region 17 with (go_at_call 26; ((with_reducible refine (Mesh.eq_is a0_0 _ _ nz nz _ _ zs _ (Mesh.own_reads HE10.out.rG) (Mesh.own_reads HE10.out.rP) HNZ.out HNZ.out).mono ?_); rintro e w11 ⟨rfl, hg⟩; have HE11 := Lib.hid (HE10.out.on hg); clear hg))
      clear p0 p1 q0 q1 HE10
      have q0 := HE11.out.b6.c0
      have q1 := HE11.out.b6.c1
      go_upto_region 19 with (go_at_call 28; ((with_reducible refine (Mesh.mark_is a0_0 HNZ.out HE11.out.rG).mono ?_); rintro e w12 ⟨rfl, ho, hg⟩; have HE12 := Lib.hid (HE11.out.markG hg ho); clear ho hg))
      clear q0 q1 HE11
      have q0 := HE12.out.b6.c0
      have q1 := HE12.out.b6.c1
      go_upto_region 24 with (go_at_call 29; ((with_reducible refine (Mesh.held_is a0_0 HNZ.out (Mesh.own_reads HE12.out.rG)).mono ?_); rintro e w13 ⟨rfl, hg⟩; have HE13 := Lib.hid (HE12.out.on hg); clear hg))
      clear q0 q1 HE12
      have b0 := HE13.out.m.c0
      have b1 := HE13.out.m.c1
      go_upto_region 25 with (first
        | (go_at_call 25; ((with_reducible refine (Mesh.to_is _ _ _ _ _ _ (HR.out.on HE13.out.gr) HN.out).mono ?_); rintro e w14 ⟨g14, rfl, hr, hg⟩; have HR14 := Lib.hid hr; have HE14 := Lib.hid (HE13.out.on hg); clear hr hg))
        | (go_at_call 18; ((with_reducible refine (HIC.out _ _ HR14.out).mono ?_); rintro e w15 ⟨ha, hc, rfl, ho, hg⟩; have HH15 := Lib.hid (ho.alloc (.cells #[.int .i64 a0_0, .slice ha nz hc] 26)); have HE15 := Lib.hid (HE14.out.on (Cell.g_alloc hg (.cells #[.int .i64 a0_0, .slice ha nz hc] 26))); have HB15 := Lib.hid (Mesh.MBox.new w15 a0_0 (.slice ha nz hc)); clear ho hg)))
      clear b0 b1 HE13 HE14 HIC
      generalize w15.heap.size = B15 at *
      generalize w15.alloc (.cells #[.int .i64 a0_0, .slice ha nz hc] 26) = W15 at *
      have h0 := HB15.out.c0
      have h1 := HB15.out.c1
      have p0 := HE15.out.b4.c0
      have p1 := HE15.out.b4.c1
      go_upto_region 28 with (go_at_call 26; ((with_reducible refine (Mesh.eq_is a0_0 _ _ nz nz _ _ zs _ (Mesh.own_reads HH15.out) (Mesh.own_reads HE15.out.rP) HNZ.out HNZ.out).mono ?_); rintro e w16 ⟨rfl, hg⟩; have HE16 := Lib.hid (HE15.out.on hg); clear hg))
      clear h0 h1 p0 p1 HE15
      have q0 := HE16.out.b6.c0
      have q1 := HE16.out.b6.c1
      go_wp2_with (go_at_call 29; ((with_reducible refine (Mesh.held_is a0_0 HNZ.out (Mesh.own_reads HE16.out.rG)).mono ?_); rintro e w17 ⟨rfl, hg⟩; have HE17 := Lib.hid (HE16.out.on hg); clear hg))
      go_ret
      exact ⟨rfl, Cell.grown_below HE17.out.gr (Nat.le_refl _)⟩
  · have hs : (if n0 ≤ 1048576 then 1048576 - (n0 : Int) else -1) = -1 := if_neg hn
    have HS := Lib.hid hs; clear hs hn
    go_enter Try.func8, Try.ntmps8
    go_wp2_with (go_at_call 23; (with_reducible refine (Mesh.sz_is _ _ _ _ HM.out _).mono ?_); rw [HS.out]; rintro e w1 ⟨rfl, hg⟩; have HG := Lib.hid (Cell.grown_trans (Cell.g_alloc (Cell.grown_refl _) _) hg); clear hg)
    go_ret
    exact ⟨rfl, Cell.grown_below HG.out (Nat.le_refl _)⟩

set_option maxRecDepth 100000 in
theorem lifted (os : Os) (started : os.Started) (H : Type) (enc : TypeId × Value → H) :
    ReturnsInHanded {} Try.checked os 8 .any (Rows.fnExactCoarsenPairSpec.pre6 enc Try.prog Try.f8 Rows.fnExactCoarsenPairRow.domain false) (Rows.fnExactCoarsenPairSpec.post enc Try.prog Try.f8 false true false false) := by
  refine returnsInHanded_of_change (C := Try.checked) own started (by kernel_rfl) Try.func8
    (ChangeSpec.witness6 (enc := enc) (C := Try.checked) false ⟨#[], #[.agg #[.int .i64 0, .slice none 0 0], .int .i64 0], []⟩ 8 (by kernel_rfl) (by kernel_rfl) (by kernel_rfl) (by kernel_rfl)) ?_
  intro W base args ds gs before hval0 hW hcnd _
  have hval : ∀ (j : Nat) t v, Try.f8.params[j]? = some t → args[j]? = some v → Value.okWide Try.prog W .any base t v := hval0
  have hW' := hW
  obtain ⟨p, q, hA0, hV, rfl, hfz, hnd⟩ := hW
  have hA : DataW.TrodAll enc Try.prog W 0 (fun _ => true) true Try.f8.params.toList args.toList ds p := hA0
  rw [Try.params8] at hA hval
  obtain ⟨v0, vs0, d0, ds0, p0, q0, hargs, rfl, rfl, h0, r0⟩ := trodAll_cons hA
  obtain ⟨v1, vs1, d1, ds1, p1, q1, rfl, rfl, rfl, h1, r1⟩ := trodAll_cons r0
  obtain ⟨rfl, rfl, rfl⟩ := trodAll_nil r1
  obtain rfl : args = #[v0, v1] := by cases args; simp_all
  obtain ⟨rfl, rfl⟩ := trodVars_none hV
  have lt0 : ∀ x ∈ p0, x.block < W.heap.size := by obtain ⟨m, hm⟩ := h0; exact DataW.trod_lt m _ _ _ hm
  obtain ⟨k0_0, k0_1, y0_0, y0_1, m0, rfl, rfl, rfl, hy0_0, hy0_1⟩ := open_agg2 Try.underlying39 (by kernel_rfl) cells39 (hval 0 39 v0 rfl rfl) h0
  obtain ⟨a0_0, e0_0, rfl, -⟩ := DataW.trod_int Try.underlying3 hy0_0
  simp at e0_0
  subst e0_0
  obtain ⟨a0_1, n0, c0, xs0, rfl, hn0, hr0⟩ := Mesh.open_ids hy0_1
  obtain ⟨a1, rfl, rfl, rfl, w1⟩ := open_int Try.underlying3 (hval 1 3 v1 rfl rfl) h1
  clear hA0 hval0
  simp only [List.append_nil] at hW'
  refine (walk a0_0 a0_1 n0 c0 xs0 a1 w1 W hn0 hr0).mono fun e W' ⟨he, bel⟩ => ?_
  subst he
  exact ⟨_, rfl, _, _, _, [], _, [], hW', (trodAll_cons_mk (shut_bool Try.underlying4 _) trodAll_mk0), (trodAll_cons_mk (Below.trod laidOut (by kernel_rfl) (of_decide_eq_true (by kernel_rfl)) h0 bel lt0) (trodAll_cons_mk (shut_int Try.underlying3 w1) trodAll_mk0)), rfl, bel.frame _, fun h => by cases h⟩

theorem over : Rows.fnExactCoarsenPairRow.holds Try.pinned (OpenSpec.ofChange Rows.fnExactCoarsenPairSpec) :=
  OpenClaim.holds_of_wide 8 Try.f8 rfl rfl rfl rfl rfl rfl rfl ⟨rfl, rfl, rfl, rfl, rfl⟩ rfl rfl rfl rfl rfl (by kernel_rfl) Try.func8 (by kernel_rfl)
    (of_decide_eq_true (by kernel_rfl)) (by unfold Func.isWrapper; first | (rw [if_pos (by decide +kernel)]; kernel_rfl) | (rw [if_neg (by decide +kernel)]; exact ⟨rfl, rfl⟩))
    (fun os started H enc _ => lifted os started H enc)

theorem proved : Rows.FnExactCoarsenPairSaid := over
#print axioms proved
end Go.Proofs.Ytmkmlfaekiofcaa.fnExactCoarsenPair
