/- Proved: for all arguments the law FnExactWishes returns true, that is, the program's Wishes answers as the reference model's Wishes, and writes into no argument, and its answer owns its memory.
   Conditions: none besides those that the given row prints. -/
import Derived.Test.YtaccigmkddomaaaRows
import Derived.WalkKit
import Derived.ProofKit
import Derived.OpenShut
import Derived.ShutString
import Derived.ChangeOld
import Derived.Below
import Derived.ChangeSame
import Derived.Lib.SmallJoins
import Derived.Test.YtaccigmkddomaaaStCriB
import Derived.Test.YtaccigmkddomaaaStLaw
namespace Go.Proofs.Ytaccigmkddomaaa.fnExactWishes
open Go.ChangeShapes Go.WideShapes Go.ChangeAt Go.RowKit Go.Joins
set_option linter.unusedVariables false
set_option maxRecDepth 100000

theorem own : ownKnob Try.prog.godebug = none := by kernel_rfl
theorem laidOut : laidOutB Try.prog = true := by kernel_rfl

set_option maxHeartbeats 16000000 in
theorem walk (a0_0 : Int) (a0_1 : Option Addr) (n0_1 c0_1 : Nat) (a0_2 : Option Addr) (n0_2 c0_2 : Nat) (a0_3 : Option Addr) (n0_3 c0_3 : Nat) (a0_4 : Option Addr) (n0_4 c0_4 : Nat) (xs0 : List Mesh.C3) (ms0 ts0 bs0 : List Int) (a1 : Int) (w1 : (Lit.int .i64 a1).wf = true) (a2 : Int) (w2 : (Lit.int .i64 a2).wf = true) (w : World) (hn0_1 : n0_1 ≤ maxLen) (hn0_2 : n0_2 ≤ maxLen) (hn0_3 : n0_3 ≤ maxLen) (hn0_4 : n0_4 ≤ maxLen) (hr0 : State.ArgS w a0_1 a0_2 a0_3 a0_4 n0_1 n0_2 n0_3 n0_4 xs0 ms0 ts0 bs0) :
    Calls Try.prog 6 #[.agg #[.int .i64 a0_0, .slice a0_1 n0_1 c0_1, .slice a0_2 n0_2 c0_2, .slice a0_3 n0_3 c0_3, .slice a0_4 n0_4 c0_4], .int .i64 a1, .int .i64 a2] w fun e w' => e = .returned (.bool true) ∧ Below w.heap.size w w' := by
  have HR0 := Lib.hid hr0
  have HM0_1 := Lib.hid hn0_1; have HM0_2 := Lib.hid hn0_2; have HM0_3 := Lib.hid hn0_3; have HM0_4 := Lib.hid hn0_4
  clear hr0 hn0_1 hn0_2 hn0_3 hn0_4
  obtain ⟨r0, hl0, hs0⟩ := State.szState_is a0_0 a0_1 a0_2 a0_3 a0_4 n0_1 n0_2 n0_3 n0_4 c0_1 c0_2 c0_3 c0_4 1048576 HM0_1.out HM0_2.out HM0_3.out HM0_4.out (by omega) (by omega)
  have HS0 := Lib.hid hs0; clear hs0
  rcases hl0 with ⟨hk0, hl0⟩ | rfl
  case inr =>
    have he := (Law.Held.nil w).box 47 #[.int .i64 a0_0, .slice a0_1 n0_1 c0_1, .slice a0_2 n0_2 c0_2, .slice a0_3 n0_3 c0_3, .slice a0_4 n0_4 c0_4]
    try simp only [World.size_alloc] at he
    have HE0 := Lib.hid he; clear he
    go_enter Try.func6, Try.ntmps6
    go_upto_region 2 with fail
    generalize w.alloc (.cells #[.int .i64 a0_0, .slice a0_1 n0_1 c0_1, .slice a0_2 n0_2 c0_2, .slice a0_3 n0_3 c0_3, .slice a0_4 n0_4 c0_4] 47) = W0 at *
    obtain ⟨p0, p1, p2, p3, p4⟩ := Law.box5 (HE0.out.nth 0 rfl)
    go_wp2_with (go_at_call 21; ((with_reducible refine (HS0.out _).mono ?_); rintro e w1 ⟨rfl, hg⟩; have HE1 := Lib.hid (HE0.out.on hg); clear hg))
    go_ret
    exact ⟨rfl, Cell.grown_below HE1.out.gr (Nat.le_refl _)⟩
  case inl =>
    have Hn0_1 : Hid (n0_1 ≤ 1048576) := Lib.hid (by omega)
    have Hn0_2 : Hid (n0_2 ≤ 1048576) := Lib.hid (by omega)
    have Hn0_3 : Hid (n0_3 ≤ 1048576) := Lib.hid (by omega)
    have Hn0_4 : Hid (n0_4 ≤ 1048576) := Lib.hid (by omega)
    obtain ⟨m1, ys, zm1, hS, hI⟩ := State.both_Wishes a0_0 n0_1 n0_2 n0_3 n0_4 xs0 ms0 ts0 bs0 HR0.out.l.len HR0.out.m.len HR0.out.t.len HR0.out.b.len Hn0_1.out Hn0_2.out Hn0_3.out Hn0_4.out a1 w1 a2 w2
    have Hm1 := Lib.hid zm1
    have in0_1 : (n0_1 : Int) ≤ 1048576 := by have := Hn0_1.out; omega
    have in0_2 : (n0_2 : Int) ≤ 1048576 := by have := Hn0_2.out; omega
    have in0_3 : (n0_3 : Int) ≤ 1048576 := by have := Hn0_3.out; omega
    have in0_4 : (n0_4 : Int) ≤ 1048576 := by have := Hn0_4.out; omega
    have HSB := Lib.hid hS; have HIB := Lib.hid hI; clear hS hI zm1
    clear hl0
    obtain ⟨k0, ek0⟩ : ∃ s : Nat, s = 1 + 3 * n0_1 + n0_2 + n0_3 + n0_4 := ⟨_, rfl⟩
    obtain ⟨kg, ekg⟩ : ∃ s : Nat, s = 1 + m1 := ⟨_, rfl⟩
    have EK0 := Lib.hid ek0; have pk0 : ¬ (k0 : Int) < 0 := by omega
    have bk0 : Hid (k0 ≤ 549755813888) := Lib.hid (by have := Hn0_1.out; have := Hn0_2.out; have := Hn0_3.out; have := Hn0_4.out; omega)
    have EKG := Lib.hid ekg; have pkg : ¬ (kg : Int) < 0 := by omega
    clear ek0 ekg
    have he := (Law.Held.nil w).box 47 #[.int .i64 a0_0, .slice a0_1 n0_1 c0_1, .slice a0_2 n0_2 c0_2, .slice a0_3 n0_3 c0_3, .slice a0_4 n0_4 c0_4]
    try simp only [World.size_alloc] at he
    have HE0 := Lib.hid he; clear he
    go_enter Try.func6, Try.ntmps6
    go_upto_region 2 with fail
    generalize w.alloc (.cells #[.int .i64 a0_0, .slice a0_1 n0_1 c0_1, .slice a0_2 n0_2 c0_2, .slice a0_3 n0_3 c0_3, .slice a0_4 n0_4 c0_4] 47) = W0 at *
    obtain ⟨p0, p1, p2, p3, p4⟩ := Law.box5 (HE0.out.nth 0 rfl)
    go_upto_region 5 with (go_at_call 21; ((with_reducible refine (HS0.out _).mono ?_); rintro e w1 ⟨rfl, hg⟩; have HE1 := Lib.hid (HE0.out.on hg); clear hg))
    clear p0 p1 p2 p3 p4 HE0 HS0
    obtain ⟨b0_0, b0_1, b0_2, b0_3, b0_4⟩ := Law.box5 (HE1.out.nth 0 rfl)
    go_upto_region 6 with (first | (go_at_call 23; ((with_reducible refine (State.toState_is _ _ _ _ _ _ _ _ _ _ _ _ _ xs0 ms0 ts0 bs0 _ (HR0.out.on HE1.out.gr) Hn0_1.out Hn0_2.out Hn0_3.out Hn0_4.out).mono ?_); rintro e u1 ⟨g1_1, g1_2, g1_3, g1_4, rfl, ho, hg⟩; have HE2 := Lib.hid (State.Held.state HE1.out hg ho); clear ho hg)) | (go_at_call 25; ((with_reducible refine (HSB.out _ _ _ _ _ _ _ _ _ (State.OwnS.reads (HE2.out.nth 1 rfl))).mono ?_); rintro e u2 ⟨q2_1, d2_1, rfl, ho, hg⟩; have HE3 := Lib.hid (HE2.out.row hg ho); clear ho hg)))
    clear b0_0 b0_1 b0_2 b0_3 b0_4 HE1 HE2
    obtain ⟨b0_0, b0_1, b0_2, b0_3, b0_4⟩ := Law.box5 (HE3.out.nth 0 rfl)
    go_upto_region 7 with (go_at_call 23; ((with_reducible refine (State.toState_is _ _ _ _ _ _ _ _ _ _ _ _ _ xs0 ms0 ts0 bs0 _ (HR0.out.on HE3.out.gr) Hn0_1.out Hn0_2.out Hn0_3.out Hn0_4.out).mono ?_); rintro e u3 ⟨g3_1, g3_2, g3_3, g3_4, rfl, ho, hg⟩; have HE4 := Lib.hid (State.Held.state HE3.out hg ho); clear ho hg))
    clear b0_0 b0_1 b0_2 b0_3 b0_4 HE3
    have HE5 := Lib.hid (HE4.out.box 29 #[.int .i64 a0_0, .slice (some ⟨g3_1, 0, none⟩) n0_1 n0_1, .slice (some ⟨g3_2, 0, none⟩) n0_2 n0_2, .slice (some ⟨g3_3, 0, none⟩) n0_3 n0_3, .slice (some ⟨g3_4, 0, none⟩) n0_4 n0_4]); clear HE4
    obtain ⟨B4, hB4⟩ : ∃ B, B = u3.heap.size := ⟨_, rfl⟩
    rw [← hB4] at HE5 ⊢
    clear hB4
    generalize u3.alloc (.cells #[.int .i64 a0_0, .slice (some ⟨g3_1, 0, none⟩) n0_1 n0_1, .slice (some ⟨g3_2, 0, none⟩) n0_2 n0_2, .slice (some ⟨g3_3, 0, none⟩) n0_3 n0_3, .slice (some ⟨g3_4, 0, none⟩) n0_4 n0_4] 29) = V4 at *
    obtain ⟨x0_0, x0_1, x0_2, x0_3, x0_4⟩ := Law.box5 (HE5.out.nth 4 rfl)
    go_upto_region 8 with (go_at_call 13; ((with_reducible refine (HIB.out _ _ _ _ _ _ _ _ _ (State.OwnS.reads (HE5.out.nth 3 rfl))).mono ?_); rintro e u5 ⟨q5_1, d5_1, rfl, ho, hg⟩; have HE6 := Lib.hid (HE5.out.row hg ho); clear ho hg))
    clear x0_0 x0_1 x0_2 x0_3 x0_4 HE5
    go_upto_region 10 with (go_at_call 26; ((with_reducible refine (Ints.eqI_is _ _ _ _ _ ys _ (Ints.own_readsI (HE6.out.nth 5 rfl)) (Ints.own_readsI (HE6.out.nth 2 rfl)) Hm1.out).mono ?_); rintro e u6 ⟨rfl, hg⟩; have HE7 := Lib.hid (HE6.out.on hg); clear hg))
    clear HE6
    go_cut [39] from 35 to 38 (fun v wx => v = .bool false ∧ Hid (Law.Held w wx (Law.gsOf HE7.out)))
    case first =>
      obtain ⟨b0_0, b0_1, b0_2, b0_3, b0_4⟩ := Law.box5 (HE7.out.nth 0 rfl)
      obtain ⟨x0, x1, x2, x3, x4⟩ := Law.box5 (HE7.out.nth 4 rfl)
      go_region_with (first | (go_at_call 23; ((with_reducible refine (State.toState_is _ _ _ _ _ _ _ _ _ _ _ _ _ xs0 ms0 ts0 bs0 _ (HR0.out.on (Mesh.gr_drew HE7.out.gr)) Hn0_1.out Hn0_2.out Hn0_3.out Hn0_4.out).mono ?_); rintro e u7 ⟨z1, z2, z3, z4, rfl, ho, hg⟩; have hE := HE7.out.on (Cell.grown_trans (Mesh.gr_drew (Cell.grown_refl _)) hg); obtain ⟨s0, s1, s2, s3, s4⟩ := Law.box5 (hE.nth 4 rfl); have HRR := Lib.hid (State.OwnS.reads ho); have HEA := Lib.hid hE; clear ho hg hE)) | (go_at_call 24; ((with_reducible refine (State.eqState_is _ _ _ _ _ _ _ _ _ _ _ _ _ _ _ _ _ _ _ _ _ xs0 ms0 ts0 bs0 _ (State.OwnS.reads (HEA.out.nth 3 rfl)) HRR.out Hn0_1.out Hn0_2.out Hn0_3.out Hn0_4.out).mono ?_); rintro e u8 ⟨rfl, hg⟩; have HEB := Lib.hid (HEA.out.on hg); clear hg)))
      all_goals
        go_wp2_with fail
        go_meet
        exact ⟨rfl, HEB⟩
    case rest =>
      obtain ⟨rfl, HE8⟩ := hcut
      dsimp only [Law.gsOf] at HE8
      clear HE7
      obtain ⟨x0, x1, x2, x3, x4⟩ := Law.box5 (HE8.out.nth 4 rfl)
      go_upto_region 14 with (go_at_call 27; ((with_reducible refine (State.markState1 _ Hn0_1.out Hn0_2.out Hn0_3.out Hn0_4.out (HE8.out.nth 3 rfl)).mono ?_); rw [← EK0.out]; rintro e u9 ⟨rfl, ho, ht⟩; have HE9 := Lib.hid (HE8.out.turn 3 rfl (g' := State.stateG (.slice (some ⟨g3_1, 0, none⟩) n0_1 n0_1) (.slice (some ⟨g3_2, 0, none⟩) n0_2 n0_2) (.slice (some ⟨g3_3, 0, none⟩) n0_3 n0_3) (.slice (some ⟨g3_4, 0, none⟩) n0_4 n0_4) n0_1 n0_2 n0_3 n0_4 (State.marksC 1 n0_1) (Ints.marksI (1 + 3 * n0_1) n0_2) (Ints.marksI (1 + 3 * n0_1 + n0_2) n0_3) (Ints.marksI (1 + 3 * n0_1 + n0_2 + n0_3) n0_4)) ht rfl ho); clear ho ht))
      clear x0 x1 x2 x3 x4 HE8
      go_upto_region 17 with (go_at_call 26; ((with_reducible refine (Ints.eqI_is _ _ _ _ _ ys _ (Ints.own_readsI (HE9.out.nth 5 rfl)) (Ints.own_readsI (HE9.out.nth 2 rfl)) Hm1.out).mono ?_); rintro e u10 ⟨rfl, hg⟩; have HE10 := Lib.hid (HE9.out.on hg); clear hg))
      clear HE9
      go_upto_region 19 with (go_at_call 28; ((with_reducible refine (Ints.markI1 Hm1.out (HE10.out.nth 5 rfl)).mono ?_); rw [← EKG.out]; rintro e u11 ⟨rfl, ho, ht⟩; have HE11 := Lib.hid (HE10.out.turn 5 rfl (g' := Law.rowG 3 1 (.slice q5_1 m1 d5_1) m1 (Ints.vals (Ints.marksI 1 m1))) (Law.Turned.of ht) rfl ho); clear ho ht))
      clear HE10
      go_upto_region 24 with (go_at_call 29; ((with_reducible refine (Ints.heldI1 Hm1.out (Ints.own_readsI (HE11.out.nth 5 rfl))).mono ?_); rw [← EKG.out]; rintro e u12 ⟨rfl, rfl⟩; have HE12 := HE11))
      clear HE11
      obtain ⟨b0_0, b0_1, b0_2, b0_3, b0_4⟩ := Law.box5 (HE12.out.nth 0 rfl)
      go_upto_region 25 with (first | (go_at_call 23; ((with_reducible refine (State.toState_is _ _ _ _ _ _ _ _ _ _ _ _ _ xs0 ms0 ts0 bs0 _ (HR0.out.on HE12.out.gr) Hn0_1.out Hn0_2.out Hn0_3.out Hn0_4.out).mono ?_); rintro e u13 ⟨g13_1, g13_2, g13_3, g13_4, rfl, ho, hg⟩; have HE13 := Lib.hid (State.Held.state HE12.out hg ho); clear ho hg)) | (go_at_call 13; ((with_reducible refine (HIB.out _ _ _ _ _ _ _ _ _ (State.OwnS.reads (HE13.out.nth 6 rfl))).mono ?_); rintro e u14 ⟨q14_1, d14_1, rfl, ho, hg⟩; have HE14 := Lib.hid (HE13.out.row hg ho); clear ho hg)))
      clear b0_0 b0_1 b0_2 b0_3 b0_4 HE12 HE13
      go_upto_region 28 with (go_at_call 26; ((with_reducible refine (Ints.eqI_is _ _ _ _ _ ys _ (Ints.own_readsI (HE14.out.nth 7 rfl)) (Ints.own_readsI (HE14.out.nth 2 rfl)) Hm1.out).mono ?_); rintro e u15 ⟨rfl, hg⟩; have HE15 := Lib.hid (HE14.out.on hg); clear hg))
      clear HE14
      go_wp2_with (go_at_call 29; ((with_reducible refine (Ints.heldI1 Hm1.out (Ints.own_readsI (HE15.out.nth 5 rfl))).mono ?_); rw [← EKG.out]; rintro e u16 ⟨rfl, rfl⟩; have HE16 := HE15))
      go_ret
      exact ⟨rfl, Cell.grown_below HE16.out.gr (Nat.le_refl _)⟩

set_option maxRecDepth 100000 in
theorem lifted (os : Os) (started : os.Started) (H : Type) (enc : TypeId × Value → H) :
    ReturnsInHanded {} Try.checked os 6 .any (Rows.fnExactWishesSpec.pre6 enc Try.prog Try.f6 Rows.fnExactWishesRow.domain false) (Rows.fnExactWishesSpec.post enc Try.prog Try.f6 false true false false) := by
  refine returnsInHanded_of_change (C := Try.checked) own started (by kernel_rfl) Try.func6
    (ChangeSpec.witness6 (enc := enc) (C := Try.checked) false ⟨#[], #[.agg #[.int .i64 0, .slice none 0 0, .slice none 0 0, .slice none 0 0, .slice none 0 0], .int .i64 0, .int .i64 0], []⟩ 8 (by kernel_rfl) (by kernel_rfl) (by kernel_rfl) (by kernel_rfl)) ?_
  intro W base args ds gs before hval0 hW hcnd _
  have hval : ∀ (j : Nat) t v, Try.f6.params[j]? = some t → args[j]? = some v → Value.okWide Try.prog W .any base t v := hval0
  have hW' := hW
  obtain ⟨p, q, hA0, hV, rfl, hfz, hnd⟩ := hW
  have hA : DataW.TrodAll enc Try.prog W 0 (fun _ => true) true Try.f6.params.toList args.toList ds p := hA0
  rw [Try.params6] at hA hval
  obtain ⟨v0, vs0, d0, ds0, p0, q0, hargs, rfl, rfl, h0, r0⟩ := trodAll_cons hA
  obtain ⟨v1, vs1, d1, ds1, p1, q1, rfl, rfl, rfl, h1, r1⟩ := trodAll_cons r0
  obtain ⟨v2, vs2, d2, ds2, p2, q2, rfl, rfl, rfl, h2, r2⟩ := trodAll_cons r1
  obtain ⟨rfl, rfl, rfl⟩ := trodAll_nil r2
  obtain rfl : args = #[v0, v1, v2] := by cases args; simp_all
  obtain ⟨rfl, rfl⟩ := trodVars_none hV
  have lt0 : ∀ x ∈ p0, x.block < W.heap.size := by obtain ⟨m, hm⟩ := h0; exact DataW.trod_lt m _ _ _ hm
  obtain ⟨a0_0, a0_1, n0_1, c0_1, a0_2, n0_2, c0_2, a0_3, n0_3, c0_3, a0_4, n0_4, c0_4, xs0, ms0, ts0, bs0, rfl, hn0_1, hn0_2, hn0_3, hn0_4, hr0⟩ := State.open_state (hval 0 47 v0 rfl rfl) h0
  obtain ⟨a1, rfl, rfl, rfl, w1⟩ := open_int Try.underlying3 (hval 1 3 v1 rfl rfl) h1
  obtain ⟨a2, rfl, rfl, rfl, w2⟩ := open_int Try.underlying3 (hval 2 3 v2 rfl rfl) h2
  clear hA0 hval0
  simp only [List.append_nil] at hW'
  refine (walk a0_0 a0_1 n0_1 c0_1 a0_2 n0_2 c0_2 a0_3 n0_3 c0_3 a0_4 n0_4 c0_4 xs0 ms0 ts0 bs0 a1 w1 a2 w2 W hn0_1 hn0_2 hn0_3 hn0_4 hr0).mono fun e W' ⟨he, bel⟩ => ?_
  subst he
  exact ⟨_, rfl, _, _, _, [], _, [], hW', (trodAll_cons_mk (shut_bool Try.underlying4 _) trodAll_mk0), (trodAll_cons_mk (Below.trod laidOut (by kernel_rfl) (of_decide_eq_true (by kernel_rfl)) h0 bel lt0) (trodAll_cons_mk (shut_int Try.underlying3 w1) (trodAll_cons_mk (shut_int Try.underlying3 w2) trodAll_mk0))), rfl, bel.frame _, fun h => by cases h⟩

theorem over : Rows.fnExactWishesRow.holds Try.pinned (OpenSpec.ofChange Rows.fnExactWishesSpec) :=
  OpenClaim.holds_of_wide 6 Try.f6 rfl rfl rfl rfl rfl rfl rfl ⟨rfl, rfl, rfl, rfl, rfl⟩ rfl rfl rfl rfl rfl (by kernel_rfl) Try.func6 (by kernel_rfl)
    (of_decide_eq_true (by kernel_rfl)) (by unfold Func.isWrapper; first | (rw [if_pos (by decide +kernel)]; kernel_rfl) | (rw [if_neg (by decide +kernel)]; exact ⟨rfl, rfl⟩))
    (fun os started H enc _ => lifted os started H enc)

theorem proved : Rows.FnExactWishesSaid := over
#print axioms proved
end Go.Proofs.Ytaccigmkddomaaa.fnExactWishes
