/- Proved: for all arguments the law FnExactMacroStep returns true, that is, the program's MacroStep answers as the reference model's MacroStep, and writes into no argument, and its answer owns its memory.
   Conditions: none besides those that the given row prints. -/
import Derived.Test.YtnaofcbbdlhjpaaRows
import Derived.WalkKit
import Derived.ProofKit
import Derived.OpenShut
import Derived.ShutString
import Derived.ChangeOld
import Derived.Below
import Derived.ChangeSame
import Derived.Lib.SmallJoins
import Derived.Test.YtnaofcbbdlhjpaaStStepB
namespace Go.Proofs.Ytnaofcbbdlhjpaa.fnExactMacroStep
open Go.ChangeShapes Go.WideShapes Go.ChangeAt Go.RowKit Go.Joins
set_option linter.unusedVariables false
set_option maxRecDepth 100000

theorem own : ownKnob Try.prog.godebug = none := by kernel_rfl
theorem laidOut : laidOutB Try.prog = true := by kernel_rfl

set_option maxHeartbeats 16000000 in
theorem walk (a0_0 : Int) (a0_1 : Option Addr) (n0_1 c0_1 : Nat) (a0_2 : Option Addr) (n0_2 c0_2 : Nat) (a0_3 : Option Addr) (n0_3 c0_3 : Nat) (a0_4 : Option Addr) (n0_4 c0_4 : Nat) (xs0 : List Mesh.C3) (ms0 ts0 bs0 : List Int) (w : World) (hn0_1 : n0_1 ≤ maxLen) (hn0_2 : n0_2 ≤ maxLen) (hn0_3 : n0_3 ≤ maxLen) (hn0_4 : n0_4 ≤ maxLen) (hr0 : State.ArgS w a0_1 a0_2 a0_3 a0_4 n0_1 n0_2 n0_3 n0_4 xs0 ms0 ts0 bs0) :
    Calls Try.prog 9 #[.agg #[.int .i64 a0_0, .slice a0_1 n0_1 c0_1, .slice a0_2 n0_2 c0_2, .slice a0_3 n0_3 c0_3, .slice a0_4 n0_4 c0_4]] w fun e w' => e = .returned (.bool true) ∧ Below w.heap.size w w' := by
  have HR0 := Lib.hid hr0
  have HM0_1 := Lib.hid hn0_1; have HM0_2 := Lib.hid hn0_2; have HM0_3 := Lib.hid hn0_3; have HM0_4 := Lib.hid hn0_4
  clear hr0 hn0_1 hn0_2 hn0_3 hn0_4
  obtain ⟨r0, hl0, hs0⟩ := State.szState_is a0_0 a0_1 a0_2 a0_3 a0_4 n0_1 n0_2 n0_3 n0_4 c0_1 c0_2 c0_3 c0_4 1048576 HM0_1.out HM0_2.out HM0_3.out HM0_4.out (by omega) (by omega)
  have HS0 := Lib.hid hs0; clear hs0
  rcases hl0 with ⟨hk0, hl0⟩ | rfl
  case inr =>
    have he := (Law.Held.nil w).box 49 #[.int .i64 a0_0, .slice a0_1 n0_1 c0_1, .slice a0_2 n0_2 c0_2, .slice a0_3 n0_3 c0_3, .slice a0_4 n0_4 c0_4]
    try simp only [World.size_alloc] at he
    have HE0 := Lib.hid he; clear he
    go_enter Try.func9, Try.ntmps9
    go_upto_region 2 with fail
    generalize w.alloc (.cells #[.int .i64 a0_0, .slice a0_1 n0_1 c0_1, .slice a0_2 n0_2 c0_2, .slice a0_3 n0_3 c0_3, .slice a0_4 n0_4 c0_4] 49) = W0 at *
    obtain ⟨p0, p1, p2, p3, p4⟩ := Law.box5 (HE0.out.nth 0 rfl)
    go_wp2_with (go_at_call 31; ((with_reducible refine (HS0.out _).mono ?_); rintro e w1 ⟨rfl, hg⟩; have HE1 := Lib.hid (HE0.out.on hg); clear hg))
    go_ret
    exact ⟨rfl, Cell.grown_below HE1.out.gr (Nat.le_refl _)⟩
  case inl =>
    have Hn0_1 : Hid (n0_1 ≤ 1048576) := Lib.hid (by omega)
    have Hn0_2 : Hid (n0_2 ≤ 1048576) := Lib.hid (by omega)
    have Hn0_3 : Hid (n0_3 ≤ 1048576) := Lib.hid (by omega)
    have Hn0_4 : Hid (n0_4 ≤ 1048576) := Lib.hid (by omega)
    obtain ⟨R9, m1, m2, m3, m4, ys, mr, tr, br, zm1, zm2, zm3, zm4, hS, hI⟩ := State.both_MacroStep a0_0 n0_1 n0_2 n0_3 n0_4 xs0 ms0 ts0 bs0 HR0.out.l.len HR0.out.m.len HR0.out.t.len HR0.out.b.len Hn0_1.out Hn0_2.out Hn0_3.out Hn0_4.out
    have Hm1 := Lib.hid zm1
    have Hm2 := Lib.hid zm2
    have Hm3 := Lib.hid zm3
    have Hm4 := Lib.hid zm4
    have in0_1 : (n0_1 : Int) ≤ 1048576 := by have := Hn0_1.out; omega
    have in0_2 : (n0_2 : Int) ≤ 1048576 := by have := Hn0_2.out; omega
    have in0_3 : (n0_3 : Int) ≤ 1048576 := by have := Hn0_3.out; omega
    have in0_4 : (n0_4 : Int) ≤ 1048576 := by have := Hn0_4.out; omega
    have HSB := Lib.hid hS; have HIB := Lib.hid hI; clear hS hI zm1 zm2 zm3 zm4
    clear hl0
    obtain ⟨k0, ek0⟩ : ∃ s : Nat, s = 1 + 3 * n0_1 + n0_2 + n0_3 + n0_4 := ⟨_, rfl⟩
    obtain ⟨kg, ekg⟩ : ∃ s : Nat, s = 1 + 3 * m1 + m2 + m3 + m4 := ⟨_, rfl⟩
    have EK0 := Lib.hid ek0; have pk0 : ¬ (k0 : Int) < 0 := by omega
    have bk0 : Hid (k0 ≤ 549755813888) := Lib.hid (by have := Hn0_1.out; have := Hn0_2.out; have := Hn0_3.out; have := Hn0_4.out; omega)
    have EKG := Lib.hid ekg; have pkg : ¬ (kg : Int) < 0 := by omega
    clear ek0 ekg
    have he := (Law.Held.nil w).box 49 #[.int .i64 a0_0, .slice a0_1 n0_1 c0_1, .slice a0_2 n0_2 c0_2, .slice a0_3 n0_3 c0_3, .slice a0_4 n0_4 c0_4]
    try simp only [World.size_alloc] at he
    have HE0 := Lib.hid he; clear he
    go_enter Try.func9, Try.ntmps9
    go_upto_region 2 with fail
    generalize w.alloc (.cells #[.int .i64 a0_0, .slice a0_1 n0_1 c0_1, .slice a0_2 n0_2 c0_2, .slice a0_3 n0_3 c0_3, .slice a0_4 n0_4 c0_4] 49) = W0 at *
    obtain ⟨p0, p1, p2, p3, p4⟩ := Law.box5 (HE0.out.nth 0 rfl)
    go_upto_region 5 with (go_at_call 31; ((with_reducible refine (HS0.out _).mono ?_); rintro e w1 ⟨rfl, hg⟩; have HE1 := Lib.hid (HE0.out.on hg); clear hg))
    clear p0 p1 p2 p3 p4 HE0 HS0
    obtain ⟨b0_0, b0_1, b0_2, b0_3, b0_4⟩ := Law.box5 (HE1.out.nth 0 rfl)
    go_upto_region 6 with (first | (go_at_call 33; ((with_reducible refine (State.toState_is _ _ _ _ _ _ _ _ _ _ _ _ _ xs0 ms0 ts0 bs0 _ (HR0.out.on HE1.out.gr) Hn0_1.out Hn0_2.out Hn0_3.out Hn0_4.out).mono ?_); rintro e u1 ⟨g1_1, g1_2, g1_3, g1_4, rfl, ho, hg⟩; have HE2 := Lib.hid (State.Held.state HE1.out hg ho); clear ho hg)) | (go_at_call 37; ((with_reducible refine (HSB.out _ _ _ _ _ _ _ _ _ (State.OwnS.reads (HE2.out.nth 1 rfl))).mono ?_); rintro e u2 ⟨q2_1, d2_1, q2_2, d2_2, q2_3, d2_3, q2_4, d2_4, rfl, ho, hg⟩; have HE3 := Lib.hid (State.Held.state HE2.out hg ho); clear ho hg)))
    clear b0_0 b0_1 b0_2 b0_3 b0_4 HE1 HE2
    have HE4 := Lib.hid (HE3.out.box 29 #[.int .i64 R9, .slice q2_1 m1 d2_1, .slice q2_2 m2 d2_2, .slice q2_3 m3 d2_3, .slice q2_4 m4 d2_4]); clear HE3
    obtain ⟨B3, hB3⟩ : ∃ B, B = u2.heap.size := ⟨_, rfl⟩
    rw [← hB3] at HE4 ⊢
    clear hB3
    generalize u2.alloc (.cells #[.int .i64 R9, .slice q2_1 m1 d2_1, .slice q2_2 m2 d2_2, .slice q2_3 m3 d2_3, .slice q2_4 m4 d2_4] 29) = V3 at *
    obtain ⟨b0_0, b0_1, b0_2, b0_3, b0_4⟩ := Law.box5 (HE4.out.nth 0 rfl)
    go_upto_region 7 with (go_at_call 33; ((with_reducible refine (State.toState_is _ _ _ _ _ _ _ _ _ _ _ _ _ xs0 ms0 ts0 bs0 _ (HR0.out.on HE4.out.gr) Hn0_1.out Hn0_2.out Hn0_3.out Hn0_4.out).mono ?_); rintro e u4 ⟨g4_1, g4_2, g4_3, g4_4, rfl, ho, hg⟩; have HE5 := Lib.hid (State.Held.state HE4.out hg ho); clear ho hg))
    clear b0_0 b0_1 b0_2 b0_3 b0_4 HE4
    have HE6 := Lib.hid (HE5.out.box 29 #[.int .i64 a0_0, .slice (some ⟨g4_1, 0, none⟩) n0_1 n0_1, .slice (some ⟨g4_2, 0, none⟩) n0_2 n0_2, .slice (some ⟨g4_3, 0, none⟩) n0_3 n0_3, .slice (some ⟨g4_4, 0, none⟩) n0_4 n0_4]); clear HE5
    obtain ⟨B5, hB5⟩ : ∃ B, B = u4.heap.size := ⟨_, rfl⟩
    rw [← hB5] at HE6 ⊢
    clear hB5
    generalize u4.alloc (.cells #[.int .i64 a0_0, .slice (some ⟨g4_1, 0, none⟩) n0_1 n0_1, .slice (some ⟨g4_2, 0, none⟩) n0_2 n0_2, .slice (some ⟨g4_3, 0, none⟩) n0_3 n0_3, .slice (some ⟨g4_4, 0, none⟩) n0_4 n0_4] 29) = V5 at *
    obtain ⟨x0_0, x0_1, x0_2, x0_3, x0_4⟩ := Law.box5 (HE6.out.nth 5 rfl)
    go_upto_region 8 with (go_at_call 23; ((with_reducible refine (HIB.out _ _ _ _ _ _ _ _ _ (State.OwnS.reads (HE6.out.nth 4 rfl))).mono ?_); rintro e u6 ⟨q6_1, d6_1, q6_2, d6_2, q6_3, d6_3, q6_4, d6_4, rfl, ho, hg⟩; have HE7 := Lib.hid (State.Held.state HE6.out hg ho); clear ho hg))
    clear x0_0 x0_1 x0_2 x0_3 x0_4 HE6
    have HE8 := Lib.hid (HE7.out.box 29 #[.int .i64 R9, .slice q6_1 m1 d6_1, .slice q6_2 m2 d6_2, .slice q6_3 m3 d6_3, .slice q6_4 m4 d6_4]); clear HE7
    obtain ⟨B7, hB7⟩ : ∃ B, B = u6.heap.size := ⟨_, rfl⟩
    rw [← hB7] at HE8 ⊢
    clear hB7
    generalize u6.alloc (.cells #[.int .i64 R9, .slice q6_1 m1 d6_1, .slice q6_2 m2 d6_2, .slice q6_3 m3 d6_3, .slice q6_4 m4 d6_4] 29) = V7 at *
    obtain ⟨e0, e1, e2, e3, e4⟩ := Law.box5 (HE8.out.nth 7 rfl)
    obtain ⟨f0, f1, f2, f3, f4⟩ := Law.box5 (HE8.out.nth 3 rfl)
    go_upto_region 10 with (go_at_call 34; ((with_reducible refine (State.eqState_is _ _ _ _ _ _ _ _ _ _ _ _ _ _ _ _ _ _ _ _ _ ys mr tr br _ (State.OwnS.reads (HE8.out.nth 6 rfl)) (State.OwnS.reads (HE8.out.nth 2 rfl)) Hm1.out Hm2.out Hm3.out Hm4.out).mono ?_); rintro e u8 ⟨rfl, hg⟩; have HE9 := Lib.hid (HE8.out.on hg); clear hg))
    clear e0 e1 e2 e3 e4 f0 f1 f2 f3 f4 HE8
    go_cut [31] from 27 to 30 (fun v wx => v = .bool false ∧ Hid (Law.Held w wx (Law.gsOf HE9.out)))
    case first =>
      obtain ⟨b0_0, b0_1, b0_2, b0_3, b0_4⟩ := Law.box5 (HE9.out.nth 0 rfl)
      obtain ⟨x0, x1, x2, x3, x4⟩ := Law.box5 (HE9.out.nth 5 rfl)
      go_region_with (first | (go_at_call 33; ((with_reducible refine (State.toState_is _ _ _ _ _ _ _ _ _ _ _ _ _ xs0 ms0 ts0 bs0 _ (HR0.out.on (Mesh.gr_drew HE9.out.gr)) Hn0_1.out Hn0_2.out Hn0_3.out Hn0_4.out).mono ?_); rintro e u9 ⟨z1, z2, z3, z4, rfl, ho, hg⟩; have hE := HE9.out.on (Cell.grown_trans (Mesh.gr_drew (Cell.grown_refl _)) hg); obtain ⟨s0, s1, s2, s3, s4⟩ := Law.box5 (hE.nth 5 rfl); have HRR := Lib.hid (State.OwnS.reads ho); have HEA := Lib.hid hE; clear ho hg hE)) | (go_at_call 34; ((with_reducible refine (State.eqState_is _ _ _ _ _ _ _ _ _ _ _ _ _ _ _ _ _ _ _ _ _ xs0 ms0 ts0 bs0 _ (State.OwnS.reads (HEA.out.nth 4 rfl)) HRR.out Hn0_1.out Hn0_2.out Hn0_3.out Hn0_4.out).mono ?_); rintro e u10 ⟨rfl, hg⟩; have HEB := Lib.hid (HEA.out.on hg); clear hg)))
      all_goals
        go_wp2_with fail
        go_meet
        exact ⟨rfl, HEB⟩
    case rest =>
      obtain ⟨rfl, HE10⟩ := hcut
      dsimp only [Law.gsOf] at HE10
      clear HE9
      obtain ⟨x0, x1, x2, x3, x4⟩ := Law.box5 (HE10.out.nth 5 rfl)
      go_upto_region 14 with (go_at_call 35; ((with_reducible refine (State.markState1 _ Hn0_1.out Hn0_2.out Hn0_3.out Hn0_4.out (HE10.out.nth 4 rfl)).mono ?_); rw [← EK0.out]; rintro e u11 ⟨rfl, ho, ht⟩; have HE11 := Lib.hid (HE10.out.turn 4 rfl (g' := State.stateG (.slice (some ⟨g4_1, 0, none⟩) n0_1 n0_1) (.slice (some ⟨g4_2, 0, none⟩) n0_2 n0_2) (.slice (some ⟨g4_3, 0, none⟩) n0_3 n0_3) (.slice (some ⟨g4_4, 0, none⟩) n0_4 n0_4) n0_1 n0_2 n0_3 n0_4 (State.marksC 1 n0_1) (Ints.marksI (1 + 3 * n0_1) n0_2) (Ints.marksI (1 + 3 * n0_1 + n0_2) n0_3) (Ints.marksI (1 + 3 * n0_1 + n0_2 + n0_3) n0_4)) ht rfl ho); clear ho ht))
      clear x0 x1 x2 x3 x4 HE10
      obtain ⟨e0, e1, e2, e3, e4⟩ := Law.box5 (HE11.out.nth 7 rfl)
      obtain ⟨f0, f1, f2, f3, f4⟩ := Law.box5 (HE11.out.nth 3 rfl)
      go_upto_region 17 with (go_at_call 34; ((with_reducible refine (State.eqState_is _ _ _ _ _ _ _ _ _ _ _ _ _ _ _ _ _ _ _ _ _ ys mr tr br _ (State.OwnS.reads (HE11.out.nth 6 rfl)) (State.OwnS.reads (HE11.out.nth 2 rfl)) Hm1.out Hm2.out Hm3.out Hm4.out).mono ?_); rintro e u12 ⟨rfl, hg⟩; have HE12 := Lib.hid (HE11.out.on hg); clear hg))
      clear e0 e1 e2 e3 e4 f0 f1 f2 f3 f4 HE11
      obtain ⟨e0, e1, e2, e3, e4⟩ := Law.box5 (HE12.out.nth 7 rfl)
      go_upto_region 19 with (go_at_call 35; ((with_reducible refine (State.markState1 _ Hm1.out Hm2.out Hm3.out Hm4.out (HE12.out.nth 6 rfl)).mono ?_); rw [← EKG.out]; rintro e u13 ⟨rfl, ho, ht⟩; have HE13 := Lib.hid (HE12.out.turn 6 rfl (g' := State.stateG (.slice q6_1 m1 d6_1) (.slice q6_2 m2 d6_2) (.slice q6_3 m3 d6_3) (.slice q6_4 m4 d6_4) m1 m2 m3 m4 (State.marksC 1 m1) (Ints.marksI (1 + 3 * m1) m2) (Ints.marksI (1 + 3 * m1 + m2) m3) (Ints.marksI (1 + 3 * m1 + m2 + m3) m4)) ht rfl ho); clear ho ht))
      clear e0 e1 e2 e3 e4 HE12
      obtain ⟨e0, e1, e2, e3, e4⟩ := Law.box5 (HE13.out.nth 7 rfl)
      go_upto_region 24 with (go_at_call 36; ((with_reducible refine (State.heldState1 _ Hm1.out Hm2.out Hm3.out Hm4.out (State.OwnS.reads (HE13.out.nth 6 rfl))).mono ?_); rw [← EKG.out]; rintro e u14 ⟨rfl, hg⟩; have HE14 := Lib.hid (HE13.out.on hg); clear hg))
      clear e0 e1 e2 e3 e4 HE13
      obtain ⟨b0_0, b0_1, b0_2, b0_3, b0_4⟩ := Law.box5 (HE14.out.nth 0 rfl)
      go_upto_region 25 with (first | (go_at_call 33; ((with_reducible refine (State.toState_is _ _ _ _ _ _ _ _ _ _ _ _ _ xs0 ms0 ts0 bs0 _ (HR0.out.on HE14.out.gr) Hn0_1.out Hn0_2.out Hn0_3.out Hn0_4.out).mono ?_); rintro e u15 ⟨g15_1, g15_2, g15_3, g15_4, rfl, ho, hg⟩; have HE15 := Lib.hid (State.Held.state HE14.out hg ho); clear ho hg)) | (go_at_call 23; ((with_reducible refine (HIB.out _ _ _ _ _ _ _ _ _ (State.OwnS.reads (HE15.out.nth 8 rfl))).mono ?_); rintro e u16 ⟨q16_1, d16_1, q16_2, d16_2, q16_3, d16_3, q16_4, d16_4, rfl, ho, hg⟩; have HE16 := Lib.hid (State.Held.state HE15.out hg ho); clear ho hg)))
      clear b0_0 b0_1 b0_2 b0_3 b0_4 HE14 HE15
      have HE17 := Lib.hid (HE16.out.box 29 #[.int .i64 R9, .slice q16_1 m1 d16_1, .slice q16_2 m2 d16_2, .slice q16_3 m3 d16_3, .slice q16_4 m4 d16_4]); clear HE16
      obtain ⟨B17, hB17⟩ : ∃ B, B = u16.heap.size := ⟨_, rfl⟩
      rw [← hB17] at HE17 ⊢
      clear hB17
      generalize u16.alloc (.cells #[.int .i64 R9, .slice q16_1 m1 d16_1, .slice q16_2 m2 d16_2, .slice q16_3 m3 d16_3, .slice q16_4 m4 d16_4] 29) = V17 at *
      obtain ⟨e0, e1, e2, e3, e4⟩ := Law.box5 (HE17.out.nth 10 rfl)
      obtain ⟨f0, f1, f2, f3, f4⟩ := Law.box5 (HE17.out.nth 3 rfl)
      go_upto_region 28 with (go_at_call 34; ((with_reducible refine (State.eqState_is _ _ _ _ _ _ _ _ _ _ _ _ _ _ _ _ _ _ _ _ _ ys mr tr br _ (State.OwnS.reads (HE17.out.nth 9 rfl)) (State.OwnS.reads (HE17.out.nth 2 rfl)) Hm1.out Hm2.out Hm3.out Hm4.out).mono ?_); rintro e u18 ⟨rfl, hg⟩; have HE18 := Lib.hid (HE17.out.on hg); clear hg))
      clear e0 e1 e2 e3 e4 f0 f1 f2 f3 f4 HE17
      obtain ⟨e0, e1, e2, e3, e4⟩ := Law.box5 (HE18.out.nth 7 rfl)
      go_wp2_with (go_at_call 36; ((with_reducible refine (State.heldState1 _ Hm1.out Hm2.out Hm3.out Hm4.out (State.OwnS.reads (HE18.out.nth 6 rfl))).mono ?_); rw [← EKG.out]; rintro e u19 ⟨rfl, hg⟩; have HE19 := Lib.hid (HE18.out.on hg); clear hg))
      go_ret
      exact ⟨rfl, Cell.grown_below HE19.out.gr (Nat.le_refl _)⟩

set_option maxRecDepth 100000 in
theorem lifted (os : Os) (started : os.Started) (H : Type) (enc : TypeId × Value → H) :
    ReturnsInHanded {} Try.checked os 9 .any (Rows.fnExactMacroStepSpec.pre6 enc Try.prog Try.f9 Rows.fnExactMacroStepRow.domain false) (Rows.fnExactMacroStepSpec.post enc Try.prog Try.f9 false true false false) := by
  refine returnsInHanded_of_change (C := Try.checked) own started (by kernel_rfl) Try.func9
    (ChangeSpec.witness6 (enc := enc) (C := Try.checked) false ⟨#[], #[.agg #[.int .i64 0, .slice none 0 0, .slice none 0 0, .slice none 0 0, .slice none 0 0]], []⟩ 8 (by kernel_rfl) (by kernel_rfl) (by kernel_rfl) (by kernel_rfl)) ?_
  intro W base args ds gs before hval0 hW hcnd _
  have hval : ∀ (j : Nat) t v, Try.f9.params[j]? = some t → args[j]? = some v → Value.okWide Try.prog W .any base t v := hval0
  have hW' := hW
  obtain ⟨p, q, hA0, hV, rfl, hfz, hnd⟩ := hW
  have hA : DataW.TrodAll enc Try.prog W 0 (fun _ => true) true Try.f9.params.toList args.toList ds p := hA0
  rw [Try.params9] at hA hval
  obtain ⟨v0, vs0, d0, ds0, p0, q0, hargs, rfl, rfl, h0, r0⟩ := trodAll_cons hA
  obtain ⟨rfl, rfl, rfl⟩ := trodAll_nil r0
  obtain rfl : args = #[v0] := by cases args; simp_all
  obtain ⟨rfl, rfl⟩ := trodVars_none hV
  have lt0 : ∀ x ∈ p0, x.block < W.heap.size := by obtain ⟨m, hm⟩ := h0; exact DataW.trod_lt m _ _ _ hm
  obtain ⟨a0_0, a0_1, n0_1, c0_1, a0_2, n0_2, c0_2, a0_3, n0_3, c0_3, a0_4, n0_4, c0_4, xs0, ms0, ts0, bs0, rfl, hn0_1, hn0_2, hn0_3, hn0_4, hr0⟩ := State.open_state (hval 0 49 v0 rfl rfl) h0
  clear hA0 hval0
  simp only [List.append_nil] at hW'
  refine (walk a0_0 a0_1 n0_1 c0_1 a0_2 n0_2 c0_2 a0_3 n0_3 c0_3 a0_4 n0_4 c0_4 xs0 ms0 ts0 bs0 W hn0_1 hn0_2 hn0_3 hn0_4 hr0).mono fun e W' ⟨he, bel⟩ => ?_
  subst he
  exact ⟨_, rfl, _, _, _, [], _, [], hW', (trodAll_cons_mk (shut_bool Try.underlying4 _) trodAll_mk0), (trodAll_cons_mk (Below.trod laidOut (by kernel_rfl) (of_decide_eq_true (by kernel_rfl)) h0 bel lt0) trodAll_mk0), rfl, bel.frame _, fun h => by cases h⟩

theorem over : Rows.fnExactMacroStepRow.holds Try.pinned (OpenSpec.ofChange Rows.fnExactMacroStepSpec) :=
  OpenClaim.holds_of_wide 9 Try.f9 rfl rfl rfl rfl rfl rfl rfl ⟨rfl, rfl, rfl, rfl, rfl⟩ rfl rfl rfl rfl rfl (by kernel_rfl) Try.func9 (by kernel_rfl)
    (of_decide_eq_true (by kernel_rfl)) (by unfold Func.isWrapper; first | (rw [if_pos (by decide +kernel)]; kernel_rfl) | (rw [if_neg (by decide +kernel)]; exact ⟨rfl, rfl⟩))
    (fun os started H enc _ => lifted os started H enc)

theorem proved : Rows.FnExactMacroStepSaid := over
#print axioms proved
end Go.Proofs.Ytnaofcbbdlhjpaa.fnExactMacroStep
