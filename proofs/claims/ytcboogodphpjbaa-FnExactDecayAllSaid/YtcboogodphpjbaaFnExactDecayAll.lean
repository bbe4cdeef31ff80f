/- Proved: for all arguments the law FnExactDecayAll returns true, that is, the program's DecayAll answers as the reference model's DecayAll, and writes into no argument, and its answer owns its memory.
   Conditions: none besides those that the given row prints. -/
import Derived.Test.YtcboogodphpjbaaRows
import Derived.WalkKit
import Derived.ProofKit
import Derived.OpenShut
import Derived.ShutString
import Derived.ChangeOld
import Derived.Below
import Derived.ChangeSame
import Derived.Lib.SmallJoins
import Derived.Test.YtcboogodphpjbaaStDecB
import Derived.Test.YtcboogodphpjbaaStLaw
namespace Go.Proofs.Ytcboogodphpjbaa.fnExactDecayAll
open Go.ChangeShapes Go.WideShapes Go.ChangeAt Go.RowKit Go.Joins
set_option linter.unusedVariables false
set_option maxRecDepth 100000

theorem own : ownKnob Try.prog.godebug = none := by kernel_rfl
theorem laidOut : laidOutB Try.prog = true := by kernel_rfl

set_option maxHeartbeats 16000000 in
theorem walk (a0_0 : Int) (a0_1 : Option Addr) (n0_1 c0_1 : Nat) (a0_2 : Option Addr) (n0_2 c0_2 : Nat) (a0_3 : Option Addr) (n0_3 c0_3 : Nat) (a0_4 : Option Addr) (n0_4 c0_4 : Nat) (xs0 : List Mesh.C3) (ms0 ts0 bs0 : List Int) (a1 : Int) (w1 : (Lit.int .i64 a1).wf = true) (w : World) (hn0_1 : n0_1 ≤ maxLen) (hn0_2 : n0_2 ≤ maxLen) (hn0_3 : n0_3 ≤ maxLen) (hn0_4 : n0_4 ≤ maxLen) (hr0 : State.ArgS w a0_1 a0_2 a0_3 a0_4 n0_1 n0_2 n0_3 n0_4 xs0 ms0 ts0 bs0) :
    Calls Try.prog 4 #[.agg #[.int .i64 a0_0, .slice a0_1 n0_1 c0_1, .slice a0_2 n0_2 c0_2, .slice a0_3 n0_3 c0_3, .slice a0_4 n0_4 c0_4], .int .i64 a1] w fun e w' => e = .returned (.bool true) ∧ Below w.heap.size w w' := by
  have HR0 := Lib.hid hr0
  have HM0_1 := Lib.hid hn0_1; have HM0_2 := Lib.hid hn0_2; have HM0_3 := Lib.hid hn0_3; have HM0_4 := Lib.hid hn0_4
  clear hr0 hn0_1 hn0_2 hn0_3 hn0_4
  obtain ⟨r0, hl0, hs0⟩ := State.szState_is a0_0 a0_1 a0_2 a0_3 a0_4 n0_1 n0_2 n0_3 n0_4 c0_1 c0_2 c0_3 c0_4 1048576 HM0_1.out HM0_2.out HM0_3.out HM0_4.out (by omega) (by omega)
  have HS0 := Lib.hid hs0; clear hs0
  rcases hl0 with ⟨hk0, hl0⟩ | rfl
  case inr =>
    have he := (Law.Held.nil w).box 44 #[.int .i64 a0_0, .slice a0_1 n0_1 c0_1, .slice a0_2 n0_2 c0_2, .slice a0_3 n0_3 c0_3, .slice a0_4 n0_4 c0_4]
    try simp only [World.size_alloc] at he
    have HE0 := Lib.hid he; clear he
    go_enter Try.func4, Try.ntmps4
    go_upto_region 2 with fail
    generalize w.alloc (.cells #[.int .i64 a0_0, .slice a0_1 n0_1 c0_1, .slice a0_2 n0_2 c0_2, .slice a0_3 n0_3 c0_3, .slice a0_4 n0_4 c0_4] 44) = W0 at *
    obtain ⟨p0, p1, p2, p3, p4⟩ := Law.box5 (HE0.out.nth 0 rfl)
    go_wp2_with (go_at_call 15; ((with_reducible refine (HS0.out _).mono ?_); rintro e w1 ⟨rfl, hg⟩; have HE1 := Lib.hid (HE0.out.on hg); clear hg))
    go_ret
    exact ⟨rfl, Cell.grown_below HE1.out.gr (Nat.le_refl _)⟩
  case inl =>
    have Hn0_1 : Hid (n0_1 ≤ 1048576) := Lib.hid (by omega)
    have Hn0_2 : Hid (n0_2 ≤ 1048576) := Lib.hid (by omega)
    have Hn0_3 : Hid (n0_3 ≤ 1048576) := Lib.hid (by omega)
    have Hn0_4 : Hid (n0_4 ≤ 1048576) := Lib.hid (by omega)
    obtain ⟨R9, m1, m2, m3, m4, ys, mr, tr, br, y1_0, y1_1, y1_2, y1_3, zm1, zm2, zm3, zm4, hS, hI⟩ := State.both_DecayAll a0_0 n0_1 n0_2 n0_3 n0_4 xs0 ms0 ts0 bs0 HR0.out.l.len HR0.out.m.len HR0.out.t.len HR0.out.b.len Hn0_1.out Hn0_2.out Hn0_3.out Hn0_4.out a1 w1
    have Hm1 := Lib.hid zm1
    have Hm2 := Lib.hid zm2
    have Hm3 := Lib.hid zm3
    have Hm4 := Lib.hid zm4
    have in0_1 : (n0_1 : Int) ≤ 1048576 := by have := Hn0_1.out; omega
    have in0_2 : (n0_2 : Int) ≤ 1048576 := by have := Hn0_2.out; omega
    have in0_3 : (n0_3 : Int) ≤ 1048576 := by have := Hn0_3.out; omega
    have in0_4 : (n0_4 : Int) ≤ 1048576 := by have := Hn0_4.out; omega
    have HSB := Lib.hid hS; have HIB := Lib.hid hI; clear hS hI zm1 zm2 zm3 zm4
    clear hl0
    obtain ⟨k0, ek0⟩ : ∃ s : Nat, s = 1 + 3 * n0_1 + n0_2 + n0_3 + n0_4 := ⟨_, rfl⟩
    obtain ⟨kg, ekg⟩ : ∃ s : Nat, s = 1 + 3 * m1 + m2 + m3 + m4 := ⟨_, rfl⟩
    have EK0 := Lib.hid ek0; have pk0 : ¬ (k0 : Int) < 0 := by omega
    have bk0 : Hid (k0 ≤ 549755813888) := Lib.hid (by have := Hn0_1.out; have := Hn0_2.out; have := Hn0_3.out; have := Hn0_4.out; omega)
    have EKG := Lib.hid ekg; have pkg : ¬ (kg : Int) < 0 := by omega
    clear ek0 ekg
    have he := (Law.Held.nil w).box 44 #[.int .i64 a0_0, .slice a0_1 n0_1 c0_1, .slice a0_2 n0_2 c0_2, .slice a0_3 n0_3 c0_3, .slice a0_4 n0_4 c0_4]
    try simp only [World.size_alloc] at he
    have HE0 := Lib.hid he; clear he
    go_enter Try.func4, Try.ntmps4
    go_upto_region 2 with fail
    generalize w.alloc (.cells #[.int .i64 a0_0, .slice a0_1 n0_1 c0_1, .slice a0_2 n0_2 c0_2, .slice a0_3 n0_3 c0_3, .slice a0_4 n0_4 c0_4] 44) = W0 at *
    obtain ⟨p0, p1, p2, p3, p4⟩ := Law.box5 (HE0.out.nth 0 rfl)
    go_upto_region 5 with (go_at_call 15; ((with_reducible refine (HS0.out _).mono ?_); rintro e w1 ⟨rfl, hg⟩; have HE1 := Lib.hid (HE0.out.on hg); clear hg))
    clear p0 p1 p2 p3 p4 HE0 HS0
    obtain ⟨b0_0, b0_1, b0_2, b0_3, b0_4⟩ := Law.box5 (HE1.out.nth 0 rfl)
    go_upto_region 6 with (first | (go_at_call 17; ((with_reducible refine (State.toState_is _ _ _ _ _ _ _ _ _ _ _ _ _ xs0 ms0 ts0 bs0 _ (HR0.out.on HE1.out.gr) Hn0_1.out Hn0_2.out Hn0_3.out Hn0_4.out).mono ?_); rintro e u1 ⟨g1_1, g1_2, g1_3, g1_4, rfl, ho, hg⟩; have HE2 := Lib.hid (State.Held.state HE1.out hg ho); clear ho hg)) | (go_at_call 16; ((with_reducible refine (HSB.out _ _ _ _ _ _ _ _ _ (State.OwnS.reads (HE2.out.nth 1 rfl))).mono ?_); rintro e u2 ⟨q2_1, d2_1, q2_2, d2_2, q2_3, d2_3, q2_4, d2_4, rfl, ho, hg⟩; have HE3 := Lib.hid (State.Held.state HE2.out hg ho); clear ho hg)))
    clear b0_0 b0_1 b0_2 b0_3 b0_4 HE1 HE2
    have he := (HE3.out.box 29 #[.int .i64 R9, .slice q2_1 m1 d2_1, .slice q2_2 m2 d2_2, .slice q2_3 m3 d2_3, .slice q2_4 m4 d2_4]).box 33 #[.int .i64 y1_0, .int .i64 y1_1, .int .i64 y1_2, .int .i64 y1_3]
    simp only [World.size_alloc] at he
    have HE4 := Lib.hid he; clear he HE3
    obtain ⟨B3, hB3⟩ : ∃ B, B = u2.heap.size + 1 := ⟨_, rfl⟩
    rw [← hB3] at HE4 ⊢
    clear hB3
    obtain ⟨B4, hB4⟩ : ∃ B, B = u2.heap.size := ⟨_, rfl⟩
    rw [← hB4] at HE4 ⊢
    clear hB4
    generalize (u2.alloc (.cells #[.int .i64 R9, .slice q2_1 m1 d2_1, .slice q2_2 m2 d2_2, .slice q2_3 m3 d2_3, .slice q2_4 m4 d2_4] 29)).alloc (.cells #[.int .i64 y1_0, .int .i64 y1_1, .int .i64 y1_2, .int .i64 y1_3] 33) = V4 at *
    obtain ⟨b0_0, b0_1, b0_2, b0_3, b0_4⟩ := Law.box5 (HE4.out.nth 0 rfl)
    go_upto_region 7 with (go_at_call 17; ((with_reducible refine (State.toState_is _ _ _ _ _ _ _ _ _ _ _ _ _ xs0 ms0 ts0 bs0 _ (HR0.out.on HE4.out.gr) Hn0_1.out Hn0_2.out Hn0_3.out Hn0_4.out).mono ?_); rintro e u5 ⟨g5_1, g5_2, g5_3, g5_4, rfl, ho, hg⟩; have HE5 := Lib.hid (State.Held.state HE4.out hg ho); clear ho hg))
    clear b0_0 b0_1 b0_2 b0_3 b0_4 HE4
    have HE6 := Lib.hid (HE5.out.box 29 #[.int .i64 a0_0, .slice (some ⟨g5_1, 0, none⟩) n0_1 n0_1, .slice (some ⟨g5_2, 0, none⟩) n0_2 n0_2, .slice (some ⟨g5_3, 0, none⟩) n0_3 n0_3, .slice (some ⟨g5_4, 0, none⟩) n0_4 n0_4]); clear HE5
    obtain ⟨B6, hB6⟩ : ∃ B, B = u5.heap.size := ⟨_, rfl⟩
    rw [← hB6] at HE6 ⊢
    clear hB6
    generalize u5.alloc (.cells #[.int .i64 a0_0, .slice (some ⟨g5_1, 0, none⟩) n0_1 n0_1, .slice (some ⟨g5_2, 0, none⟩) n0_2 n0_2, .slice (some ⟨g5_3, 0, none⟩) n0_3 n0_3, .slice (some ⟨g5_4, 0, none⟩) n0_4 n0_4] 29) = V6 at *
    obtain ⟨x0_0, x0_1, x0_2, x0_3, x0_4⟩ := Law.box5 (HE6.out.nth 6 rfl)
    go_upto_region 8 with (go_at_call 10; ((with_reducible refine (HIB.out _ _ _ _ _ _ _ _ _ (State.OwnS.reads (HE6.out.nth 5 rfl))).mono ?_); rintro e u7 ⟨q7_1, d7_1, q7_2, d7_2, q7_3, d7_3, q7_4, d7_4, rfl, ho, hg⟩; have HE7 := Lib.hid (State.Held.state HE6.out hg ho); clear ho hg))
    clear x0_0 x0_1 x0_2 x0_3 x0_4 HE6
    have he := (HE7.out.box 29 #[.int .i64 R9, .slice q7_1 m1 d7_1, .slice q7_2 m2 d7_2, .slice q7_3 m3 d7_3, .slice q7_4 m4 d7_4]).box 33 #[.int .i64 y1_0, .int .i64 y1_1, .int .i64 y1_2, .int .i64 y1_3]
    simp only [World.size_alloc] at he
    have HE8 := Lib.hid he; clear he HE7
    obtain ⟨B8, hB8⟩ : ∃ B, B = u7.heap.size + 1 := ⟨_, rfl⟩
    rw [← hB8] at HE8 ⊢
    clear hB8
    obtain ⟨B9, hB9⟩ : ∃ B, B = u7.heap.size := ⟨_, rfl⟩
    rw [← hB9] at HE8 ⊢
    clear hB9
    generalize (u7.alloc (.cells #[.int .i64 R9, .slice q7_1 m1 d7_1, .slice q7_2 m2 d7_2, .slice q7_3 m3 d7_3, .slice q7_4 m4 d7_4] 29)).alloc (.cells #[.int .i64 y1_0, .int .i64 y1_1, .int .i64 y1_2, .int .i64 y1_3] 33) = V9 at *
    obtain ⟨e0, e1, e2, e3, e4⟩ := Law.box5 (HE8.out.nth 8 rfl)
    obtain ⟨f0, f1, f2, f3, f4⟩ := Law.box5 (HE8.out.nth 3 rfl)
    go_upto_region 10 with (first | (go_at_call 18; ((with_reducible refine (State.eqState_is _ _ _ _ _ _ _ _ _ _ _ _ _ _ _ _ _ _ _ _ _ ys mr tr br _ (State.OwnS.reads (HE8.out.nth 7 rfl)) (State.OwnS.reads (HE8.out.nth 2 rfl)) Hm1.out Hm2.out Hm3.out Hm4.out).mono ?_); rintro e u10 ⟨rfl, hg⟩; have HE9 := Lib.hid (HE8.out.on hg); clear hg; obtain ⟨s0, s1, s2, s3⟩ := Law.cells4 (HE9.out.nth 9 rfl); obtain ⟨t0, t1, t2, t3⟩ := Law.cells4 (HE9.out.nth 4 rfl))) | (go_at_call 19; ((with_reducible refine (State.eqLedger_is y1_0 y1_1 y1_2 y1_3 _).mono ?_); rintro e u11 ⟨rfl, hg⟩; have HE10 := Lib.hid (HE9.out.on hg); clear hg)))
    clear e0 e1 e2 e3 e4 f0 f1 f2 f3 f4 s0 s1 s2 s3 t0 t1 t2 t3 HE8 HE9
    go_cut [50] from 46 to 49 (fun v wx => v = .bool false ∧ Hid (Law.Held w wx (Law.gsOf HE10.out)))
    case first =>
      obtain ⟨b0_0, b0_1, b0_2, b0_3, b0_4⟩ := Law.box5 (HE10.out.nth 0 rfl)
      obtain ⟨x0, x1, x2, x3, x4⟩ := Law.box5 (HE10.out.nth 6 rfl)
      go_region_with (first | (go_at_call 17; ((with_reducible refine (State.toState_is _ _ _ _ _ _ _ _ _ _ _ _ _ xs0 ms0 ts0 bs0 _ (HR0.out.on (Mesh.gr_drew HE10.out.gr)) Hn0_1.out Hn0_2.out Hn0_3.out Hn0_4.out).mono ?_); rintro e u12 ⟨z1, z2, z3, z4, rfl, ho, hg⟩; have hE := HE10.out.on (Cell.grown_trans (Mesh.gr_drew (Cell.grown_refl _)) hg); obtain ⟨s0, s1, s2, s3, s4⟩ := Law.box5 (hE.nth 6 rfl); have HRR := Lib.hid (State.OwnS.reads ho); have HEA := Lib.hid hE; clear ho hg hE)) | (go_at_call 18; ((with_reducible refine (State.eqState_is _ _ _ _ _ _ _ _ _ _ _ _ _ _ _ _ _ _ _ _ _ xs0 ms0 ts0 bs0 _ (State.OwnS.reads (HEA.out.nth 5 rfl)) HRR.out Hn0_1.out Hn0_2.out Hn0_3.out Hn0_4.out).mono ?_); rintro e u13 ⟨rfl, hg⟩; have HEB := Lib.hid (HEA.out.on hg); clear hg)))
      all_goals
        go_wp2_with fail
        go_meet
        exact ⟨rfl, HEB⟩
    case rest =>
      obtain ⟨rfl, HE11⟩ := hcut
      dsimp only [Law.gsOf] at HE11
      clear HE10
      obtain ⟨x0, x1, x2, x3, x4⟩ := Law.box5 (HE11.out.nth 6 rfl)
      go_upto_region 14 with (go_at_call 20; ((with_reducible refine (State.markState1 _ Hn0_1.out Hn0_2.out Hn0_3.out Hn0_4.out (HE11.out.nth 5 rfl)).mono ?_); rw [← EK0.out]; rintro e u14 ⟨rfl, ho, ht⟩; have HE12 := Lib.hid (HE11.out.turn 5 rfl (g' := State.stateG (.slice (some ⟨g5_1, 0, none⟩) n0_1 n0_1) (.slice (some ⟨g5_2, 0, none⟩) n0_2 n0_2) (.slice (some ⟨g5_3, 0, none⟩) n0_3 n0_3) (.slice (some ⟨g5_4, 0, none⟩) n0_4 n0_4) n0_1 n0_2 n0_3 n0_4 (State.marksC 1 n0_1) (Ints.marksI (1 + 3 * n0_1) n0_2) (Ints.marksI (1 + 3 * n0_1 + n0_2) n0_3) (Ints.marksI (1 + 3 * n0_1 + n0_2 + n0_3) n0_4)) ht rfl ho); clear ho ht))
      clear x0 x1 x2 x3 x4 HE11
      obtain ⟨e0, e1, e2, e3, e4⟩ := Law.box5 (HE12.out.nth 8 rfl)
      obtain ⟨f0, f1, f2, f3, f4⟩ := Law.box5 (HE12.out.nth 3 rfl)
      go_upto_region 17 with (first | (go_at_call 18; ((with_reducible refine (State.eqState_is _ _ _ _ _ _ _ _ _ _ _ _ _ _ _ _ _ _ _ _ _ ys mr tr br _ (State.OwnS.reads (HE12.out.nth 7 rfl)) (State.OwnS.reads (HE12.out.nth 2 rfl)) Hm1.out Hm2.out Hm3.out Hm4.out).mono ?_); rintro e u15 ⟨rfl, hg⟩; have HE13 := Lib.hid (HE12.out.on hg); clear hg; obtain ⟨s0, s1, s2, s3⟩ := Law.cells4 (HE13.out.nth 9 rfl); obtain ⟨t0, t1, t2, t3⟩ := Law.cells4 (HE13.out.nth 4 rfl))) | (go_at_call 19; ((with_reducible refine (State.eqLedger_is y1_0 y1_1 y1_2 y1_3 _).mono ?_); rintro e u16 ⟨rfl, hg⟩; have HE14 := Lib.hid (HE13.out.on hg); clear hg)))
      clear e0 e1 e2 e3 e4 f0 f1 f2 f3 f4 s0 s1 s2 s3 t0 t1 t2 t3 HE12 HE13
      obtain ⟨e0, e1, e2, e3, e4⟩ := Law.box5 (HE14.out.nth 8 rfl)
      go_upto_region 19 with (go_at_call 20; ((with_reducible refine (State.markState1 _ Hm1.out Hm2.out Hm3.out Hm4.out (HE14.out.nth 7 rfl)).mono ?_); rw [← EKG.out]; rintro e u17 ⟨rfl, ho, ht⟩; have HE15 := Lib.hid (HE14.out.turn 7 rfl (g' := State.stateG (.slice q7_1 m1 d7_1) (.slice q7_2 m2 d7_2) (.slice q7_3 m3 d7_3) (.slice q7_4 m4 d7_4) m1 m2 m3 m4 (State.marksC 1 m1) (Ints.marksI (1 + 3 * m1) m2) (Ints.marksI (1 + 3 * m1 + m2) m3) (Ints.marksI (1 + 3 * m1 + m2 + m3) m4)) ht rfl ho); clear ho ht))
      clear e0 e1 e2 e3 e4 HE14
      obtain ⟨e0, e1, e2, e3, e4⟩ := Law.box5 (HE15.out.nth 8 rfl)
      go_upto_region 24 with (go_at_call 21; ((with_reducible refine (State.heldState1 _ Hm1.out Hm2.out Hm3.out Hm4.out (State.OwnS.reads (HE15.out.nth 7 rfl))).mono ?_); rw [← EKG.out]; rintro e u18 ⟨rfl, hg⟩; have HE16 := Lib.hid (HE15.out.on hg); clear hg))
      clear e0 e1 e2 e3 e4 HE15
      obtain ⟨b0_0, b0_1, b0_2, b0_3, b0_4⟩ := Law.box5 (HE16.out.nth 0 rfl)
      go_upto_region 25 with (first | (go_at_call 17; ((with_reducible refine (State.toState_is _ _ _ _ _ _ _ _ _ _ _ _ _ xs0 ms0 ts0 bs0 _ (HR0.out.on HE16.out.gr) Hn0_1.out Hn0_2.out Hn0_3.out Hn0_4.out).mono ?_); rintro e u19 ⟨g19_1, g19_2, g19_3, g19_4, rfl, ho, hg⟩; have HE17 := Lib.hid (State.Held.state HE16.out hg ho); clear ho hg)) | (go_at_call 10; ((with_reducible refine (HIB.out _ _ _ _ _ _ _ _ _ (State.OwnS.reads (HE17.out.nth 10 rfl))).mono ?_); rintro e u20 ⟨q20_1, d20_1, q20_2, d20_2, q20_3, d20_3, q20_4, d20_4, rfl, ho, hg⟩; have HE18 := Lib.hid (State.Held.state HE17.out hg ho); clear ho hg)))
      clear b0_0 b0_1 b0_2 b0_3 b0_4 HE16 HE17
      have he := (HE18.out.box 29 #[.int .i64 R9, .slice q20_1 m1 d20_1, .slice q20_2 m2 d20_2, .slice q20_3 m3 d20_3, .slice q20_4 m4 d20_4]).box 33 #[.int .i64 y1_0, .int .i64 y1_1, .int .i64 y1_2, .int .i64 y1_3]
      simp only [World.size_alloc] at he
      have HE19 := Lib.hid he; clear he HE18
      obtain ⟨B21, hB21⟩ : ∃ B, B = u20.heap.size + 1 := ⟨_, rfl⟩
      rw [← hB21] at HE19 ⊢
      clear hB21
      obtain ⟨B22, hB22⟩ : ∃ B, B = u20.heap.size := ⟨_, rfl⟩
      rw [← hB22] at HE19 ⊢
      clear hB22
      generalize (u20.alloc (.cells #[.int .i64 R9, .slice q20_1 m1 d20_1, .slice q20_2 m2 d20_2, .slice q20_3 m3 d20_3, .slice q20_4 m4 d20_4] 29)).alloc (.cells #[.int .i64 y1_0, .int .i64 y1_1, .int .i64 y1_2, .int .i64 y1_3] 33) = V22 at *
      obtain ⟨e0, e1, e2, e3, e4⟩ := Law.box5 (HE19.out.nth 12 rfl)
      obtain ⟨f0, f1, f2, f3, f4⟩ := Law.box5 (HE19.out.nth 3 rfl)
      go_upto_region 28 with (first | (go_at_call 18; ((with_reducible refine (State.eqState_is _ _ _ _ _ _ _ _ _ _ _ _ _ _ _ _ _ _ _ _ _ ys mr tr br _ (State.OwnS.reads (HE19.out.nth 11 rfl)) (State.OwnS.reads (HE19.out.nth 2 rfl)) Hm1.out Hm2.out Hm3.out Hm4.out).mono ?_); rintro e u23 ⟨rfl, hg⟩; have HE20 := Lib.hid (HE19.out.on hg); clear hg; obtain ⟨s0, s1, s2, s3⟩ := Law.cells4 (HE20.out.nth 13 rfl); obtain ⟨t0, t1, t2, t3⟩ := Law.cells4 (HE20.out.nth 4 rfl))) | (go_at_call 19; ((with_reducible refine (State.eqLedger_is y1_0 y1_1 y1_2 y1_3 _).mono ?_); rintro e u24 ⟨rfl, hg⟩; have HE21 := Lib.hid (HE20.out.on hg); clear hg)))
      clear e0 e1 e2 e3 e4 f0 f1 f2 f3 f4 s0 s1 s2 s3 t0 t1 t2 t3 HE19 HE20
      obtain ⟨e0, e1, e2, e3, e4⟩ := Law.box5 (HE21.out.nth 8 rfl)
      go_wp2_with (go_at_call 21; ((with_reducible refine (State.heldState1 _ Hm1.out Hm2.out Hm3.out Hm4.out (State.OwnS.reads (HE21.out.nth 7 rfl))).mono ?_); rw [← EKG.out]; rintro e u25 ⟨rfl, hg⟩; have HE22 := Lib.hid (HE21.out.on hg); clear hg))
      go_ret
      exact ⟨rfl, Cell.grown_below HE22.out.gr (Nat.le_refl _)⟩

set_option maxRecDepth 100000 in
theorem lifted (os : Os) (started : os.Started) (H : Type) (enc : TypeId × Value → H) :
    ReturnsInHanded {} Try.checked os 4 .any (Rows.fnExactDecayAllSpec.pre6 enc Try.prog Try.f4 Rows.fnExactDecayAllRow.domain false) (Rows.fnExactDecayAllSpec.post enc Try.prog Try.f4 false true false false) := by
  refine returnsInHanded_of_change (C := Try.checked) own started (by kernel_rfl) Try.func4
    (ChangeSpec.witness6 (enc := enc) (C := Try.checked) false ⟨#[], #[.agg #[.int .i64 0, .slice none 0 0, .slice none 0 0, .slice none 0 0, .slice none 0 0], .int .i64 0], []⟩ 8 (by kernel_rfl) (by kernel_rfl) (by kernel_rfl) (by kernel_rfl)) ?_
  intro W base args ds gs before hval0 hW hcnd _
  have hval : ∀ (j : Nat) t v, Try.f4.params[j]? = some t → args[j]? = some v → Value.okWide Try.prog W .any base t v := hval0
  have hW' := hW
  obtain ⟨p, q, hA0, hV, rfl, hfz, hnd⟩ := hW
  have hA : DataW.TrodAll enc Try.prog W 0 (fun _ => true) true Try.f4.params.toList args.toList ds p := hA0
  rw [Try.params4] at hA hval
  obtain ⟨v0, vs0, d0, ds0, p0, q0, hargs, rfl, rfl, h0, r0⟩ := trodAll_cons hA
  obtain ⟨v1, vs1, d1, ds1, p1, q1, rfl, rfl, rfl, h1, r1⟩ := trodAll_cons r0
  obtain ⟨rfl, rfl, rfl⟩ := trodAll_nil r1
  obtain rfl : args = #[v0, v1] := by cases args; simp_all
  obtain ⟨rfl, rfl⟩ := trodVars_none hV
  have lt0 : ∀ x ∈ p0, x.block < W.heap.size := by obtain ⟨m, hm⟩ := h0; exact DataW.trod_lt m _ _ _ hm
  obtain ⟨a0_0, a0_1, n0_1, c0_1, a0_2, n0_2, c0_2, a0_3, n0_3, c0_3, a0_4, n0_4, c0_4, xs0, ms0, ts0, bs0, rfl, hn0_1, hn0_2, hn0_3, hn0_4, hr0⟩ := State.open_state (hval 0 44 v0 rfl rfl) h0
  obtain ⟨a1, rfl, rfl, rfl, w1⟩ := open_int Try.underlying3 (hval 1 3 v1 rfl rfl) h1
  clear hA0 hval0
  simp only [List.append_nil] at hW'
  refine (walk a0_0 a0_1 n0_1 c0_1 a0_2 n0_2 c0_2 a0_3 n0_3 c0_3 a0_4 n0_4 c0_4 xs0 ms0 ts0 bs0 a1 w1 W hn0_1 hn0_2 hn0_3 hn0_4 hr0).mono fun e W' ⟨he, bel⟩ => ?_
  subst he
  exact ⟨_, rfl, _, _, _, [], _, [], hW', (trodAll_cons_mk (shut_bool Try.underlying4 _) trodAll_mk0), (trodAll_cons_mk (Below.trod laidOut (by kernel_rfl) (of_decide_eq_true (by kernel_rfl)) h0 bel lt0) (trodAll_cons_mk (shut_int Try.underlying3 w1) trodAll_mk0)), rfl, bel.frame _, fun h => by cases h⟩

theorem over : Rows.fnExactDecayAllRow.holds Try.pinned (OpenSpec.ofChange Rows.fnExactDecayAllSpec) :=
  OpenClaim.holds_of_wide 4 Try.f4 rfl rfl rfl rfl rfl rfl rfl ⟨rfl, rfl, rfl, rfl, rfl⟩ rfl rfl rfl rfl rfl (by kernel_rfl) Try.func4 (by kernel_rfl)
    (of_decide_eq_true (by kernel_rfl)) (by unfold Func.isWrapper; first | (rw [if_pos (by decide +kernel)]; kernel_rfl) | (rw [if_neg (by decide +kernel)]; exact ⟨rfl, rfl⟩))
    (fun os started H enc _ => lifted os started H enc)

theorem proved : Rows.FnExactDecayAllSaid := over
#print axioms proved
end Go.Proofs.Ytcboogodphpjbaa.fnExactDecayAll
