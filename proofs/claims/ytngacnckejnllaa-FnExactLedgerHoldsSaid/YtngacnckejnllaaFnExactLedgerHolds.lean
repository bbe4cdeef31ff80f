/- Proved: for all arguments the law FnExactLedgerHolds returns true, that is, the program's LedgerHolds answers as the reference model's LedgerHolds, and writes into no argument.
   Conditions: none besides those that the given row prints. -/
import Derived.Test.YtngacnckejnllaaRows
import Derived.WalkKit
import Derived.ProofKit
import Derived.OpenShut
import Derived.ShutString
import Derived.ChangeOld
import Derived.Below
import Derived.ChangeSame
import Derived.Lib.SmallJoins
import Derived.Test.YtngacnckejnllaaExLedgerHolds
import Derived.Test.YtngacnckejnllaaStLaw
namespace Go.Proofs.Ytngacnckejnllaa.fnExactLedgerHolds
open Go.ChangeShapes Go.WideShapes Go.ChangeAt Go.RowKit Go.Joins
set_option linter.unusedVariables false
set_option maxRecDepth 100000

theorem own : ownKnob Try.prog.godebug = none := by kernel_rfl
theorem laidOut : laidOutB Try.prog = true := by kernel_rfl
theorem cells57 : Try.prog.cellsOf 57 = 4 := by kernel_rfl

set_option maxHeartbeats 16000000 in
theorem walk (a0_0 : Int) (a0_1 : Option Addr) (n0_1 c0_1 : Nat) (a0_2 : Option Addr) (n0_2 c0_2 : Nat) (a0_3 : Option Addr) (n0_3 c0_3 : Nat) (a0_4 : Option Addr) (n0_4 c0_4 : Nat) (xs0 : List Mesh.C3) (ms0 ts0 bs0 : List Int) (a1_0 : Int) (a1_1 : Option Addr) (n1_1 c1_1 : Nat) (a1_2 : Option Addr) (n1_2 c1_2 : Nat) (a1_3 : Option Addr) (n1_3 c1_3 : Nat) (a1_4 : Option Addr) (n1_4 c1_4 : Nat) (xs1 : List Mesh.C3) (ms1 ts1 bs1 : List Int) (a2_0 a2_1 a2_2 a2_3 : Int) (w2_0 : (Lit.int .i64 a2_0).wf = true) (w2_1 : (Lit.int .i64 a2_1).wf = true) (w2_2 : (Lit.int .i64 a2_2).wf = true) (w2_3 : (Lit.int .i64 a2_3).wf = true) (w : World) (hn0_1 : n0_1 ≤ maxLen) (hn0_2 : n0_2 ≤ maxLen) (hn0_3 : n0_3 ≤ maxLen) (hn0_4 : n0_4 ≤ maxLen) (hr0 : State.ArgS w a0_1 a0_2 a0_3 a0_4 n0_1 n0_2 n0_3 n0_4 xs0 ms0 ts0 bs0) (hn1_1 : n1_1 ≤ maxLen) (hn1_2 : n1_2 ≤ maxLen) (hn1_3 : n1_3 ≤ maxLen) (hn1_4 : n1_4 ≤ maxLen) (hr1 : State.ArgS w a1_1 a1_2 a1_3 a1_4 n1_1 n1_2 n1_3 n1_4 xs1 ms1 ts1 bs1) :
    Calls Try.prog 8 #[.agg #[.int .i64 a0_0, .slice a0_1 n0_1 c0_1, .slice a0_2 n0_2 c0_2, .slice a0_3 n0_3 c0_3, .slice a0_4 n0_4 c0_4], .agg #[.int .i64 a1_0, .slice a1_1 n1_1 c1_1, .slice a1_2 n1_2 c1_2, .slice a1_3 n1_3 c1_3, .slice a1_4 n1_4 c1_4], .agg #[.int .i64 a2_0, .int .i64 a2_1, .int .i64 a2_2, .int .i64 a2_3]] w fun e w' => e = .returned (.bool true) ∧ Below w.heap.size w w' := by
  have HR0 := Lib.hid hr0
  have HR1 := Lib.hid hr1
  have HM0_1 := Lib.hid hn0_1; have HM0_2 := Lib.hid hn0_2; have HM0_3 := Lib.hid hn0_3; have HM0_4 := Lib.hid hn0_4
  have HM1_1 := Lib.hid hn1_1; have HM1_2 := Lib.hid hn1_2; have HM1_3 := Lib.hid hn1_3; have HM1_4 := Lib.hid hn1_4
  clear hr0 hr1 hn0_1 hn0_2 hn0_3 hn0_4 hn1_1 hn1_2 hn1_3 hn1_4
  obtain ⟨r0, hl0, hs0⟩ := State.szState_is a0_0 a0_1 a0_2 a0_3 a0_4 n0_1 n0_2 n0_3 n0_4 c0_1 c0_2 c0_3 c0_4 1048576 HM0_1.out HM0_2.out HM0_3.out HM0_4.out (by omega) (by omega)
  have HS0 := Lib.hid hs0; clear hs0
  rcases hl0 with ⟨hk0, hl0⟩ | rfl
  case inr =>
    have he := (((Law.Held.nil w).box 50 #[.int .i64 a0_0, .slice a0_1 n0_1 c0_1, .slice a0_2 n0_2 c0_2, .slice a0_3 n0_3 c0_3, .slice a0_4 n0_4 c0_4]).box 50 #[.int .i64 a1_0, .slice a1_1 n1_1 c1_1, .slice a1_2 n1_2 c1_2, .slice a1_3 n1_3 c1_3, .slice a1_4 n1_4 c1_4]).box 57 #[.int .i64 a2_0, .int .i64 a2_1, .int .i64 a2_2, .int .i64 a2_3]
    try simp only [World.size_alloc] at he
    have HE0 := Lib.hid he; clear he
    go_enter Try.func8, Try.ntmps8
    go_upto_region 2 with fail
    generalize ((w.alloc (.cells #[.int .i64 a0_0, .slice a0_1 n0_1 c0_1, .slice a0_2 n0_2 c0_2, .slice a0_3 n0_3 c0_3, .slice a0_4 n0_4 c0_4] 50)).alloc (.cells #[.int .i64 a1_0, .slice a1_1 n1_1 c1_1, .slice a1_2 n1_2 c1_2, .slice a1_3 n1_3 c1_3, .slice a1_4 n1_4 c1_4] 50)).alloc (.cells #[.int .i64 a2_0, .int .i64 a2_1, .int .i64 a2_2, .int .i64 a2_3] 57) = W0 at *
    obtain ⟨p0, p1, p2, p3, p4⟩ := Law.box5 (HE0.out.nth 0 rfl)
    go_wp2_with (go_at_call 20; ((with_reducible refine (HS0.out _).mono ?_); rintro e w1 ⟨rfl, hg⟩; have HE1 := Lib.hid (HE0.out.on hg); clear hg))
    go_ret
    exact ⟨rfl, Cell.grown_below HE1.out.gr (Nat.le_refl _)⟩
  case inl =>
    obtain ⟨r1, hl1, hs1⟩ := State.szState_is a1_0 a1_1 a1_2 a1_3 a1_4 n1_1 n1_2 n1_3 n1_4 c1_1 c1_2 c1_3 c1_4 r0 HM1_1.out HM1_2.out HM1_3.out HM1_4.out (by omega) (by omega)
    have HS1 := Lib.hid hs1; clear hs1
    rcases hl1 with ⟨hk1, hl1⟩ | rfl
    case inr =>
      have he := (((Law.Held.nil w).box 50 #[.int .i64 a0_0, .slice a0_1 n0_1 c0_1, .slice a0_2 n0_2 c0_2, .slice a0_3 n0_3 c0_3, .slice a0_4 n0_4 c0_4]).box 50 #[.int .i64 a1_0, .slice a1_1 n1_1 c1_1, .slice a1_2 n1_2 c1_2, .slice a1_3 n1_3 c1_3, .slice a1_4 n1_4 c1_4]).box 57 #[.int .i64 a2_0, .int .i64 a2_1, .int .i64 a2_2, .int .i64 a2_3]
      try simp only [World.size_alloc] at he
      have HE0 := Lib.hid he; clear he
      go_enter Try.func8, Try.ntmps8
      go_upto_region 2 with fail
      generalize ((w.alloc (.cells #[.int .i64 a0_0, .slice a0_1 n0_1 c0_1, .slice a0_2 n0_2 c0_2, .slice a0_3 n0_3 c0_3, .slice a0_4 n0_4 c0_4] 50)).alloc (.cells #[.int .i64 a1_0, .slice a1_1 n1_1 c1_1, .slice a1_2 n1_2 c1_2, .slice a1_3 n1_3 c1_3, .slice a1_4 n1_4 c1_4] 50)).alloc (.cells #[.int .i64 a2_0, .int .i64 a2_1, .int .i64 a2_2, .int .i64 a2_3] 57) = W0 at *
      obtain ⟨p0, p1, p2, p3, p4⟩ := Law.box5 (HE0.out.nth 0 rfl)
      go_upto_region 5 with (go_at_call 20; ((with_reducible refine (HS0.out _).mono ?_); rintro e w1 ⟨rfl, hg⟩; have HE1 := Lib.hid (HE0.out.on hg); clear hg))
      clear p0 p1 p2 p3 p4 HE0
      obtain ⟨p0, p1, p2, p3, p4⟩ := Law.box5 (HE1.out.nth 1 rfl)
      go_wp2_with (go_at_call 20; ((with_reducible refine (HS1.out _).mono ?_); rintro e w2 ⟨rfl, hg⟩; have HE2 := Lib.hid (HE1.out.on hg); clear hg))
      go_ret
      exact ⟨rfl, Cell.grown_below HE2.out.gr (Nat.le_refl _)⟩
    case inl =>
      have Hn0_1 : Hid (n0_1 ≤ 1048576) := Lib.hid (by omega)
      have Hn0_2 : Hid (n0_2 ≤ 1048576) := Lib.hid (by omega)
      have Hn0_3 : Hid (n0_3 ≤ 1048576) := Lib.hid (by omega)
      have Hn0_4 : Hid (n0_4 ≤ 1048576) := Lib.hid (by omega)
      have Hn1_1 : Hid (n1_1 ≤ 1048576) := Lib.hid (by omega)
      have Hn1_2 : Hid (n1_2 ≤ 1048576) := Lib.hid (by omega)
      have Hn1_3 : Hid (n1_3 ≤ 1048576) := Lib.hid (by omega)
      have Hn1_4 : Hid (n1_4 ≤ 1048576) := Lib.hid (by omega)
      obtain ⟨y0, hS, hI⟩ := State.both_LedgerHolds a0_0 n0_1 n0_2 n0_3 n0_4 xs0 ms0 ts0 bs0 HR0.out.l.len HR0.out.m.len HR0.out.t.len HR0.out.b.len Hn0_1.out Hn0_2.out Hn0_3.out Hn0_4.out a1_0 n1_1 n1_2 n1_3 n1_4 xs1 ms1 ts1 bs1 HR1.out.l.len HR1.out.m.len HR1.out.t.len HR1.out.b.len Hn1_1.out Hn1_2.out Hn1_3.out Hn1_4.out a2_0 w2_0 a2_1 w2_1 a2_2 w2_2 a2_3 w2_3
      have in0_1 : (n0_1 : Int) ≤ 1048576 := by have := Hn0_1.out; omega
      have in0_2 : (n0_2 : Int) ≤ 1048576 := by have := Hn0_2.out; omega
      have in0_3 : (n0_3 : Int) ≤ 1048576 := by have := Hn0_3.out; omega
      have in0_4 : (n0_4 : Int) ≤ 1048576 := by have := Hn0_4.out; omega
      have in1_1 : (n1_1 : Int) ≤ 1048576 := by have := Hn1_1.out; omega
      have in1_2 : (n1_2 : Int) ≤ 1048576 := by have := Hn1_2.out; omega
      have in1_3 : (n1_3 : Int) ≤ 1048576 := by have := Hn1_3.out; omega
      have in1_4 : (n1_4 : Int) ≤ 1048576 := by have := Hn1_4.out; omega
      have HSB := Lib.hid hS; have HIB := Lib.hid hI; clear hS hI
      clear hl0 hl1
      have he := (((Law.Held.nil w).box 50 #[.int .i64 a0_0, .slice a0_1 n0_1 c0_1, .slice a0_2 n0_2 c0_2, .slice a0_3 n0_3 c0_3, .slice a0_4 n0_4 c0_4]).box 50 #[.int .i64 a1_0, .slice a1_1 n1_1 c1_1, .slice a1_2 n1_2 c1_2, .slice a1_3 n1_3 c1_3, .slice a1_4 n1_4 c1_4]).box 57 #[.int .i64 a2_0, .int .i64 a2_1, .int .i64 a2_2, .int .i64 a2_3]
      try simp only [World.size_alloc] at he
      have HE0 := Lib.hid he; clear he
      go_enter Try.func8, Try.ntmps8
      go_upto_region 2 with fail
      generalize ((w.alloc (.cells #[.int .i64 a0_0, .slice a0_1 n0_1 c0_1, .slice a0_2 n0_2 c0_2, .slice a0_3 n0_3 c0_3, .slice a0_4 n0_4 c0_4] 50)).alloc (.cells #[.int .i64 a1_0, .slice a1_1 n1_1 c1_1, .slice a1_2 n1_2 c1_2, .slice a1_3 n1_3 c1_3, .slice a1_4 n1_4 c1_4] 50)).alloc (.cells #[.int .i64 a2_0, .int .i64 a2_1, .int .i64 a2_2, .int .i64 a2_3] 57) = W0 at *
      obtain ⟨K, hKK⟩ : ∃ K, K = w.heap.size := ⟨_, rfl⟩
      rw [← hKK] at HE0 ⊢
      have HKK := Lib.hid hKK; clear hKK
      obtain ⟨p0, p1, p2, p3, p4⟩ := Law.box5 (HE0.out.nth 0 rfl)
      go_upto_region 5 with (go_at_call 20; ((with_reducible refine (HS0.out _).mono ?_); rintro e w1 ⟨rfl, hg⟩; have HE1 := Lib.hid (HE0.out.on hg); clear hg))
      clear p0 p1 p2 p3 p4 HE0 HS0
      obtain ⟨p0, p1, p2, p3, p4⟩ := Law.box5 (HE1.out.nth 1 rfl)
      go_upto_region 8 with (go_at_call 20; ((with_reducible refine (HS1.out _).mono ?_); rintro e w2 ⟨rfl, hg⟩; have HE2 := Lib.hid (HE1.out.on hg); clear hg))
      clear p0 p1 p2 p3 p4 HE1 HS1
      rename_i KK hKK
      refine Draws.wp_region_tabG (w := w) rfl (by kernel_rfl) (by kernel_rfl) State.ExLedgerHolds8Dep (by kernel_rfl) (Law.gsOf HE2.out) [1, 3] (fun _ => Law.emptyG) (State.ExLedgerHolds8 a0_0 a0_1 n0_1 c0_1 a0_2 n0_2 c0_2 a0_3 n0_3 c0_3 a0_4 n0_4 c0_4 xs0 ms0 ts0 bs0 a1_0 a1_1 n1_1 c1_1 a1_2 n1_2 c1_2 a1_3 n1_3 c1_3 a1_4 n1_4 c1_4 xs1 ms1 ts1 bs1 a2_0 a2_1 a2_2 a2_3 y0) ?start ?step ?last
      case start => exact (HE2.out.on (by first | exact Mesh.gr_drew (Cell.grown_refl _) | exact Mesh.gr_drew (Cell.g_drewN (Cell.grown_refl _) _))).addE.addE
      case step =>
        clear hKK
        intro L a W val G i o hI ho hL hd
        have hi : i < 8 := by have := (Array.getElem?_eq_some_iff.1 ho).1; simpa using this
        have hloc := State.ExLedgerHolds8_local a0_0 a0_1 n0_1 c0_1 a0_2 n0_2 c0_2 a0_3 n0_3 c0_3 a0_4 n0_4 c0_4 xs0 ms0 ts0 bs0 a1_0 a1_1 n1_1 c1_1 a1_2 n1_2 c1_2 a1_3 n1_3 c1_3 a1_4 n1_4 c1_4 xs1 ms1 ts1 bs1 a2_0 a2_1 a2_2 a2_3 y0
        obtain ⟨z0_0, z0_1, z0_2, z0_3, z0_4⟩ := Law.box5 (hI.hd.nth 0 rfl)
        obtain ⟨z1_0, z1_1, z1_2, z1_3, z1_4⟩ := Law.box5 (hI.hd.nth 1 rfl)
        obtain ⟨z2_0, z2_1, z2_2, z2_3⟩ := Law.cells4 (hI.hd.nth 2 rfl)
        rcases (show i = 0 ∨ i = 1 ∨ i = 2 ∨ i = 3 ∨ i = 4 ∨ i = 5 ∨ i = 6 ∨ i = 7 by omega) with rfl | rfl | rfl | rfl | rfl | rfl | rfl | rfl
        · obtain rfl := Option.some.inj ho
          have p3 := (hI.old 3 (by kernel_rfl) rfl).get
          refine Draws.wpOp_of (by rfl) rfl (State.wp_value (v := .agg #[.int .i64 a0_0, .slice a0_1 n0_1 c0_1, .slice a0_2 n0_2 c0_2, .slice a0_3 n0_3 c0_3, .slice a0_4 n0_4 c0_4]) (w' := W) ?_ (hI.same hloc hL _ _ (Cell.grown_refl _) (Draws.upd_at _ _ _)))
          simp only [execOp]
          go_simp
        · obtain rfl := Option.some.inj ho
          have l0 := hd 0 (by simp [State.ExLedgerHolds8Dep])
          have e0 := (hI.at_ 0 22 rfl l0).get
          rw [show val 0 = _ from hI.gd 0 l0] at e0
          refine Draws.wpOp_of (by rfl) rfl ?_
          unfold Oper.wp
          simp only [execOp]
          go_simp
          refine Calls.mono (P := Try.prog) (State.toState_is _ _ _ _ _ _ _ _ _ _ _ _ _ xs0 ms0 ts0 bs0 W (HR0.out.on hI.hd.gr) Hn0_1.out Hn0_2.out Hn0_3.out Hn0_4.out) ?_
          rintro e w1 ⟨x1_1, x1_2, x1_3, x1_4, rfl, ho, hg⟩
          exact hI.made hloc hL _ (.agg #[.int .i64 a0_0, .slice (some ⟨x1_1, 0, none⟩) n0_1 n0_1, .slice (some ⟨x1_2, 0, none⟩) n0_2 n0_2, .slice (some ⟨x1_3, 0, none⟩) n0_3 n0_3, .slice (some ⟨x1_4, 0, none⟩) n0_4 n0_4]) (State.stateG (.slice (some ⟨x1_1, 0, none⟩) n0_1 n0_1) (.slice (some ⟨x1_2, 0, none⟩) n0_2 n0_2) (.slice (some ⟨x1_3, 0, none⟩) n0_3 n0_3) (.slice (some ⟨x1_4, 0, none⟩) n0_4 n0_4) n0_1 n0_2 n0_3 n0_4 xs0 ms0 ts0 bs0) (hI.hd.fill 3 (g' := State.stateG (.slice (some ⟨x1_1, 0, none⟩) n0_1 n0_1) (.slice (some ⟨x1_2, 0, none⟩) n0_2 n0_2) (.slice (some ⟨x1_3, 0, none⟩) n0_3 n0_3) (.slice (some ⟨x1_4, 0, none⟩) n0_4 n0_4) n0_1 n0_2 n0_3 n0_4 xs0 ms0 ts0 bs0) (congrArg some (hI.no 1 hL)) hg (ho.from (Nat.zero_le _)) ho.blocks) ⟨x1_1, x1_2, x1_3, x1_4, Draws.upd_at _ _ _, Draws.upd_at _ _ _⟩
        · obtain rfl := Option.some.inj ho
          have p4 := (hI.old 4 (by kernel_rfl) rfl).get
          refine Draws.wpOp_of (by rfl) rfl (State.wp_value (v := .agg #[.int .i64 a1_0, .slice a1_1 n1_1 c1_1, .slice a1_2 n1_2 c1_2, .slice a1_3 n1_3 c1_3, .slice a1_4 n1_4 c1_4]) (w' := W) ?_ (hI.same hloc hL _ _ (Cell.grown_refl _) (Draws.upd_at _ _ _)))
          simp only [execOp]
          go_simp
        · obtain rfl := Option.some.inj ho
          have l2 := hd 2 (by simp [State.ExLedgerHolds8Dep])
          have e2 := (hI.at_ 2 24 rfl l2).get
          rw [show val 2 = _ from hI.gd 2 l2] at e2
          refine Draws.wpOp_of (by rfl) rfl ?_
          unfold Oper.wp
          simp only [execOp]
          go_simp
          refine Calls.mono (P := Try.prog) (State.toState_is _ _ _ _ _ _ _ _ _ _ _ _ _ xs1 ms1 ts1 bs1 W (HR1.out.on hI.hd.gr) Hn1_1.out Hn1_2.out Hn1_3.out Hn1_4.out) ?_
          rintro e w1 ⟨x3_1, x3_2, x3_3, x3_4, rfl, ho, hg⟩
          exact hI.made hloc hL _ (.agg #[.int .i64 a1_0, .slice (some ⟨x3_1, 0, none⟩) n1_1 n1_1, .slice (some ⟨x3_2, 0, none⟩) n1_2 n1_2, .slice (some ⟨x3_3, 0, none⟩) n1_3 n1_3, .slice (some ⟨x3_4, 0, none⟩) n1_4 n1_4]) (State.stateG (.slice (some ⟨x3_1, 0, none⟩) n1_1 n1_1) (.slice (some ⟨x3_2, 0, none⟩) n1_2 n1_2) (.slice (some ⟨x3_3, 0, none⟩) n1_3 n1_3) (.slice (some ⟨x3_4, 0, none⟩) n1_4 n1_4) n1_1 n1_2 n1_3 n1_4 xs1 ms1 ts1 bs1) (hI.hd.fill 4 (g' := State.stateG (.slice (some ⟨x3_1, 0, none⟩) n1_1 n1_1) (.slice (some ⟨x3_2, 0, none⟩) n1_2 n1_2) (.slice (some ⟨x3_3, 0, none⟩) n1_3 n1_3) (.slice (some ⟨x3_4, 0, none⟩) n1_4 n1_4) n1_1 n1_2 n1_3 n1_4 xs1 ms1 ts1 bs1) (congrArg some (hI.no 3 hL)) hg (ho.from (Nat.zero_le _)) ho.blocks) ⟨x3_1, x3_2, x3_3, x3_4, Draws.upd_at _ _ _, Draws.upd_at _ _ _⟩
        · obtain rfl := Option.some.inj ho
          have p5 := (hI.old 5 (by kernel_rfl) rfl).get
          refine Draws.wpOp_of (by rfl) rfl (State.wp_value (v := .agg #[.int .i64 a2_0, .int .i64 a2_1, .int .i64 a2_2, .int .i64 a2_3]) (w' := W) ?_ (hI.same hloc hL _ _ (Cell.grown_refl _) (Draws.upd_at _ _ _)))
          simp only [execOp]
          go_simp
        · obtain rfl := Option.some.inj ho
          have l4 := hd 4 (by simp [State.ExLedgerHolds8Dep])
          have e4 := (hI.at_ 4 26 rfl l4).get
          rw [show val 4 = _ from hI.gd 4 l4] at e4
          refine Draws.wpOp_of (by rfl) rfl ?_
          unfold Oper.wp
          simp only [execOp]
          go_simp
          refine Calls.mono (P := Try.prog) (State.toLedger_is a2_0 a2_1 a2_2 a2_3 W) ?_
          rintro e w1 ⟨rfl, hg⟩
          exact hI.same hloc hL _ (.agg #[.int .i64 a2_0, .int .i64 a2_1, .int .i64 a2_2, .int .i64 a2_3]) hg (Draws.upd_at _ _ _)
        · obtain rfl := Option.some.inj ho
          have l1 := hd 1 (by simp [State.ExLedgerHolds8Dep])
          have e1 := (hI.at_ 1 23 rfl l1).get
          have l3 := hd 3 (by simp [State.ExLedgerHolds8Dep])
          have e3 := (hI.at_ 3 25 rfl l3).get
          have l5 := hd 5 (by simp [State.ExLedgerHolds8Dep])
          have e5 := (hI.at_ 5 27 rfl l5).get
          obtain ⟨x1_1, x1_2, x1_3, x1_4, v1, -⟩ := hI.gd 1 l1
          rw [v1] at e1
          obtain ⟨x3_1, x3_2, x3_3, x3_4, v3, -⟩ := hI.gd 3 l3
          rw [v3] at e3
          rw [show val 5 = _ from hI.gd 5 l5] at e5
          refine Draws.wpOp_of (by rfl) rfl ?_
          unfold Oper.wp
          simp only [execOp]
          go_simp
          obtain ⟨x1_1', x1_2', x1_3', x1_4', v1', r1⟩ := hI.gd 1 l1
          rw [v1] at v1'
          cases v1'
          obtain ⟨x3_1', x3_2', x3_3', x3_4', v3', r3⟩ := hI.gd 3 l3
          rw [v3] at v3'
          cases v3'
          refine Calls.mono (P := Try.prog) (HSB.out W _ _ _ _ _ _ _ _ _ _ _ _ _ _ _ _ (State.OwnS.reads (hI.hd.nth 3 (congrArg some r1))) (State.OwnS.reads (hI.hd.nth 4 (congrArg some r3)))) ?_
          rintro e w1 ⟨rfl, hg⟩
          exact hI.same hloc hL _ (.bool y0) hg (Draws.upd_at _ _ _)
        · obtain rfl := Option.some.inj ho
          have l6 := hd 6 (by simp [State.ExLedgerHolds8Dep])
          have e6 := (hI.at_ 6 28 rfl l6).get
          rw [show val 6 = _ from hI.gd 6 l6] at e6
          refine Draws.wpOp_of (by rfl) rfl (State.wp_value (v := .bool y0) (w' := W) ?_ (hI.same hloc hL _ _ (Cell.grown_refl _) (Draws.upd_at _ _ _)))
          simp only [execOp]
          go_simp
      case last =>
        intro L a W val G hI hall
        have al : ∀ i, i < 8 → L i = true := fun i hi => hall i (by simpa using hi)
        obtain ⟨x1_1, x1_2, x1_3, x1_4, v1, r1⟩ := hI.gd 1 (al 1 (by decide))
        obtain ⟨x3_1, x3_2, x3_3, x3_4, v3, r3⟩ := hI.gd 3 (al 3 (by decide))
        have v7 : val 7 = .bool y0 := hI.gd 7 (al 7 (by decide))
        have hH := hI.hd
        dsimp only [Law.gsOf] at hH
        simp only [List.map_cons, List.map_nil] at hH
        rw [r1, r3] at hH
        have HE3 := Lib.hid hH
        have ha := hI.frame (by kernel_rfl) hall
        refine hKK _ _ ?_
        clear hKK hI hH hall al r1 r3
        simp [Draws.frameOf, Draws.slotOf, Act.put, List.range, List.range.loop] at ha
        subst ha
        rw [v7]
        go_upto_region 9 with fail
        obtain ⟨b0_0, b0_1, b0_2, b0_3, b0_4⟩ := Law.box5 (HE3.out.nth 0 rfl)
        go_upto_region 10 with (go_at_call 22; ((with_reducible refine (State.toState_is _ _ _ _ _ _ _ _ _ _ _ _ _ xs0 ms0 ts0 bs0 _ (HR0.out.on HE3.out.gr) Hn0_1.out Hn0_2.out Hn0_3.out Hn0_4.out).mono ?_); rintro e u2 ⟨g2_1, g2_2, g2_3, g2_4, rfl, ho, hg⟩; have HE4 := Lib.hid (State.Held.state HE3.out hg ho); clear ho hg))
        clear b0_0 b0_1 b0_2 b0_3 b0_4 HE3
        have HE5 := Lib.hid (HE4.out.box 29 #[.int .i64 a0_0, .slice (some ⟨g2_1, 0, none⟩) n0_1 n0_1, .slice (some ⟨g2_2, 0, none⟩) n0_2 n0_2, .slice (some ⟨g2_3, 0, none⟩) n0_3 n0_3, .slice (some ⟨g2_4, 0, none⟩) n0_4 n0_4]); clear HE4
        obtain ⟨B3, hB3⟩ : ∃ B, B = u2.heap.size := ⟨_, rfl⟩
        rw [← hB3] at HE5 ⊢
        clear hB3
        generalize u2.alloc (.cells #[.int .i64 a0_0, .slice (some ⟨g2_1, 0, none⟩) n0_1 n0_1, .slice (some ⟨g2_2, 0, none⟩) n0_2 n0_2, .slice (some ⟨g2_3, 0, none⟩) n0_3 n0_3, .slice (some ⟨g2_4, 0, none⟩) n0_4 n0_4] 29) = V3 at *
        obtain ⟨b1_0, b1_1, b1_2, b1_3, b1_4⟩ := Law.box5 (HE5.out.nth 1 rfl)
        go_upto_region 11 with (go_at_call 22; ((with_reducible refine (State.toState_is _ _ _ _ _ _ _ _ _ _ _ _ _ xs1 ms1 ts1 bs1 _ (HR1.out.on HE5.out.gr) Hn1_1.out Hn1_2.out Hn1_3.out Hn1_4.out).mono ?_); rintro e u4 ⟨g4_1, g4_2, g4_3, g4_4, rfl, ho, hg⟩; have HE6 := Lib.hid (State.Held.state HE5.out hg ho); clear ho hg))
        clear b1_0 b1_1 b1_2 b1_3 b1_4 HE5
        have HE7 := Lib.hid (HE6.out.box 29 #[.int .i64 a1_0, .slice (some ⟨g4_1, 0, none⟩) n1_1 n1_1, .slice (some ⟨g4_2, 0, none⟩) n1_2 n1_2, .slice (some ⟨g4_3, 0, none⟩) n1_3 n1_3, .slice (some ⟨g4_4, 0, none⟩) n1_4 n1_4]); clear HE6
        obtain ⟨B5, hB5⟩ : ∃ B, B = u4.heap.size := ⟨_, rfl⟩
        rw [← hB5] at HE7 ⊢
        clear hB5
        generalize u4.alloc (.cells #[.int .i64 a1_0, .slice (some ⟨g4_1, 0, none⟩) n1_1 n1_1, .slice (some ⟨g4_2, 0, none⟩) n1_2 n1_2, .slice (some ⟨g4_3, 0, none⟩) n1_3 n1_3, .slice (some ⟨g4_4, 0, none⟩) n1_4 n1_4] 29) = V5 at *
        rename_i KK hKK
        refine Draws.wp_region_tabG (w := w) rfl (by kernel_rfl) (by kernel_rfl) State.ExLedgerHolds11Dep (by kernel_rfl) (Law.gsOf HE7.out) [] (fun _ => Law.emptyG) (State.ExLedgerHolds11 a0_0 n0_1 n0_2 n0_3 n0_4 a1_0 n1_1 n1_2 n1_3 n1_4 a2_0 a2_1 a2_2 a2_3 y0 g2_1 g2_2 g2_3 g2_4 g4_1 g4_2 g4_3 g4_4) ?start ?step ?last
        case start => exact (HE7.out.on (by first | exact Mesh.gr_drew (Cell.grown_refl _) | exact Mesh.gr_drew (Cell.g_drewN (Cell.grown_refl _) _)))
        case step =>
          clear hKK
          intro L a W val G i o hI ho hL hd
          have hi : i < 6 := by have := (Array.getElem?_eq_some_iff.1 ho).1; simpa using this
          have hloc := State.ExLedgerHolds11_local a0_0 n0_1 n0_2 n0_3 n0_4 a1_0 n1_1 n1_2 n1_3 n1_4 a2_0 a2_1 a2_2 a2_3 y0 g2_1 g2_2 g2_3 g2_4 g4_1 g4_2 g4_3 g4_4
          obtain ⟨z2_0, z2_1, z2_2, z2_3⟩ := Law.cells4 (hI.hd.nth 2 rfl)
          obtain ⟨z6_0, z6_1, z6_2, z6_3, z6_4⟩ := Law.box5 (hI.hd.nth 6 rfl)
          obtain ⟨z8_0, z8_1, z8_2, z8_3, z8_4⟩ := Law.box5 (hI.hd.nth 8 rfl)
          rcases (show i = 0 ∨ i = 1 ∨ i = 2 ∨ i = 3 ∨ i = 4 ∨ i = 5 by omega) with rfl | rfl | rfl | rfl | rfl | rfl
          · obtain rfl := Option.some.inj ho
            have p9 := (hI.old 9 (by kernel_rfl) rfl).get
            refine Draws.wpOp_of (by rfl) rfl (State.wp_value (v := .agg #[.int .i64 a0_0, .slice (some ⟨g2_1, 0, none⟩) n0_1 n0_1, .slice (some ⟨g2_2, 0, none⟩) n0_2 n0_2, .slice (some ⟨g2_3, 0, none⟩) n0_3 n0_3, .slice (some ⟨g2_4, 0, none⟩) n0_4 n0_4]) (w' := W) ?_ (hI.same hloc hL _ _ (Cell.grown_refl _) (Draws.upd_at _ _ _)))
            simp only [execOp]
            go_simp
          · obtain rfl := Option.some.inj ho
            have p10 := (hI.old 10 (by kernel_rfl) rfl).get
            refine Draws.wpOp_of (by rfl) rfl (State.wp_value (v := .agg #[.int .i64 a1_0, .slice (some ⟨g4_1, 0, none⟩) n1_1 n1_1, .slice (some ⟨g4_2, 0, none⟩) n1_2 n1_2, .slice (some ⟨g4_3, 0, none⟩) n1_3 n1_3, .slice (some ⟨g4_4, 0, none⟩) n1_4 n1_4]) (w' := W) ?_ (hI.same hloc hL _ _ (Cell.grown_refl _) (Draws.upd_at _ _ _)))
            simp only [execOp]
            go_simp
          · obtain rfl := Option.some.inj ho
            have p5 := (hI.old 5 (by kernel_rfl) rfl).get
            refine Draws.wpOp_of (by rfl) rfl (State.wp_value (v := .agg #[.int .i64 a2_0, .int .i64 a2_1, .int .i64 a2_2, .int .i64 a2_3]) (w' := W) ?_ (hI.same hloc hL _ _ (Cell.grown_refl _) (Draws.upd_at _ _ _)))
            simp only [execOp]
            go_simp
          · obtain rfl := Option.some.inj ho
            have l2 := hd 2 (by simp [State.ExLedgerHolds11Dep])
            have e2 := (hI.at_ 2 35 rfl l2).get
            rw [show val 2 = _ from hI.gd 2 l2] at e2
            refine Draws.wpOp_of (by rfl) rfl ?_
            unfold Oper.wp
            simp only [execOp]
            go_simp
            refine Calls.mono (P := Try.prog) (State.toLedger_is a2_0 a2_1 a2_2 a2_3 W) ?_
            rintro e w1 ⟨rfl, hg⟩
            exact hI.same hloc hL _ (.agg #[.int .i64 a2_0, .int .i64 a2_1, .int .i64 a2_2, .int .i64 a2_3]) hg (Draws.upd_at _ _ _)
          · obtain rfl := Option.some.inj ho
            have l0 := hd 0 (by simp [State.ExLedgerHolds11Dep])
            have e0 := (hI.at_ 0 33 rfl l0).get
            have l1 := hd 1 (by simp [State.ExLedgerHolds11Dep])
            have e1 := (hI.at_ 1 34 rfl l1).get
            have l3 := hd 3 (by simp [State.ExLedgerHolds11Dep])
            have e3 := (hI.at_ 3 36 rfl l3).get
            rw [show val 0 = _ from hI.gd 0 l0] at e0
            rw [show val 1 = _ from hI.gd 1 l1] at e1
            rw [show val 3 = _ from hI.gd 3 l3] at e3
            refine Draws.wpOp_of (by rfl) rfl ?_
            unfold Oper.wp
            simp only [execOp]
            go_simp
            refine Calls.mono (P := Try.prog) (HIB.out W _ _ _ _ _ _ _ _ _ _ _ _ _ _ _ _ (State.OwnS.reads (hI.hd.nth 5 rfl)) (State.OwnS.reads (hI.hd.nth 7 rfl))) ?_
            rintro e w1 ⟨rfl, hg⟩
            exact hI.same hloc hL _ (.bool y0) hg (Draws.upd_at _ _ _)
          · obtain rfl := Option.some.inj ho
            have l4 := hd 4 (by simp [State.ExLedgerHolds11Dep])
            have e4 := (hI.at_ 4 37 rfl l4).get
            rw [show val 4 = _ from hI.gd 4 l4] at e4
            refine Draws.wpOp_of (by rfl) rfl (State.wp_value (v := .bool y0) (w' := W) ?_ (hI.same hloc hL _ _ (Cell.grown_refl _) (Draws.upd_at _ _ _)))
            simp only [execOp]
            go_simp
        case last =>
          intro L a W val G hI hall
          have al : ∀ i, i < 6 → L i = true := fun i hi => hall i (by simpa using hi)
          have v5 : val 5 = .bool y0 := hI.gd 5 (al 5 (by decide))
          have hH := hI.hd
          dsimp only [Law.gsOf] at hH
          simp only [List.map_nil] at hH
          have HE8 := Lib.hid hH
          have ha := hI.frame (by kernel_rfl) hall
          refine hKK _ _ ?_
          clear hKK hI hH hall al 
          simp [Draws.frameOf, Draws.slotOf, Act.put, List.range, List.range.loop] at ha
          subst ha
          rw [v5]
          go_upto_region 14 with fail
          go_cut [45] from 41 to 44 (fun v wx => v = .bool false ∧ Hid (Law.Held w wx (Law.gsOf HE8.out)))
          case first =>
            obtain ⟨b0_0, b0_1, b0_2, b0_3, b0_4⟩ := Law.box5 (HE8.out.nth 0 rfl)
            obtain ⟨x0, x1, x2, x3, x4⟩ := Law.box5 (HE8.out.nth 6 rfl)
            go_region_with (first | (go_at_call 22; ((with_reducible refine (State.toState_is _ _ _ _ _ _ _ _ _ _ _ _ _ xs0 ms0 ts0 bs0 _ (HR0.out.on (Mesh.gr_drew HE8.out.gr)) Hn0_1.out Hn0_2.out Hn0_3.out Hn0_4.out).mono ?_); rintro e u7 ⟨z1, z2, z3, z4, rfl, ho, hg⟩; have hE := HE8.out.on (Cell.grown_trans (Mesh.gr_drew (Cell.grown_refl _)) hg); obtain ⟨s0, s1, s2, s3, s4⟩ := Law.box5 (hE.nth 6 rfl); have HRR := Lib.hid (State.OwnS.reads ho); have HEA := Lib.hid hE; clear ho hg hE)) | (go_at_call 23; ((with_reducible refine (State.eqState_is _ _ _ _ _ _ _ _ _ _ _ _ _ _ _ _ _ _ _ _ _ xs0 ms0 ts0 bs0 _ (State.OwnS.reads (HEA.out.nth 5 rfl)) HRR.out Hn0_1.out Hn0_2.out Hn0_3.out Hn0_4.out).mono ?_); rintro e u8 ⟨rfl, hg⟩; have HEB := Lib.hid (HEA.out.on hg); clear hg)))
            all_goals
              go_wp2_with fail
              go_meet
              exact ⟨rfl, HEB⟩
          case rest =>
            obtain ⟨rfl, HE9⟩ := hcut
            dsimp only [Law.gsOf] at HE9
            clear HE8
            go_upto_region 16 with fail
            go_cut [50] from 46 to 49 (fun v wx => v = .bool false ∧ Hid (Law.Held w wx (Law.gsOf HE9.out)))
            case first =>
              obtain ⟨b1_0, b1_1, b1_2, b1_3, b1_4⟩ := Law.box5 (HE9.out.nth 1 rfl)
              obtain ⟨x0, x1, x2, x3, x4⟩ := Law.box5 (HE9.out.nth 8 rfl)
              go_region_with (first | (go_at_call 22; ((with_reducible refine (State.toState_is _ _ _ _ _ _ _ _ _ _ _ _ _ xs1 ms1 ts1 bs1 _ (HR1.out.on (Mesh.gr_drew HE9.out.gr)) Hn1_1.out Hn1_2.out Hn1_3.out Hn1_4.out).mono ?_); rintro e u9 ⟨z1, z2, z3, z4, rfl, ho, hg⟩; have hE := HE9.out.on (Cell.grown_trans (Mesh.gr_drew (Cell.grown_refl _)) hg); obtain ⟨s0, s1, s2, s3, s4⟩ := Law.box5 (hE.nth 8 rfl); have HRR := Lib.hid (State.OwnS.reads ho); have HEA := Lib.hid hE; clear ho hg hE)) | (go_at_call 23; ((with_reducible refine (State.eqState_is _ _ _ _ _ _ _ _ _ _ _ _ _ _ _ _ _ _ _ _ _ xs1 ms1 ts1 bs1 _ (State.OwnS.reads (HEA.out.nth 7 rfl)) HRR.out Hn1_1.out Hn1_2.out Hn1_3.out Hn1_4.out).mono ?_); rintro e u10 ⟨rfl, hg⟩; have HEB := Lib.hid (HEA.out.on hg); clear hg)))
              all_goals
                go_wp2_with fail
                go_meet
                exact ⟨rfl, HEB⟩
            case rest =>
              obtain ⟨rfl, HE10⟩ := hcut
              dsimp only [Law.gsOf] at HE10
              clear HE9
              go_wp2_with fail
              go_ret
              exact ⟨rfl, Cell.grown_below HE10.out.gr (Nat.le_refl _)⟩

set_option maxRecDepth 100000 in
theorem lifted (os : Os) (started : os.Started) (H : Type) (enc : TypeId × Value → H) :
    ReturnsInHanded {} Try.checked os 8 .any (Rows.fnExactLedgerHoldsSpec.pre6 enc Try.prog Try.f8 Rows.fnExactLedgerHoldsRow.domain false) (Rows.fnExactLedgerHoldsSpec.post enc Try.prog Try.f8 false true false false) := by
  refine returnsInHanded_of_change (C := Try.checked) own started (by kernel_rfl) Try.func8
    (ChangeSpec.witness6 (enc := enc) (C := Try.checked) false ⟨#[], #[.agg #[.int .i64 0, .slice none 0 0, .slice none 0 0, .slice none 0 0, .slice none 0 0], .agg #[.int .i64 0, .slice none 0 0, .slice none 0 0, .slice none 0 0, .slice none 0 0], .agg #[.int .i64 0, .int .i64 0, .int .i64 0, .int .i64 0]], []⟩ 8 (by kernel_rfl) (by kernel_rfl) (by kernel_rfl) (by kernel_rfl)) ?_
  intro W base args ds gs before hval0 hW hcnd _
  have hval : ∀ (j : Nat) t v, Try.f8.params[j]? = some t → args[j]? = some v → Value.okWide Try.prog W .any base t v := hval0
  have hW' := hW
  obtain ⟨p, q, hA0, hV, rfl, hfz, hnd⟩ := hW
  have hA : DataW.TrodAll enc Try.prog W 0 (fun _ => true) true Try.f8.params.toList args.toList ds p := hA0
  rw [Try.params8] at hA hval
  obtain ⟨v0, vs0, d0, ds0, p0, q0, hargs, rfl, rfl, h0, r0⟩ := trodAll_cons hA
  obtain ⟨v1, vs1, d1, ds1, p1, q1, rfl, rfl, rfl, h1, r1⟩ := trodAll_cons r0
  obtain ⟨v2, vs2, d2, ds2, p2, q2, rfl, rfl, rfl, h2, r2⟩ := trodAll_cons r1
  obtain ⟨rfl, rfl, rfl⟩ := trodAll_nil r2
  obtain rfl : args = #[v0, v1, v2] := by cases args; simp_all
  obtain ⟨rfl, rfl⟩ := trodVars_none hV
  have lt0 : ∀ x ∈ p0, x.block < W.heap.size := by obtain ⟨m, hm⟩ := h0; exact DataW.trod_lt m _ _ _ hm
  obtain ⟨a0_0, a0_1, n0_1, c0_1, a0_2, n0_2, c0_2, a0_3, n0_3, c0_3, a0_4, n0_4, c0_4, xs0, ms0, ts0, bs0, rfl, hn0_1, hn0_2, hn0_3, hn0_4, hr0⟩ := State.open_state (hval 0 50 v0 rfl rfl) h0
  have lt1 : ∀ x ∈ p1, x.block < W.heap.size := by obtain ⟨m, hm⟩ := h1; exact DataW.trod_lt m _ _ _ hm
  obtain ⟨a1_0, a1_1, n1_1, c1_1, a1_2, n1_2, c1_2, a1_3, n1_3, c1_3, a1_4, n1_4, c1_4, xs1, ms1, ts1, bs1, rfl, hn1_1, hn1_2, hn1_3, hn1_4, hr1⟩ := State.open_state (hval 1 50 v1 rfl rfl) h1
  obtain ⟨c2_0, c2_1, c2_2, c2_3, y2_0, y2_1, y2_2, y2_3, m2, rfl, rfl, rfl, hy2_0, hy2_1, hy2_2, hy2_3⟩ := open_agg4 Try.underlying57 (by kernel_rfl) cells57 (hval 2 57 v2 rfl rfl) h2
  obtain ⟨a2_0, e2_0, rfl, w2_0⟩ := DataW.trod_int Try.underlying3 hy2_0
  obtain ⟨a2_1, e2_1, rfl, w2_1⟩ := DataW.trod_int Try.underlying3 hy2_1
  obtain ⟨a2_2, e2_2, rfl, w2_2⟩ := DataW.trod_int Try.underlying3 hy2_2
  obtain ⟨a2_3, e2_3, rfl, w2_3⟩ := DataW.trod_int Try.underlying3 hy2_3
  simp at e2_0 e2_1 e2_2 e2_3
  subst e2_0 e2_1 e2_2 e2_3
  have shut2 : ∀ (W' : World) (sp : Nat → Bool), DataW.Trod enc Try.prog W' 0 sp true 57 (.agg #[.int .i64 a2_0, .int .i64 a2_1, .int .i64 a2_2, .int .i64 a2_3]) (.agg [.lit (.int .i64 a2_0), .lit (.int .i64 a2_1), .lit (.int .i64 a2_2), .lit (.int .i64 a2_3)]) [] := fun W' sp =>
    shut_agg4 (y0 := (.lit (.int .i64 a2_0), [])) (y1 := (.lit (.int .i64 a2_1), [])) (y2 := (.lit (.int .i64 a2_2), [])) (y3 := (.lit (.int .i64 a2_3), [])) Try.underlying57 (by kernel_rfl) cells57 ⟨1, by simp [DataW.trod, Try.underlying3, w2_0]⟩ ⟨1, by simp [DataW.trod, Try.underlying3, w2_1]⟩ ⟨1, by simp [DataW.trod, Try.underlying3, w2_2]⟩ ⟨1, by simp [DataW.trod, Try.underlying3, w2_3]⟩
  clear hA0 hval0
  simp only [List.append_nil] at hW'
  refine (walk a0_0 a0_1 n0_1 c0_1 a0_2 n0_2 c0_2 a0_3 n0_3 c0_3 a0_4 n0_4 c0_4 xs0 ms0 ts0 bs0 a1_0 a1_1 n1_1 c1_1 a1_2 n1_2 c1_2 a1_3 n1_3 c1_3 a1_4 n1_4 c1_4 xs1 ms1 ts1 bs1 a2_0 a2_1 a2_2 a2_3 w2_0 w2_1 w2_2 w2_3 W hn0_1 hn0_2 hn0_3 hn0_4 hr0 hn1_1 hn1_2 hn1_3 hn1_4 hr1).mono fun e W' ⟨he, bel⟩ => ?_
  subst he
  exact ⟨_, rfl, _, _, _, [], _, [], hW', (trodAll_cons_mk (shut_bool Try.underlying4 _) trodAll_mk0), (trodAll_cons_mk (Below.trod laidOut (by kernel_rfl) (of_decide_eq_true (by kernel_rfl)) h0 bel lt0) (trodAll_cons_mk (Below.trod laidOut (by kernel_rfl) (of_decide_eq_true (by kernel_rfl)) h1 bel lt1) (trodAll_cons_mk (shut2 _ _) trodAll_mk0))), rfl, bel.frame _, fun h => by cases h⟩

theorem over : Rows.fnExactLedgerHoldsRow.holds Try.pinned (OpenSpec.ofChange Rows.fnExactLedgerHoldsSpec) :=
  OpenClaim.holds_of_wide 8 Try.f8 rfl rfl rfl rfl rfl rfl rfl ⟨rfl, rfl, rfl, rfl, rfl⟩ rfl rfl rfl rfl rfl (by kernel_rfl) Try.func8 (by kernel_rfl)
    (of_decide_eq_true (by kernel_rfl)) (by unfold Func.isWrapper; first | (rw [if_pos (by decide +kernel)]; kernel_rfl) | (rw [if_neg (by decide +kernel)]; exact ⟨rfl, rfl⟩))
    (fun os started H enc _ => lifted os started H enc)

theorem proved : Rows.FnExactLedgerHoldsSaid := over
#print axioms proved
end Go.Proofs.Ytngacnckejnllaa.fnExactLedgerHolds
