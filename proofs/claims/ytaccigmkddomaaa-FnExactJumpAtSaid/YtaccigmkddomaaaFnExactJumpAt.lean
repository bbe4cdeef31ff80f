/- Proved: for all arguments the law FnExactJumpAt returns true, that is, the program's JumpAt answers as the reference model's JumpAt, and writes into no argument.
   Conditions: none besides those that the given row prints. -/
import Derived.Test.YtaccigmkddomaaaRows
import Derived.WalkKit
import Derived.ProofKit
import Derived.OpenShut
import Derived.ShutString
import Derived.ChangeOld
import Derived.Below
import Derived.ChangeSame
import Derived.Lib.SmallJoins
import Derived.Test.YtaccigmkddomaaaStCriB
import Derived.Test.YtaccigmkddomaaaStLaw
namespace Go.Proofs.Ytaccigmkddomaaa.fnExactJumpAt
open Go.ChangeShapes Go.WideShapes Go.ChangeAt Go.RowKit Go.Joins
set_option linter.unusedVariables false
set_option maxRecDepth 100000

theorem own : ownKnob Try.prog.godebug = none := by kernel_rfl
theorem laidOut : laidOutB Try.prog = true := by kernel_rfl

set_option maxHeartbeats 16000000 in
theorem walk (a0_0 : Int) (a0_1 : Option Addr) (n0_1 c0_1 : Nat) (a0_2 : Option Addr) (n0_2 c0_2 : Nat) (a0_3 : Option Addr) (n0_3 c0_3 : Nat) (a0_4 : Option Addr) (n0_4 c0_4 : Nat) (xs0 : List Mesh.C3) (ms0 ts0 bs0 : List Int) (a1 : Int) (w1 : (Lit.int .i64 a1).wf = true) (w : World) (hn0_1 : n0_1 ≤ maxLen) (hn0_2 : n0_2 ≤ maxLen) (hn0_3 : n0_3 ≤ maxLen) (hn0_4 : n0_4 ≤ maxLen) (hr0 : State.ArgS w a0_1 a0_2 a0_3 a0_4 n0_1 n0_2 n0_3 n0_4 xs0 ms0 ts0 bs0) :
    Calls Try.prog 5 #[.agg #[.int .i64 a0_0, .slice a0_1 n0_1 c0_1, .slice a0_2 n0_2 c0_2, .slice a0_3 n0_3 c0_3, .slice a0_4 n0_4 c0_4], .int .i64 a1] w fun e w' => e = .returned (.bool true) ∧ Below w.heap.size w w' := by
  have HR0 := Lib.hid hr0
  have HM0_1 := Lib.hid hn0_1; have HM0_2 := Lib.hid hn0_2; have HM0_3 := Lib.hid hn0_3; have HM0_4 := Lib.hid hn0_4
  clear hr0 hn0_1 hn0_2 hn0_3 hn0_4
  obtain ⟨r0, hl0, hs0⟩ := State.szState_is a0_0 a0_1 a0_2 a0_3 a0_4 n0_1 n0_2 n0_3 n0_4 c0_1 c0_2 c0_3 c0_4 1048576 HM0_1.out HM0_2.out HM0_3.out HM0_4.out (by omega) (by omega)
  have HS0 := Lib.hid hs0; clear hs0
  rcases hl0 with ⟨hk0, hl0⟩ | rfl
  case inr =>
    have he := (Law.Held.nil w).box 47 #[.int .i64 a0_0, .slice a0_1 n0_1 c0_1, .slice a0_2 n0_2 c0_2, .slice a0_3 n0_3 c0_3, .slice a0_4 n0_4 c0_4]
    try simp only [World.size_alloc] at he
    have HE0 := Lib.hid he; clear he
    go_enter Try.func5, Try.ntmps5
    go_upto_region 2 with fail
    generalize w.alloc (.cells #[.int .i64 a0_0, .slice a0_1 n0_1 c0_1, .slice a0_2 n0_2 c0_2, .slice a0_3 n0_3 c0_3, .slice a0_4 n0_4 c0_4] 47) = W0 at *
    obtain ⟨p0, p1, p2, p3, p4⟩ := Law.box5 (HE0.out.nth 0 rfl)
    go_wp2_with (go_at_call 21; ((with_reducible refine (HS0.out _).mono ?_); rintro e w1 ⟨rfl, hg⟩; have HE1 := Lib.hid (HE0.out.on hg); clear hg))
    go_ret
    exact ⟨rfl, Cell.grown_below HE1.out.gr (Nat.le_refl _)⟩
  case inl =>
    have Hn0_1 : Hid (n0_1 ≤ 1048576) := Lib.hid (by omega)
    have Hn0_2 : Hid (n0_2 ≤ 1048576) := Lib.hid (by omega)
    have Hn0_3 : Hid (n0_3 ≤ 1048576) := Lib.hid (by omega)
    have Hn0_4 : Hid (n0_4 ≤ 1048576) := Lib.hid (by omega)
    obtain ⟨y0, hS, hI⟩ := State.both_JumpAt a0_0 n0_1 n0_2 n0_3 n0_4 xs0 ms0 ts0 bs0 HR0.out.l.len HR0.out.m.len HR0.out.t.len HR0.out.b.len Hn0_1.out Hn0_2.out Hn0_3.out Hn0_4.out a1 w1
    have in0_1 : (n0_1 : Int) ≤ 1048576 := by have := Hn0_1.out; omega
    have in0_2 : (n0_2 : Int) ≤ 1048576 := by have := Hn0_2.out; omega
    have in0_3 : (n0_3 : Int) ≤ 1048576 := by have := Hn0_3.out; omega
    have in0_4 : (n0_4 : Int) ≤ 1048576 := by have := Hn0_4.out; omega
    have HSB := Lib.hid hS; have HIB := Lib.hid hI; clear hS hI
    clear hl0
    have he := (Law.Held.nil w).box 47 #[.int .i64 a0_0, .slice a0_1 n0_1 c0_1, .slice a0_2 n0_2 c0_2, .slice a0_3 n0_3 c0_3, .slice a0_4 n0_4 c0_4]
    try simp only [World.size_alloc] at he
    have HE0 := Lib.hid he; clear he
    go_enter Try.func5, Try.ntmps5
    go_upto_region 2 with fail
    generalize w.alloc (.cells #[.int .i64 a0_0, .slice a0_1 n0_1 c0_1, .slice a0_2 n0_2 c0_2, .slice a0_3 n0_3 c0_3, .slice a0_4 n0_4 c0_4] 47) = W0 at *
    obtain ⟨p0, p1, p2, p3, p4⟩ := Law.box5 (HE0.out.nth 0 rfl)
    go_upto_region 5 with (go_at_call 21; ((with_reducible refine (HS0.out _).mono ?_); rintro e w1 ⟨rfl, hg⟩; have HE1 := Lib.hid (HE0.out.on hg); clear hg))
    clear p0 p1 p2 p3 p4 HE0 HS0
    obtain ⟨b0_0, b0_1, b0_2, b0_3, b0_4⟩ := Law.box5 (HE1.out.nth 0 rfl)
    go_upto_region 6 with (first | (go_at_call 23; ((with_reducible refine (State.toState_is _ _ _ _ _ _ _ _ _ _ _ _ _ xs0 ms0 ts0 bs0 _ (HR0.out.on HE1.out.gr) Hn0_1.out Hn0_2.out Hn0_3.out Hn0_4.out).mono ?_); rintro e u1 ⟨g1_1, g1_2, g1_3, g1_4, rfl, ho, hg⟩; have HE2 := Lib.hid (State.Held.state HE1.out hg ho); clear ho hg)) | (go_at_call 22; ((with_reducible refine (HSB.out _ _ _ _ _ _ _ _ _ (State.OwnS.reads (HE2.out.nth 1 rfl))).mono ?_); rintro e u2 ⟨rfl, hg⟩; have HE3 := Lib.hid (HE2.out.on hg); clear hg)))
    clear b0_0 b0_1 b0_2 b0_3 b0_4 HE1 HE2
    obtain ⟨b0_0, b0_1, b0_2, b0_3, b0_4⟩ := Law.box5 (HE3.out.nth 0 rfl)
    go_upto_region 7 with (go_at_call 23; ((with_reducible refine (State.toState_is _ _ _ _ _ _ _ _ _ _ _ _ _ xs0 ms0 ts0 bs0 _ (HR0.out.on HE3.out.gr) Hn0_1.out Hn0_2.out Hn0_3.out Hn0_4.out).mono ?_); rintro e u3 ⟨g3_1, g3_2, g3_3, g3_4, rfl, ho, hg⟩; have HE4 := Lib.hid (State.Held.state HE3.out hg ho); clear ho hg))
    clear b0_0 b0_1 b0_2 b0_3 b0_4 HE3
    have HE5 := Lib.hid (HE4.out.box 29 #[.int .i64 a0_0, .slice (some ⟨g3_1, 0, none⟩) n0_1 n0_1, .slice (some ⟨g3_2, 0, none⟩) n0_2 n0_2, .slice (some ⟨g3_3, 0, none⟩) n0_3 n0_3, .slice (some ⟨g3_4, 0, none⟩) n0_4 n0_4]); clear HE4
    obtain ⟨B4, hB4⟩ : ∃ B, B = u3.heap.size := ⟨_, rfl⟩
    rw [← hB4] at HE5 ⊢
    clear hB4
    generalize u3.alloc (.cells #[.int .i64 a0_0, .slice (some ⟨g3_1, 0, none⟩) n0_1 n0_1, .slice (some ⟨g3_2, 0, none⟩) n0_2 n0_2, .slice (some ⟨g3_3, 0, none⟩) n0_3 n0_3, .slice (some ⟨g3_4, 0, none⟩) n0_4 n0_4] 29) = V4 at *
    obtain ⟨x0_0, x0_1, x0_2, x0_3, x0_4⟩ := Law.box5 (HE5.out.nth 3 rfl)
    go_upto_region 10 with (go_at_call 14; ((with_reducible refine (HIB.out _ _ _ _ _ _ _ _ _ (State.OwnS.reads (HE5.out.nth 2 rfl))).mono ?_); rintro e u5 ⟨rfl, hg⟩; have HE6 := Lib.hid (HE5.out.on hg); clear hg))
    clear x0_0 x0_1 x0_2 x0_3 x0_4 HE5
    go_cut [30] from 26 to 29 (fun v wx => v = .bool false ∧ Hid (Law.Held w wx (Law.gsOf HE6.out)))
    case first =>
      obtain ⟨b0_0, b0_1, b0_2, b0_3, b0_4⟩ := Law.box5 (HE6.out.nth 0 rfl)
      obtain ⟨x0, x1, x2, x3, x4⟩ := Law.box5 (HE6.out.nth 3 rfl)
      go_region_with (first | (go_at_call 23; ((with_reducible refine (State.toState_is _ _ _ _ _ _ _ _ _ _ _ _ _ xs0 ms0 ts0 bs0 _ (HR0.out.on (Mesh.gr_drew HE6.out.gr)) Hn0_1.out Hn0_2.out Hn0_3.out Hn0_4.out).mono ?_); rintro e u6 ⟨z1, z2, z3, z4, rfl, ho, hg⟩; have hE := HE6.out.on (Cell.grown_trans (Mesh.gr_drew (Cell.grown_refl _)) hg); obtain ⟨s0, s1, s2, s3, s4⟩ := Law.box5 (hE.nth 3 rfl); have HRR := Lib.hid (State.OwnS.reads ho); have HEA := Lib.hid hE; clear ho hg hE)) | (go_at_call 24; ((with_reducible refine (State.eqState_is _ _ _ _ _ _ _ _ _ _ _ _ _ _ _ _ _ _ _ _ _ xs0 ms0 ts0 bs0 _ (State.OwnS.reads (HEA.out.nth 2 rfl)) HRR.out Hn0_1.out Hn0_2.out Hn0_3.out Hn0_4.out).mono ?_); rintro e u7 ⟨rfl, hg⟩; have HEB := Lib.hid (HEA.out.on hg); clear hg)))
      all_goals
        go_wp2_with fail
        go_meet
        exact ⟨rfl, HEB⟩
    case rest =>
      obtain ⟨rfl, HE7⟩ := hcut
      dsimp only [Law.gsOf] at HE7
      clear HE6
      go_wp2_with fail
      go_ret
      exact ⟨rfl, Cell.grown_below HE7.out.gr (Nat.le_refl _)⟩

set_option maxRecDepth 100000 in
theorem lifted (os : Os) (started : os.Started) (H : Type) (enc : TypeId × Value → H) :
    ReturnsInHanded {} Try.checked os 5 .any (Rows.fnExactJumpAtSpec.pre6 enc Try.prog Try.f5 Rows.fnExactJumpAtRow.domain false) (Rows.fnExactJumpAtSpec.post enc Try.prog Try.f5 false true false false) := by
  refine returnsInHanded_of_change (C := Try.checked) own started (by kernel_rfl) Try.func5
    (ChangeSpec.witness6 (enc := enc) (C := Try.checked) false ⟨#[], #[.agg #[.int .i64 0, .slice none 0 0, .slice none 0 0, .slice none 0 0, .slice none 0 0], .int .i64 0], []⟩ 8 (by kernel_rfl) (by kernel_rfl) (by kernel_rfl) (by kernel_rfl)) ?_
  intro W base args ds gs before hval0 hW hcnd _
  have hval : ∀ (j : Nat) t v, Try.f5.params[j]? = some t → args[j]? = some v → Value.okWide Try.prog W .any base t v := hval0
  have hW' := hW
  obtain ⟨p, q, hA0, hV, rfl, hfz, hnd⟩ := hW
  have hA : DataW.TrodAll enc Try.prog W 0 (fun _ => true) true Try.f5.params.toList args.toList ds p := hA0
  rw [Try.params5] at hA hval
  obtain ⟨v0, vs0, d0, ds0, p0, q0, hargs, rfl, rfl, h0, r0⟩ := trodAll_cons hA
  obtain ⟨v1, vs1, d1, ds1, p1, q1, rfl, rfl, rfl, h1, r1⟩ := trodAll_cons r0
  obtain ⟨rfl, rfl, rfl⟩ := trodAll_nil r1
  obtain rfl : args = #[v0, v1] := by cases args; simp_all
  obtain ⟨rfl, rfl⟩ := trodVars_none hV
  have lt0 : ∀ x ∈ p0, x.block < W.heap.size := by obtain ⟨m, hm⟩ := h0; exact DataW.trod_lt m _ _ _ hm
  obtain ⟨a0_0, a0_1, n0_1, c0_1, a0_2, n0_2, c0_2, a0_3, n0_3, c0_3, a0_4, n0_4, c0_4, xs0, ms0, ts0, bs0, rfl, hn0_1, hn0_2, hn0_3, hn0_4, hr0⟩ := State.open_state (hval 0 47 v0 rfl rfl) h0
  obtain ⟨a1, rfl, rfl, rfl, w1⟩ := open_int Try.underlying3 (hval 1 3 v1 rfl rfl) h1
  clear hA0 hval0
  simp only [List.append_nil] at hW'
  refine (walk a0_0 a0_1 n0_1 c0_1 a0_2 n0_2 c0_2 a0_3 n0_3 c0_3 a0_4 n0_4 c0_4 xs0 ms0 ts0 bs0 a1 w1 W hn0_1 hn0_2 hn0_3 hn0_4 hr0).mono fun e W' ⟨he, bel⟩ => ?_
  subst he
  exact ⟨_, rfl, _, _, _, [], _, [], hW', (trodAll_cons_mk (shut_bool Try.underlying4 _) trodAll_mk0), (trodAll_cons_mk (Below.trod laidOut (by kernel_rfl) (of_decide_eq_true (by kernel_rfl)) h0 bel lt0) (trodAll_cons_mk (shut_int Try.underlying3 w1) trodAll_mk0)), rfl, bel.frame _, fun h => by cases h⟩

theorem over : Rows.fnExactJumpAtRow.holds Try.pinned (OpenSpec.ofChange Rows.fnExactJumpAtSpec) :=
  OpenClaim.holds_of_wide 5 Try.f5 rfl rfl rfl rfl rfl rfl rfl ⟨rfl, rfl, rfl, rfl, rfl⟩ rfl rfl rfl rfl rfl (by kernel_rfl) Try.func5 (by kernel_rfl)
    (of_decide_eq_true (by kernel_rfl)) (by unfold Func.isWrapper; first | (rw [if_pos (by decide +kernel)]; kernel_rfl) | (rw [if_neg (by decide +kernel)]; exact ⟨rfl, rfl⟩))
    (fun os started H enc _ => lifted os started H enc)

theorem proved : Rows.FnExactJumpAtSaid := over
#print axioms proved
end Go.Proofs.Ytaccigmkddomaaa.fnExactJumpAt
