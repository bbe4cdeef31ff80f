/- Proved: for all arguments the law FnExactCountWishes returns true, that is, the program's CountWishes answers as the reference model's CountWishes, and writes into no argument.
   Conditions: none besides those that the given row prints. -/
import Derived.Test.YtaccigmkddomaaaRows
import Derived.WalkKit
import Derived.ProofKit
import Derived.OpenShut
import Derived.ShutString
import Derived.ChangeOld
import Derived.Below
import Derived.ChangeSame
import Derived.Lib.SmallJoins
import Derived.Test.YtaccigmkddomaaaStCriB
import Derived.Test.YtaccigmkddomaaaStLaw
namespace Go.Proofs.Ytaccigmkddomaaa.fnExactCountWishes
open Go.ChangeShapes Go.WideShapes Go.ChangeAt Go.RowKit Go.Joins
set_option linter.unusedVariables false
set_option maxRecDepth 100000

theorem own : ownKnob Try.prog.godebug = none := by kernel_rfl
theorem laidOut : laidOutB Try.prog = true := by kernel_rfl

set_option maxHeartbeats 16000000 in
theorem walk (a0 : Option Addr) (n0 c0 : Nat) (xs0 : List Int) (a1 : Int) (w1 : (Lit.int .i64 a1).wf = true) (w : World) (hn0 : n0 ≤ maxLen) (hr0 : Ints.ReadsI w a0 n0 xs0) :
    Calls Try.prog 7 #[.slice a0 n0 c0, .int .i64 a1] w fun e w' => e = .returned (.bool true) ∧ Below w.heap.size w w' := by
  have HR0 := Lib.hid hr0
  have HM0 := Lib.hid hn0
  clear hr0 hn0
  by_cases hlen0 : n0 ≤ 1048576
  case neg =>
    have hi : (1048576 : Int) < n0 := by omega
    clear hlen0
    have HE0 := Lib.hid (Law.Held.nil w)
    go_enter Try.func7, Try.ntmps7
    go_wp2_with fail
    go_ret
    exact ⟨rfl, Cell.grown_below (by first | exact HE0.out.gr | exact Cell.grown_refl _) (Nat.le_refl _)⟩
  case pos =>
    have hi0 : (n0 : Int) ≤ 1048576 := by omega
    have Hn0 : Hid (n0 ≤ 1048576) := Lib.hid (by omega)
    obtain ⟨y0, hS, hI⟩ := State.both_CountWishes n0 xs0 HR0.out.len Hn0.out a1 w1
    have in0 : (n0 : Int) ≤ 1048576 := by have := Hn0.out; omega
    have HSB := Lib.hid hS; have HIB := Lib.hid hI; clear hS hI
    have HE0 := Lib.hid (Law.Held.nil w)
    go_enter Try.func7, Try.ntmps7
    go_upto_region 3 with fail
    go_upto_region 4 with (first | (go_at_call 31; ((with_reducible refine (Ints.toI_is _ _ _ xs0 _ (HR0.out.on HE0.out.gr) Hn0.out).mono ?_); rintro e u1 ⟨g1_1, rfl, ho, hg⟩; have HE1 := Lib.hid (HE0.out.row hg ho); clear ho hg)) | (go_at_call 30; ((with_reducible refine (HSB.out _ _ _ (Ints.own_readsI (HE1.out.nth 0 rfl))).mono ?_); rintro e u2 ⟨rfl, hg⟩; have HE2 := Lib.hid (HE1.out.on hg); clear hg)))
    clear HE0 HE1
    go_upto_region 5 with (go_at_call 31; ((with_reducible refine (Ints.toI_is _ _ _ xs0 _ (HR0.out.on HE2.out.gr) Hn0.out).mono ?_); rintro e u3 ⟨g3_1, rfl, ho, hg⟩; have HE3 := Lib.hid (HE2.out.row hg ho); clear ho hg))
    clear HE2
    go_upto_region 8 with (go_at_call 15; ((with_reducible refine (HIB.out _ _ _ (Ints.own_readsI (HE3.out.nth 1 rfl))).mono ?_); rintro e u4 ⟨rfl, hg⟩; have HE4 := Lib.hid (HE3.out.on hg); clear hg))
    clear HE3
    go_wp2_with (first | (go_at_call 31; ((with_reducible refine (Ints.toI_is _ _ _ xs0 _ (HR0.out.on HE4.out.gr) Hn0.out).mono ?_); rintro e u5 ⟨g5_1, rfl, ho, hg⟩; have HE5 := Lib.hid (HE4.out.row hg ho); clear ho hg)) | (go_at_call 26; ((with_reducible refine (Ints.eqI_is _ _ _ _ _ xs0 _ (Ints.own_readsI (HE5.out.nth 1 rfl)) (Ints.own_readsI (HE5.out.nth 2 rfl)) Hn0.out).mono ?_); rintro e u6 ⟨rfl, hg⟩; have HE6 := Lib.hid (HE5.out.on hg); clear hg)))
    clear HE4 HE5
    go_wp2_with fail
    go_ret
    exact ⟨rfl, Cell.grown_below HE6.out.gr (Nat.le_refl _)⟩

set_option maxRecDepth 100000 in
theorem lifted (os : Os) (started : os.Started) (H : Type) (enc : TypeId × Value → H) :
    ReturnsInHanded {} Try.checked os 7 .any (Rows.fnExactCountWishesSpec.pre6 enc Try.prog Try.f7 Rows.fnExactCountWishesRow.domain false) (Rows.fnExactCountWishesSpec.post enc Try.prog Try.f7 false true false false) := by
  refine returnsInHanded_of_change (C := Try.checked) own started (by kernel_rfl) Try.func7
    (ChangeSpec.witness6 (enc := enc) (C := Try.checked) false ⟨#[], #[.slice none 0 0, .int .i64 0], []⟩ 8 (by kernel_rfl) (by kernel_rfl) (by kernel_rfl) (by kernel_rfl)) ?_
  intro W base args ds gs before hval0 hW hcnd _
  have hval : ∀ (j : Nat) t v, Try.f7.params[j]? = some t → args[j]? = some v → Value.okWide Try.prog W .any base t v := hval0
  have hW' := hW
  obtain ⟨p, q, hA0, hV, rfl, hfz, hnd⟩ := hW
  have hA : DataW.TrodAll enc Try.prog W 0 (fun _ => true) true Try.f7.params.toList args.toList ds p := hA0
  rw [Try.params7] at hA hval
  obtain ⟨v0, vs0, d0, ds0, p0, q0, hargs, rfl, rfl, h0, r0⟩ := trodAll_cons hA
  obtain ⟨v1, vs1, d1, ds1, p1, q1, rfl, rfl, rfl, h1, r1⟩ := trodAll_cons r0
  obtain ⟨rfl, rfl, rfl⟩ := trodAll_nil r1
  obtain rfl : args = #[v0, v1] := by cases args; simp_all
  obtain ⟨rfl, rfl⟩ := trodVars_none hV
  have lt0 : ∀ x ∈ p0, x.block < W.heap.size := by obtain ⟨m, hm⟩ := h0; exact DataW.trod_lt m _ _ _ hm
  obtain ⟨a0, n0, c0, xs0, rfl, hn0, hr0⟩ := Ints.open_intsV (hval 0 27 v0 rfl rfl) h0
  obtain ⟨a1, rfl, rfl, rfl, w1⟩ := open_int Try.underlying3 (hval 1 3 v1 rfl rfl) h1
  clear hA0 hval0
  simp only [List.append_nil] at hW'
  refine (walk a0 n0 c0 xs0 a1 w1 W hn0 hr0).mono fun e W' ⟨he, bel⟩ => ?_
  subst he
  exact ⟨_, rfl, _, _, _, [], _, [], hW', (trodAll_cons_mk (shut_bool Try.underlying4 _) trodAll_mk0), (trodAll_cons_mk (Below.trod laidOut (by kernel_rfl) (of_decide_eq_true (by kernel_rfl)) h0 bel lt0) (trodAll_cons_mk (shut_int Try.underlying3 w1) trodAll_mk0)), rfl, bel.frame _, fun h => by cases h⟩

theorem over : Rows.fnExactCountWishesRow.holds Try.pinned (OpenSpec.ofChange Rows.fnExactCountWishesSpec) :=
  OpenClaim.holds_of_wide 7 Try.f7 rfl rfl rfl rfl rfl rfl rfl ⟨rfl, rfl, rfl, rfl, rfl⟩ rfl rfl rfl rfl rfl (by kernel_rfl) Try.func7 (by kernel_rfl)
    (of_decide_eq_true (by kernel_rfl)) (by unfold Func.isWrapper; first | (rw [if_pos (by decide +kernel)]; kernel_rfl) | (rw [if_neg (by decide +kernel)]; exact ⟨rfl, rfl⟩))
    (fun os started H enc _ => lifted os started H enc)

theorem proved : Rows.FnExactCountWishesSaid := over
#print axioms proved
end Go.Proofs.Ytaccigmkddomaaa.fnExactCountWishes
