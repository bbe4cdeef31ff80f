/- Proved: for all arguments the law FnExactStableAmount returns true, that is, the program's StableAmount answers as the reference model's StableAmount.
   Conditions: none besides those that the given row prints. -/
import Derived.Test.YtcboogodphpjbaaRows
import Derived.WalkKit
import Derived.ProofKit
import Derived.OpenShut
import Derived.ShutString
import Derived.ChangeOld
import Derived.Below
import Derived.ChangeSame
import Derived.Lib.SmallJoins
import Derived.Test.YtcboogodphpjbaaStDecB
import Derived.Test.YtcboogodphpjbaaStLaw
namespace Go.Proofs.Ytcboogodphpjbaa.fnExactStableAmount
open Go.ChangeShapes Go.WideShapes Go.ChangeAt Go.RowKit Go.Joins
set_option linter.unusedVariables false
set_option maxRecDepth 100000

theorem own : ownKnob Try.prog.godebug = none := by kernel_rfl

set_option maxHeartbeats 16000000 in
theorem walk (a0 : Int) (w0 : (Lit.int .i64 a0).wf = true) (w : World) :
    Calls Try.prog 6 #[.int .i64 a0] w fun e w' => e = .returned (.bool true) ∧ Below w.heap.size w w' := by
  obtain ⟨y0, hS, hI⟩ := State.both_StableAmount a0 w0
  have HSB := Lib.hid hS; have HIB := Lib.hid hI; clear hS hI
  have HE0 := Lib.hid (Law.Held.nil w)
  go_enter Try.func6, Try.ntmps6
  go_upto_region 1 with fail
  go_upto_region 2 with (go_at_call 23; ((with_reducible refine (HSB.out _  ).mono ?_); rintro e u1 ⟨rfl, hg⟩; have HE1 := Lib.hid (HE0.out.on hg); clear hg))
  clear HE0
  go_wp2_with (go_at_call 11; ((with_reducible refine (HIB.out _  ).mono ?_); rintro e u2 ⟨rfl, hg⟩; have HE2 := Lib.hid (HE1.out.on hg); clear hg))
  clear HE1
  go_wp2_with fail
  go_ret
  exact ⟨rfl, Cell.grown_below HE2.out.gr (Nat.le_refl _)⟩

set_option maxRecDepth 100000 in
theorem lifted (os : Os) (started : os.Started) (H : Type) (enc : TypeId × Value → H) :
    ReturnsInHanded {} Try.checked os 6 .any (Rows.fnExactStableAmountSpec.pre6 enc Try.prog Try.f6 Rows.fnExactStableAmountRow.domain false) (Rows.fnExactStableAmountSpec.post enc Try.prog Try.f6 false true false false) := by
  refine returnsInHanded_of_change (C := Try.checked) own started (by kernel_rfl) Try.func6
    (ChangeSpec.witness6 (enc := enc) (C := Try.checked) false ⟨#[], #[.int .i64 0], []⟩ 8 (by kernel_rfl) (by kernel_rfl) (by kernel_rfl) (by kernel_rfl)) ?_
  intro W base args ds gs before hval0 hW hcnd _
  have hval : ∀ (j : Nat) t v, Try.f6.params[j]? = some t → args[j]? = some v → Value.okWide Try.prog W .any base t v := hval0
  have hW' := hW
  obtain ⟨p, q, hA0, hV, rfl, hfz, hnd⟩ := hW
  have hA : DataW.TrodAll enc Try.prog W 0 (fun _ => true) true Try.f6.params.toList args.toList ds p := hA0
  rw [Try.params6] at hA hval
  obtain ⟨v0, vs0, d0, ds0, p0, q0, hargs, rfl, rfl, h0, r0⟩ := trodAll_cons hA
  obtain ⟨rfl, rfl, rfl⟩ := trodAll_nil r0
  obtain rfl : args = #[v0] := by cases args; simp_all
  obtain ⟨rfl, rfl⟩ := trodVars_none hV
  obtain ⟨a0, rfl, rfl, rfl, w0⟩ := open_int Try.underlying3 (hval 0 3 v0 rfl rfl) h0
  clear hA0 hval0
  simp only [List.append_nil] at hW'
  refine (walk a0 w0 W).mono fun e W' ⟨he, bel⟩ => ?_
  subst he
  exact ⟨_, rfl, _, _, _, [], [], [], hW', (trodAll_cons_mk (shut_bool Try.underlying4 _) trodAll_mk0), (trodAll_cons_mk (shut_int Try.underlying3 w0) trodAll_mk0), rfl, bel.frame _, fun h => by cases h⟩

theorem over : Rows.fnExactStableAmountRow.holds Try.pinned (OpenSpec.ofChange Rows.fnExactStableAmountSpec) :=
  OpenClaim.holds_of_wide 6 Try.f6 rfl rfl rfl rfl rfl rfl rfl ⟨rfl, rfl, rfl, rfl, rfl⟩ rfl rfl rfl rfl rfl (by kernel_rfl) Try.func6 (by kernel_rfl)
    (of_decide_eq_true (by kernel_rfl)) (by unfold Func.isWrapper; first | (rw [if_pos (by decide +kernel)]; kernel_rfl) | (rw [if_neg (by decide +kernel)]; exact ⟨rfl, rfl⟩))
    (fun os started H enc _ => lifted os started H enc)

theorem proved : Rows.FnExactStableAmountSaid := over
#print axioms proved
end Go.Proofs.Ytcboogodphpjbaa.fnExactStableAmount
