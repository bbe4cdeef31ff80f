/- Proved: for all arguments the law FnExactBorderOk returns true, that is, the program's BorderOk answers as the reference model's BorderOk.
   Conditions: none besides those that the given row prints. -/
import Derived.Test.YtngacnckejnllaaRows
import Derived.WalkKit
import Derived.ProofKit
import Derived.OpenShut
import Derived.ShutString
import Derived.ChangeOld
import Derived.Below
import Derived.ChangeSame
import Derived.Lib.SmallJoins
import Derived.Test.YtngacnckejnllaaStLedB
import Derived.Test.YtngacnckejnllaaStLaw
namespace Go.Proofs.Ytngacnckejnllaa.fnExactBorderOk
open Go.ChangeShapes Go.WideShapes Go.ChangeAt Go.RowKit Go.Joins
set_option linter.unusedVariables false
set_option maxRecDepth 100000

theorem own : ownKnob Try.prog.godebug = none := by kernel_rfl
theorem cells43 : Try.prog.cellsOf 43 = 3 := by kernel_rfl

set_option maxHeartbeats 16000000 in
theorem walk (a0_0 a0_1 a0_2 : Int) (w0_0 : (Lit.int .i64 a0_0).wf = true) (w0_1 : (Lit.int .i64 a0_1).wf = true) (w0_2 : (Lit.int .i64 a0_2).wf = true) (w : World) :
    Calls Try.prog 5 #[.agg #[.int .i64 a0_0, .int .i64 a0_1, .int .i64 a0_2]] w fun e w' => e = .returned (.bool true) ∧ Below w.heap.size w w' := by
  obtain ⟨y0, hS, hI⟩ := State.both_BorderOk a0_0 w0_0 a0_1 w0_1 a0_2 w0_2
  have HSB := Lib.hid hS; have HIB := Lib.hid hI; clear hS hI
  have he := (Law.Held.nil w).box 43 #[.int .i64 a0_0, .int .i64 a0_1, .int .i64 a0_2]
  try simp only [World.size_alloc] at he
  have HE0 := Lib.hid he; clear he
  go_enter Try.func5, Try.ntmps5
  go_upto_region 1 with fail
  generalize w.alloc (.cells #[.int .i64 a0_0, .int .i64 a0_1, .int .i64 a0_2] 43) = W0 at *
  obtain ⟨b0_0, b0_1, b0_2⟩ := Law.cells3 (HE0.out.nth 0 rfl)
  go_upto_region 2 with (first | (go_at_call 19; ((with_reducible refine (State.toBorder_is a0_0 a0_1 a0_2 _).mono ?_); rintro e u1 ⟨rfl, hg⟩; have HE1 := Lib.hid (HE0.out.on hg); clear hg)) | (go_at_call 18; ((with_reducible refine (HSB.out _  ).mono ?_); rintro e u2 ⟨rfl, hg⟩; have HE2 := Lib.hid (HE1.out.on hg); clear hg)))
  clear b0_0 b0_1 b0_2 HE0 HE1
  obtain ⟨b0_0, b0_1, b0_2⟩ := Law.cells3 (HE2.out.nth 0 rfl)
  go_wp2_with (first | (go_at_call 19; ((with_reducible refine (State.toBorder_is a0_0 a0_1 a0_2 _).mono ?_); rintro e u3 ⟨rfl, hg⟩; have HE3 := Lib.hid (HE2.out.on hg); clear hg)) | (go_at_call 15; ((with_reducible refine (HIB.out _  ).mono ?_); rintro e u4 ⟨rfl, hg⟩; have HE4 := Lib.hid (HE3.out.on hg); clear hg)))
  clear b0_0 b0_1 b0_2 HE2 HE3
  go_wp2_with fail
  go_ret
  exact ⟨rfl, Cell.grown_below HE4.out.gr (Nat.le_refl _)⟩

set_option maxRecDepth 100000 in
theorem lifted (os : Os) (started : os.Started) (H : Type) (enc : TypeId × Value → H) :
    ReturnsInHanded {} Try.checked os 5 .any (Rows.fnExactBorderOkSpec.pre6 enc Try.prog Try.f5 Rows.fnExactBorderOkRow.domain false) (Rows.fnExactBorderOkSpec.post enc Try.prog Try.f5 false true false false) := by
  refine returnsInHanded_of_change (C := Try.checked) own started (by kernel_rfl) Try.func5
    (ChangeSpec.witness6 (enc := enc) (C := Try.checked) false ⟨#[], #[.agg #[.int .i64 0, .int .i64 0, .int .i64 0]], []⟩ 8 (by kernel_rfl) (by kernel_rfl) (by kernel_rfl) (by kernel_rfl)) ?_
  intro W base args ds gs before hval0 hW hcnd _
  have hval : ∀ (j : Nat) t v, Try.f5.params[j]? = some t → args[j]? = some v → Value.okWide Try.prog W .any base t v := hval0
  have hW' := hW
  obtain ⟨p, q, hA0, hV, rfl, hfz, hnd⟩ := hW
  have hA : DataW.TrodAll enc Try.prog W 0 (fun _ => true) true Try.f5.params.toList args.toList ds p := hA0
  rw [Try.params5] at hA hval
  obtain ⟨v0, vs0, d0, ds0, p0, q0, hargs, rfl, rfl, h0, r0⟩ := trodAll_cons hA
  obtain ⟨rfl, rfl, rfl⟩ := trodAll_nil r0
  obtain rfl : args = #[v0] := by cases args; simp_all
  obtain ⟨rfl, rfl⟩ := trodVars_none hV
  obtain ⟨c0_0, c0_1, c0_2, y0_0, y0_1, y0_2, m0, rfl, rfl, rfl, hy0_0, hy0_1, hy0_2⟩ := open_agg3 Try.underlying43 (by kernel_rfl) cells43 (hval 0 43 v0 rfl rfl) h0
  obtain ⟨a0_0, e0_0, rfl, w0_0⟩ := DataW.trod_int Try.underlying3 hy0_0
  obtain ⟨a0_1, e0_1, rfl, w0_1⟩ := DataW.trod_int Try.underlying3 hy0_1
  obtain ⟨a0_2, e0_2, rfl, w0_2⟩ := DataW.trod_int Try.underlying3 hy0_2
  simp at e0_0 e0_1 e0_2
  subst e0_0 e0_1 e0_2
  have shut0 : ∀ (W' : World) (sp : Nat → Bool), DataW.Trod enc Try.prog W' 0 sp true 43 (.agg #[.int .i64 a0_0, .int .i64 a0_1, .int .i64 a0_2]) (.agg [.lit (.int .i64 a0_0), .lit (.int .i64 a0_1), .lit (.int .i64 a0_2)]) [] := fun W' sp =>
    shut_agg3 (y0 := (.lit (.int .i64 a0_0), [])) (y1 := (.lit (.int .i64 a0_1), [])) (y2 := (.lit (.int .i64 a0_2), [])) Try.underlying43 (by kernel_rfl) cells43 ⟨1, by simp [DataW.trod, Try.underlying3, w0_0]⟩ ⟨1, by simp [DataW.trod, Try.underlying3, w0_1]⟩ ⟨1, by simp [DataW.trod, Try.underlying3, w0_2]⟩
  clear hA0 hval0
  simp only [List.append_nil] at hW'
  refine (walk a0_0 a0_1 a0_2 w0_0 w0_1 w0_2 W).mono fun e W' ⟨he, bel⟩ => ?_
  subst he
  exact ⟨_, rfl, _, _, _, [], [], [], hW', (trodAll_cons_mk (shut_bool Try.underlying4 _) trodAll_mk0), (trodAll_cons_mk (shut0 _ _) trodAll_mk0), rfl, bel.frame _, fun h => by cases h⟩

theorem over : Rows.fnExactBorderOkRow.holds Try.pinned (OpenSpec.ofChange Rows.fnExactBorderOkSpec) :=
  OpenClaim.holds_of_wide 5 Try.f5 rfl rfl rfl rfl rfl rfl rfl ⟨rfl, rfl, rfl, rfl, rfl⟩ rfl rfl rfl rfl rfl (by kernel_rfl) Try.func5 (by kernel_rfl)
    (of_decide_eq_true (by kernel_rfl)) (by unfold Func.isWrapper; first | (rw [if_pos (by decide +kernel)]; kernel_rfl) | (rw [if_neg (by decide +kernel)]; exact ⟨rfl, rfl⟩))
    (fun os started H enc _ => lifted os started H enc)

theorem proved : Rows.FnExactBorderOkSaid := over
#print axioms proved
end Go.Proofs.Ytngacnckejnllaa.fnExactBorderOk
