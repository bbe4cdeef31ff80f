/- Proved: for every string the law FnExactDecodeHex returns true, that is, the program's DecodeHex answers as the reference model's DecodeHex.
   Conditions: none besides those that the given row prints. -/
import Derived.Test.YtnfcieilchbbbaaRows
import Derived.WalkKit
import Derived.ProofKit
import Derived.OpenShut
import Derived.ShutString
import Derived.Test.YtnfcieilchbbbaaDecImpl
import Derived.ChangeOld
import Derived.Below
namespace Go.Proofs.Ytnfcieilchbbbaa.fnExactDecodeHex
open Go.ChangeShapes Go.WideShapes Go.ChangeAt Go.RowKit
open Go.ChangeMaps (open_string shut_string)
set_option linter.unusedVariables false

theorem own : ownKnob Try.prog.godebug = none := by kernel_rfl

theorem walk (a0 : ByteArray) (w0 : a0.size ≤ maxLen) (w : World) :
    Calls Try.prog 5 #[.string a0] w fun e w' => e = .returned (.bool true) ∧ Below w.heap.size w w' := by
  clear w0
  by_cases hbig : 1048576 < a0.size
  · have hb : (1048576 : Int) < (a0.size : Int) := by omega
    clear hbig
    go_enter Try.func5, Try.ntmps5
    go_wp2_with fail
    go_ret
    exact ⟨rfl, Below.refl _ _⟩
  · have hb : ¬ (1048576 : Int) < (a0.size : Int) := by omega
    clear hbig
    by_cases hs : 40000 < a0.size ∨ a0.size % 2 ≠ 0
    · go_enter Try.func5, Try.ntmps5
      have HS := Lib.hid hs; clear hs
      go_wp2_with fail
      refine (Hex.spec_dec_no a0 _ HS.out).mono ?_; rintro e w1 ⟨rfl, rfl⟩
      go_wp2_with fail
      refine (Hex.impl_dec_no a0 _ HS.out).mono ?_; rintro e w1 ⟨rfl, rfl⟩
      go_wp2_with fail
      go_ret
      exact ⟨rfl, Below.refl _ _⟩
    · have h1 : a0.size ≤ 40000 := by omega
      have h2 : a0.size % 2 = 0 := by omega
      clear hs
      have H1 := Lib.hid h1; clear h1
      have H2 := Lib.hid h2; clear h2
      by_cases hall : ∀ j, j < a0.size / 2 → Hex.okAt a0 j
      · have HA := Lib.hid hall; clear hall
        go_enter Try.func5, Try.ntmps5
        go_wp2_with fail
        refine (Hex.spec_dec a0 _ H1.out H2.out).mono ?_; rintro e w1 ⟨hy, _, hb1⟩
        obtain rfl := hy HA.out
        clear hy
        go_wp2_with fail
        refine (Hex.impl_dec a0 _ H1.out H2.out).mono ?_; rintro e w2 ⟨hy, _, hb2⟩
        obtain rfl := hy HA.out
        clear hy
        go_wp2_with fail
        go_ret
        exact ⟨rfl, hb1.trans (hb2.mono hb1.size)⟩
      · have HA := Lib.hid hall; clear hall
        go_enter Try.func5, Try.ntmps5
        go_wp2_with fail
        refine (Hex.spec_dec a0 _ H1.out H2.out).mono ?_; rintro e w1 ⟨_, hy, hb1⟩
        obtain rfl := hy HA.out
        clear hy
        go_wp2_with fail
        refine (Hex.impl_dec a0 _ H1.out H2.out).mono ?_; rintro e w2 ⟨_, hy, hb2⟩
        obtain rfl := hy HA.out
        clear hy
        go_wp2_with fail
        go_ret
        exact ⟨rfl, hb1.trans (hb2.mono hb1.size)⟩

set_option maxRecDepth 100000 in
theorem lifted (os : Os) (started : os.Started) (H : Type) (enc : TypeId × Value → H) :
    ReturnsInHanded {} Try.checked os 5 .any (Rows.fnExactDecodeHexSpec.pre6 enc Try.prog Try.f5 Rows.fnExactDecodeHexRow.domain false) (Rows.fnExactDecodeHexSpec.post enc Try.prog Try.f5 false true false false) := by
  refine returnsInHanded_of_change (C := Try.checked) own started (by kernel_rfl) Try.func5
    (ChangeSpec.witness6 (enc := enc) (C := Try.checked) false ⟨#[], #[.string ByteArray.empty], []⟩ 8 (by kernel_rfl) (by kernel_rfl) (by kernel_rfl) (by kernel_rfl)) ?_
  intro W base args ds gs before hval0 hW hcnd _
  have hval : ∀ (j : Nat) t v, Try.f5.params[j]? = some t → args[j]? = some v → Value.okWide Try.prog W .any base t v := hval0
  have hW' := hW
  obtain ⟨p, q, hA0, hV, rfl, hfz, hnd⟩ := hW
  have hA : DataW.TrodAll enc Try.prog W 0 (fun _ => true) true Try.f5.params.toList args.toList ds p := hA0
  rw [Try.params5] at hA hval
  obtain ⟨v0, vs0, d0, ds0, p0, q0, hargs, rfl, rfl, h0, r0⟩ := trodAll_cons hA
  obtain ⟨rfl, rfl, rfl⟩ := trodAll_nil r0
  obtain rfl : args = #[v0] := by cases args; simp_all
  obtain ⟨rfl, rfl⟩ := trodVars_none hV
  obtain ⟨a0, rfl, rfl, rfl, w0⟩ := open_string Try.underlying9 (hval 0 9 v0 rfl rfl) h0
  clear hA0 hval0
  simp only [List.append_nil] at hW'
  refine (walk a0 w0 W).mono fun e W' ⟨he, bel⟩ => ?_
  subst he
  exact ⟨_, rfl, _, _, _, [], [], [], hW', (trodAll_cons_mk (shut_bool Try.underlying4 _) trodAll_mk0), (trodAll_cons_mk (shut_string Try.underlying9 w0) trodAll_mk0), rfl, bel.frame _, fun h => by cases h⟩

theorem over : Rows.fnExactDecodeHexRow.holds Try.pinned (OpenSpec.ofChange Rows.fnExactDecodeHexSpec) :=
  OpenClaim.holds_of_wide 5 Try.f5 rfl rfl rfl rfl rfl rfl rfl ⟨rfl, rfl, rfl, rfl, rfl⟩ rfl rfl rfl rfl rfl (by kernel_rfl) Try.func5 (by kernel_rfl)
    (of_decide_eq_true (by kernel_rfl)) (by unfold Func.isWrapper; first | (rw [if_pos (by decide +kernel)]; kernel_rfl) | (rw [if_neg (by decide +kernel)]; exact ⟨rfl, rfl⟩))
    (fun os started H enc _ => lifted os started H enc)

theorem proved : Rows.FnExactDecodeHexSaid :=
  over
#print axioms proved
end Go.Proofs.Ytnfcieilchbbbaa.fnExactDecodeHex
