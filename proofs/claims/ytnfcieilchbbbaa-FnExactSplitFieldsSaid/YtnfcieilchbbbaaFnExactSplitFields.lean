/- Proved: for every string the law FnExactSplitFields returns true, that is, the program's SplitFields answers as the reference model's SplitFields, and hands back memory of its own.
   Conditions: none besides those that the given row prints. -/
import Derived.Test.YtnfcieilchbbbaaRows
import Derived.WalkKit
import Derived.ProofKit
import Derived.OpenShut
import Derived.ShutString
import Derived.Test.YtnfcieilchbbbaaSplitSpec
import Derived.Test.YtnfcieilchbbbaaMarks
import Derived.ChangeOld
import Derived.Below
namespace Go.Proofs.Ytnfcieilchbbbaa.fnExactSplitFields
open Go.ChangeShapes Go.WideShapes Go.ChangeAt Go.RowKit
open Go.ChangeMaps (open_string shut_string)
set_option linter.unusedVariables false

theorem own : ownKnob Try.prog.godebug = none := by kernel_rfl

theorem walk (a0 : ByteArray) (w0 : a0.size ≤ maxLen) (w : World) :
    Calls Try.prog 6 #[.string a0] w fun e w' => e = .returned (.bool true) ∧ Below w.heap.size w w' := by
  clear w0
  by_cases hbig : 1048576 < a0.size
  · have hb : (1048576 : Int) < (a0.size : Int) := by omega
    clear hbig
    go_enter Try.func6, Try.ntmps6
    go_wp2_with fail
    go_ret
    exact ⟨rfl, Below.refl _ _⟩
  · have hb : ¬ (1048576 : Int) < (a0.size : Int) := by omega
    clear hbig
    have hspec : ∀ W, Calls Try.prog 15 #[.string a0] W (Fld.SplitDone a0 W) := by
      intro W
      by_cases h : 600 < a0.size
      · exact Fld.spec_split_long a0 h W
      · exact Fld.spec_split a0 (by omega) W
    have himpl : ∀ W, Calls Try.prog 16 #[.string a0] W (Fld.SplitDone a0 W) := by
      intro W
      by_cases h : 600 < a0.size
      · exact Fld.impl_split_long a0 h W
      · exact Fld.impl_split a0 (by omega) W
    have HSP := Lib.hid hspec; clear hspec
    have HIM := Lib.hid himpl; clear himpl
    go_enter Try.func6, Try.ntmps6
    go_wp2_with fail
    refine (HSP.out _).mono ?_; rintro e w1 ⟨v0, ok, fs, rfl, hres, ho0, hb1⟩
    obtain ⟨a1, c1, rfl⟩ := Fld.own_form ho0
    have hfew := hres.few
    have HRES := Lib.hid hres; clear hres
    have HO0 := Lib.hid ho0; clear ho0
    have HB1 := Lib.hid hb1; clear hb1
    go_wp2_with fail
    refine (HIM.out _).mono ?_; rintro e w2 ⟨v1, ok', fs', rfl, hres, ho1, hb2⟩
    obtain ⟨rfl, rfl⟩ := HRES.out.same hres
    clear hres
    obtain ⟨a2, c2, rfl⟩ := Fld.own_form ho1
    have HO1 := Lib.hid ho1; clear ho1
    have HB2 := Lib.hid hb2; clear hb2
    have HO0b := Lib.hid (Fld.own_below HO0.out HB2.out)
    go_wp2_with fail
    refine (Fld.eq_same (by omega) HO1.out HO0b.out).mono ?_; rintro e w3 ⟨rfl, hst⟩
    have HB3 := Lib.hid (hst.below w2.heap.size); clear hst
    have HO1b := Lib.hid (Fld.own_below HO1.out HB3.out)
    have HO0c := Lib.hid (Fld.own_below HO0b.out HB3.out)
    have hne : ∀ j, (Value.slice a1 fs.length c1).ownBlock = some j → j < w1.heap.size := fun j hj => (HO0.out.lt j hj).2
    have HNE := Lib.hid hne; clear hne
    have hge : ∀ j, (Value.slice a2 fs.length c2).ownBlock = some j → w1.heap.size ≤ j := fun j hj => (HO1.out.lt j hj).1
    have HGE := Lib.hid hge; clear hge
    have HFEW := Lib.hid hfew; clear hfew
    cases ok
    all_goals
      go_wp2_with fail
      refine (Fld.mark_all (by have := HFEW.out; omega) HO1b.out).mono ?_; rintro e w4 ⟨rfl, ⟨ys, hys, hms⟩, hg4⟩
      have HYS := Lib.hid hys; clear hys
      have HMS := Lib.hid hms; clear hms
      have HO0d := Lib.hid (HO0c.out.kept hg4 (by
        cases h1 : (Value.slice a1 fs.length c1).ownBlock with
        | none => exact .inl rfl
        | some j =>
          refine .inr fun e => ?_
          have := HNE.out j h1
          have := HGE.out j e.symm
          omega))
      have HB4 := Lib.hid (show Below w1.heap.size w3 w4 from (Below.refl w1.heap.size w3).grown hg4 (Nat.le_trans HB2.out.size HB3.out.size) (fun j hj => HGE.out j hj)); clear hg4
      go_wp2_with fail
      refine (Fld.held_all (by have := HFEW.out; omega) HYS.out HMS.out).mono ?_; rintro e w5 ⟨rfl, hb5⟩
      have HB5 := Lib.hid hb5; clear hb5
      have HYS2 := Lib.hid (Fld.own_below HYS.out HB5.out)
      have HO0e := Lib.hid (Fld.own_below HO0d.out HB5.out)
      go_wp2_with fail
      refine (HIM.out _).mono ?_; rintro e w6 ⟨v3, ok3, fs3, rfl, hres, ho3, hb6⟩
      obtain ⟨rfl, rfl⟩ := HRES.out.same hres
      clear hres
      obtain ⟨a3, c3, rfl⟩ := Fld.own_form ho3
      have HO3 := Lib.hid ho3; clear ho3
      have HB6 := Lib.hid hb6; clear hb6
      have HYS3 := Lib.hid (Fld.own_below HYS2.out HB6.out)
      have HO0f := Lib.hid (Fld.own_below HO0e.out HB6.out)
      go_wp2_with fail
      refine (Fld.eq_same (by have := HFEW.out; omega) HO3.out HO0f.out).mono ?_; rintro e w7 ⟨rfl, hst⟩
      have HB7 := Lib.hid (hst.below w6.heap.size); clear hst
      have HYS4 := Lib.hid (Fld.own_below HYS3.out HB7.out)
      go_wp2_with fail
      refine (Fld.held_all (by have := HFEW.out; omega) HYS4.out HMS.out).mono ?_; rintro e w8 ⟨rfl, hb8⟩
      have HB8 := Lib.hid hb8; clear hb8
      go_wp2_with fail
      go_ret
      have s1 := HB1.out.size
      have s2 := HB2.out.size
      have s3 := HB3.out.size
      have s4 := HB4.out.size
      have s5 := HB5.out.size
      have s6 := HB6.out.size
      have s7 := HB7.out.size
      exact ⟨rfl, HB1.out.trans ((HB2.out.mono (by omega)).trans ((HB3.out.mono (by omega)).trans ((HB4.out.mono (by omega)).trans ((HB5.out.mono (by omega)).trans ((HB6.out.mono (by omega)).trans ((HB7.out.mono (by omega)).trans (HB8.out.mono (by omega))))))))⟩

set_option maxRecDepth 100000 in
theorem lifted (os : Os) (started : os.Started) (H : Type) (enc : TypeId × Value → H) :
    ReturnsInHanded {} Try.checked os 6 .any (Rows.fnExactSplitFieldsSpec.pre6 enc Try.prog Try.f6 Rows.fnExactSplitFieldsRow.domain false) (Rows.fnExactSplitFieldsSpec.post enc Try.prog Try.f6 false true false false) := by
  refine returnsInHanded_of_change (C := Try.checked) own started (by kernel_rfl) Try.func6
    (ChangeSpec.witness6 (enc := enc) (C := Try.checked) false ⟨#[], #[.string ByteArray.empty], []⟩ 8 (by kernel_rfl) (by kernel_rfl) (by kernel_rfl) (by kernel_rfl)) ?_
  intro W base args ds gs before hval0 hW hcnd _
  have hval : ∀ (j : Nat) t v, Try.f6.params[j]? = some t → args[j]? = some v → Value.okWide Try.prog W .any base t v := hval0
  have hW' := hW
  obtain ⟨p, q, hA0, hV, rfl, hfz, hnd⟩ := hW
  have hA : DataW.TrodAll enc Try.prog W 0 (fun _ => true) true Try.f6.params.toList args.toList ds p := hA0
  rw [Try.params6] at hA hval
  obtain ⟨v0, vs0, d0, ds0, p0, q0, hargs, rfl, rfl, h0, r0⟩ := trodAll_cons hA
  obtain ⟨rfl, rfl, rfl⟩ := trodAll_nil r0
  obtain rfl : args = #[v0] := by cases args; simp_all
  obtain ⟨rfl, rfl⟩ := trodVars_none hV
  obtain ⟨a0, rfl, rfl, rfl, w0⟩ := open_string Try.underlying9 (hval 0 9 v0 rfl rfl) h0
  clear hA0 hval0
  simp only [List.append_nil] at hW'
  refine (walk a0 w0 W).mono fun e W' ⟨he, bel⟩ => ?_
  subst he
  exact ⟨_, rfl, _, _, _, [], [], [], hW', (trodAll_cons_mk (shut_bool Try.underlying4 _) trodAll_mk0), (trodAll_cons_mk (shut_string Try.underlying9 w0) trodAll_mk0), rfl, bel.frame _, fun h => by cases h⟩

theorem over : Rows.fnExactSplitFieldsRow.holds Try.pinned (OpenSpec.ofChange Rows.fnExactSplitFieldsSpec) :=
  OpenClaim.holds_of_wide 6 Try.f6 rfl rfl rfl rfl rfl rfl rfl ⟨rfl, rfl, rfl, rfl, rfl⟩ rfl rfl rfl rfl rfl (by kernel_rfl) Try.func6 (by kernel_rfl)
    (of_decide_eq_true (by kernel_rfl)) (by unfold Func.isWrapper; first | (rw [if_pos (by decide +kernel)]; kernel_rfl) | (rw [if_neg (by decide +kernel)]; exact ⟨rfl, rfl⟩))
    (fun os started H enc _ => lifted os started H enc)

theorem proved : Rows.FnExactSplitFieldsSaid :=
  over
#print axioms proved
end Go.Proofs.Ytnfcieilchbbbaa.fnExactSplitFields
