/- Proved: for every string the law FnExactParseUint returns true, that is, the program's ParseUint answers as the reference model's ParseUint.
   Conditions: the package-level variables that the given row lists hold what the program's initialisers lay (the card ties them to the program's text). -/
import Derived.Test.YtnfcieilchbbbaaDoorRows
import Derived.WalkKit
import Derived.ProofKit
import Derived.OpenShut
import Derived.ShutString
import Derived.Test.YtnfcieilchbbbaaDoorCards
import Derived.Test.YtnfcieilchbbbaaDoorTie
import Derived.Deep.DeepHandedRow
import Derived.Deep.DeepWitnessRowRef
import Derived.Lib.LaidTab
import Derived.Stop.LaidErr
import Derived.LaidMore
import Derived.SevenTiedAt
import Derived.Test.YtnfcieilchbbbaaDoorErrs
import Derived.Test.YtnfcieilchbbbaaDoorParseSpec
import Derived.ChangeOld
import Derived.Below
namespace Go.Proofs.YtnfcieilchbbbaaDoor.fnExactParseUint
open Go.ChangeShapes Go.WideShapes Go.ChangeAt Go.RowKit
open Go.ChangeMaps (open_string shut_string)
set_option linter.unusedVariables false

theorem own : ownKnob Tryd.prog.godebug = none := by kernel_rfl

theorem walk (a0 : ByteArray) (w0 : a0.size ≤ maxLen) (w : World) (hL : laidMetH Tryd.prog Rows.fnExactParseUintRow.laid w) :
    Calls Tryd.prog 7 #[.string a0] w fun e w' => e = .returned (.bool true) ∧ Below w.heap.size w w' := by
  have hL' : laidMet Tryd.prog Rows.fnExactParseUintRow.laid w := hL
  have hT : Lib.TabIs Tryd.prog w "internal/strconv.uint64pow10" .u64 Lib.pow10Tab := Fmt.tab_of hL'.tail.tail
  have hE : Fmt.Errs w := Fmt.errs_of hL'.tail.tail.tail
  have hlt := Fmt.tab_lt hT
  have HT := Lib.hid hT; clear hT
  have HE := Lib.hid hE; clear hE
  have HLT := Lib.hid hlt; clear hlt hL hL' w0
  by_cases hbig : 1048576 < a0.size
  · have hb : (1048576 : Int) < (a0.size : Int) := by omega
    clear hbig
    go_enter Tryd.func7, Tryd.ntmps7
    go_wp2_with fail
    go_ret
    exact ⟨rfl, Below.refl _ _⟩
  · have hb : ¬ (1048576 : Int) < (a0.size : Int) := by omega
    have hsz : a0.size ≤ 281474976710656 := by omega
    have HSZ := Lib.hid hsz; clear hsz hbig
    have hspec : Calls Tryd.prog 20 #[.string a0] w (Fmt.SpecParsed a0 w) := by
      by_cases h : 10 < a0.size
      · exact Fmt.spec_parse_long a0 h w
      · exact Fmt.spec_parse_short a0 (by omega) w
    have HSP := Lib.hid hspec; clear hspec
    have hlt1 : 1 < w.heap.size ∧ 2 < w.heap.size := ⟨by have := HLT.out; omega, by have := HLT.out; omega⟩
    have HL2 := Lib.hid hlt1; clear hlt1
    by_cases hyes : ∃ u : Nat, u ≤ 1000000000 ∧ a0.data.toList = Lib.decDigits u
    · obtain ⟨u, hu, hs⟩ := hyes
      have hst : a0 = ⟨(Lib.decDigits u).toArray⟩ := by rw [← hs]
      have HU := Lib.hid hu; clear hu
      have HS := Lib.hid hs; clear hs
      have HST := Lib.hid hst; clear hst
      go_enter Tryd.func7, Tryd.ntmps7
      go_wp2_with fail
      refine HSP.out.mono ?_; rintro e w1 ⟨hy, _, hb1⟩
      obtain rfl := hy u HU.out HS.out
      clear hy
      have HB1 := Lib.hid hb1; clear hb1
      go_wp2_with fail
      refine (show Calls _ _ _ _ (Fmt.ParseSome u true w1) by rw [HST.out]; exact Fmt.impl_parse_yes u HU.out w1 (Fmt.tab_below HB1.out HLT.out HT.out)).mono ?_; rintro e w2 ⟨rfl, hb2⟩
      have HB2 := Lib.hid hb2; clear hb2
      go_wp2_with fail
      go_ret
      exact ⟨rfl, HB1.out.trans (HB2.out.mono HB1.out.size)⟩
    · have hno : ∀ u : Nat, u ≤ 1000000000 → a0.data.toList ≠ Lib.decDigits u := fun u hu e => hyes ⟨u, hu, e⟩
      have HNO := Lib.hid hno; clear hno hyes
      go_enter Tryd.func7, Tryd.ntmps7
      go_wp2_with fail
      refine HSP.out.mono ?_; rintro e w1 ⟨_, hy, hb1⟩
      obtain rfl := hy HNO.out
      clear hy
      have HB1 := Lib.hid hb1; clear hb1
      go_wp2_with fail
      refine (Fmt.impl_parse_no a0 HSZ.out HNO.out w1 (Fmt.tab_below HB1.out HLT.out HT.out) (Fmt.errs_below HB1.out HL2.out.1 HL2.out.2 HE.out)).mono ?_; rintro e w2 ⟨rfl, hb2⟩
      have HB2 := Lib.hid hb2; clear hb2
      go_wp2_with fail
      go_ret
      exact ⟨rfl, HB1.out.trans (HB2.out.mono HB1.out.size)⟩

theorem contract (H : Type) (enc : TypeId × Value → H) (W : World) (base : Nat) (args : Array Value) (ds gs : List (DataW H)) (before : List MemPlace)
    (hval0 : ∀ (j : Nat) t v, Tryd.f7.params[j]? = some t → args[j]? = some v → Value.okWide Tryd.prog W .any base t v)
    (hW : DataW.Whole enc Tryd.prog Tryd.f7.params.toList Rows.fnExactParseUintSpec.vars false W args.toList ds gs before) (hL : laidMetH Tryd.prog Rows.fnExactParseUintRow.laid W) :
    Calls Tryd.prog 7 args W fun e W' => ∃ v, e = .returned v ∧ Rows.fnExactParseUintSpec.post enc Tryd.prog Tryd.f7 false true false false W args v W' := by
  have hval : ∀ (j : Nat) t v, Tryd.f7.params[j]? = some t → args[j]? = some v → Value.okWide Tryd.prog W .any base t v := hval0
  have hW' := hW
  obtain ⟨p, q, hA0, hV, rfl, hfz, hnd⟩ := hW
  have hA : DataW.TrodAll enc Tryd.prog W 0 (fun _ => true) true Tryd.f7.params.toList args.toList ds p := hA0
  rw [Tryd.params7] at hA hval
  obtain ⟨v0, vs0, d0, ds0, p0, q0, hargs, rfl, rfl, h0, r0⟩ := trodAll_cons hA
  obtain ⟨rfl, rfl, rfl⟩ := trodAll_nil r0
  obtain rfl : args = #[v0] := by cases args; simp_all
  obtain ⟨rfl, rfl⟩ := trodVars_none hV
  obtain ⟨a0, rfl, rfl, rfl, w0⟩ := open_string Tryd.underlying9 (hval 0 9 v0 rfl rfl) h0
  clear hA0 hval0
  simp only [List.append_nil] at hW'
  refine (walk a0 w0 W hL).mono fun e W' ⟨he, bel⟩ => ?_
  subst he
  exact ⟨_, rfl, _, _, _, [], [], [], hW', (trodAll_cons_mk (shut_bool Tryd.underlying4 _) trodAll_mk0), (trodAll_cons_mk (shut_string Tryd.underlying9 w0) trodAll_mk0), rfl, bel.frame _, fun h => by cases h⟩

theorem laid_met (os : Os) : laidMet Tryd.prog Rows.fnExactParseUintRow.laid ((World.doorLaid Tryd.prog 400 os).forCall (fun _ _ => 0) ⟨#[], #[.string ByteArray.empty], []⟩).memory :=
  laidMet_of_run' 8 (by kernel_rfl) (by kernel_rfl)
theorem reads (os : Os) {H : Type} (enc : TypeId × Value → H) : ∃ places, DataW.whole enc Tryd.prog ((World.doorLaid Tryd.prog 400 os).forCall (fun _ _ => 0) ⟨#[], #[.string ByteArray.empty], []⟩).memory Tryd.f7.params.toList Rows.fnExactParseUintSpec.vars false (show Array Value from #[.string ByteArray.empty]).toList 8 = some ([.lit (.string [])], [], places) :=
  ⟨[], by kernel_rfl⟩

set_option maxRecDepth 100000 in
theorem lifted (os : Os) (started : os.Started) (H : Type) (enc : TypeId × Value → H) (F : Stop.Interp) :
    ReturnsInHanded {} Tryd.checked os 7 .any ((OpenSpec.ofChange Rows.fnExactParseUintSpec).preRow enc Tryd.prog Tryd.f7 Rows.fnExactParseUintRow.domain false Rows.fnExactParseUintRow.laid) (((OpenSpec.ofChange Rows.fnExactParseUintSpec).at F).post enc Tryd.prog Tryd.f7 false true false false) := by
  obtain ⟨places, hx⟩ := reads os enc
  refine returnsInHanded_of_row (C := Tryd.checked) (s := OpenSpec.ofChange Rows.fnExactParseUintSpec) own started (by kernel_rfl) Tryd.func7
    (witness_row_atRef (enc := enc) (C := Tryd.checked) false (World.doorLaid Tryd.prog 400 os) #[.string ByteArray.empty] rfl (by kernel_rfl) (by kernel_rfl) (by kernel_rfl)
      (OpenSpec.preRow_of_cond 8 hx (by kernel_rfl) (fun k hk => by cases hk) (by kernel_rfl) (laid_met os))) ?_
  intro W base args ds gs before hval hW _ _ _ hL _ _
  exact contract H enc W base args ds gs before hval hW hL

theorem said : Rows.FnExactParseUintSaid :=
  OpenClaim.holds_of_cond 7 Tryd.f7 rfl rfl rfl rfl rfl rfl rfl ⟨rfl, rfl, rfl, rfl, rfl⟩ rfl rfl rfl rfl rfl (by kernel_rfl) Tryd.func7 (by kernel_rfl)
    (of_decide_eq_true (by kernel_rfl)) (by unfold Func.isWrapper; first | (rw [if_pos (by decide +kernel)]; kernel_rfl) | (rw [if_neg (by decide +kernel)]; exact ⟨rfl, rfl⟩))
    (fun os started H enc _ F => by rw [OpenClaim.pre_eq_preRow]; exact lifted os started H enc F)

theorem plain (f : FuncId) (fn : Func) (hf : Tryd.pinned.checked.prog.funcNamed Rows.fnExactParseUintRow.func = some f) (hfn : Tryd.pinned.checked.prog.funcs[f]? = some fn) :
    true = Tryd.pinned.checked.prog.looks [] ∧ ∀ (j : Nat) t, fn.params[j]? = some t → Tryd.pinned.checked.prog.wantsStandIn t = false := by
  obtain rfl : f = 7 := Option.some.inj ((show Tryd.prog.funcNamed Rows.fnExactParseUintRow.func = some 7 by kernel_rfl).symm.trans hf) |>.symm
  obtain rfl : fn = Tryd.f7 := (Option.some.inj (Tryd.func7.symm.trans hfn)).symm
  refine ⟨by kernel_rfl, fun j t ht => ?_⟩
  rw [Tryd.params7] at ht
  have hm : t ∈ [9] := by simpa using Array.mem_of_getElem? ht
  have hall : ([9].all fun u => !Tryd.prog.wantsStandIn u) = true := by kernel_rfl
  exact (show Tryd.prog.wantsStandIn t = false by simpa using List.all_eq_true.1 hall t hm)

theorem proved : Rows.FnExactParseUintCardSaid :=
  Claim7.holds_tied_plain_at .later [] _ _ _ _ said (fun _ h => by cases h) (by kernel_rfl) (fun _ h => by cases h) fnExactParseUint_row_tie rfl ⟨rfl, rfl⟩ (by kernel_rfl) rfl plain (by kernel_rfl)
#print axioms proved
end Go.Proofs.YtnfcieilchbbbaaDoor.fnExactParseUint
