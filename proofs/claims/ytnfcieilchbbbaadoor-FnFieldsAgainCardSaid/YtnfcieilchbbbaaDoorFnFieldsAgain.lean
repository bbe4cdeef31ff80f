/- Proved: for every slice of bytes the law FnFieldsAgain returns true: the fields of a drawn line, joined by single spaces, have the same fields.
   Conditions: the package-level variables that the given row lists hold what the program's initialisers lay (the card ties them to the program's text). -/
import Derived.Test.YtnfcieilchbbbaaDoorRows
import Derived.WalkKit
import Derived.ProofKit
import Derived.OpenShut
import Derived.ShutString
import Derived.Test.YtnfcieilchbbbaaDoorCards
import Derived.Test.YtnfcieilchbbbaaDoorTie
import Derived.Deep.DeepHandedRow
import Derived.Deep.DeepWitnessRowRef
import Derived.Lib.LaidTab
import Derived.Stop.LaidErr
import Derived.LaidMore
import Derived.SevenTiedAt
import Derived.Test.YtnfcieilchbbbaaDoorSplitSpec
import Derived.Test.YtnfcieilchbbbaaDoorSameTexts
import Derived.Test.YtnfcieilchbbbaaDoorDrawSplit
import Derived.Test.YtnfcieilchbbbaaDoorJoin
import Derived.Test.YtnfcieilchbbbaaDoorFmt
import Derived.Test.YtnfcieilchbbbaaDoorTab
import Derived.ChangeOld
import Derived.Below
namespace Go.Proofs.YtnfcieilchbbbaaDoor.fnFieldsAgain
open Go.ChangeShapes Go.WideShapes Go.ChangeAt Go.RowKit
open Go.ChangeMaps (open_string shut_string)
set_option linter.unusedVariables false

theorem own : ownKnob Tryd.prog.godebug = none := by kernel_rfl
theorem laidOut : laidOutB Tryd.prog = true := by kernel_rfl

def IsRow (k : IntKind) (w : World) (a : Option Addr) (len cap : Nat) (zs : List Int) : Prop :=
  (a = none ∧ len = 0 ∧ cap = 0 ∧ zs = []) ∨
  ∃ x, a = some x ∧ len ≤ cap ∧ cap ≤ maxLen ∧ zs.length = cap ∧ (∀ i, i < zs.length → w.cell? (x.add i) = some (.int k (zs.getD i 0))) ∧ ∀ n ∈ zs, (Lit.int k n).wf = true

theorem walk (a0 : Option Addr) (len0 cap0 : Nat) (z0 : List Int) (w : World) (w0 : IsRow .u8 w a0 len0 cap0 z0) (hL : laidMetH Tryd.prog Rows.fnFieldsAgainRow.laid w) :
    Calls Tryd.prog 5 #[.slice a0 len0 cap0] w fun e w' => e = .returned (.bool true) ∧ Below w.heap.size w w' := by
  have hL' : laidMet Tryd.prog Rows.fnFieldsAgainRow.laid w := hL
  have hT : Lib.TabIs Tryd.prog w "internal/strconv.uint64pow10" .u64 Lib.pow10Tab := Fmt.tab_of hL'.tail.tail
  have hlt := Fmt.tab_lt hT
  have HT := Lib.hid hT; clear hT
  have HLT := Lib.hid hlt; clear hlt hL hL'
  have hb := Draw.bytes_of w0
  have HB := Lib.hid hb; clear hb
  clear w0
  have h3 : Lib.itoa (-3) = [45, 51] := by
    have h := Lib.itoa_neg 3 (by decide)
    rw [Lib.decDigits_one (by decide)] at h
    exact h
  have H3 := Lib.hid h3; clear h3
  by_cases hlen : 1048576 < len0
  · have hd : decide (1048576 < (len0 : Int)) = true := by simp; omega
    go_enter Tryd.func5, Tryd.ntmps5
    go_wp2_with fail
    refine Draw.big_any.mono ?_; rintro e w1 ⟨rfl, rfl⟩
    rw [hd]
    go_wp2_with fail
    go_ret
    exact ⟨rfl, Below.refl _ _⟩
  · have hd : decide (1048576 < (len0 : Int)) = false := by simp; omega
    have himpl : ∀ (s : ByteArray) (W : World), Calls Tryd.prog 16 #[.string s] W (Fld.SplitDone s W) := by
      intro s W
      by_cases h : 600 < s.size
      · exact Fld.impl_split_long s h W
      · exact Fld.impl_split s (by omega) W
    have hspec : ∀ (s : ByteArray) (W : World), Calls Tryd.prog 17 #[.string s] W (Fld.SplitDone s W) := by
      intro s W
      by_cases h : 600 < s.size
      · exact Fld.spec_split_long s h W
      · exact Fld.spec_split s (by omega) W
    have HIM := Lib.hid himpl; clear himpl
    have HSP := Lib.hid hspec; clear hspec
    go_enter Tryd.func5, Tryd.ntmps5
    go_wp2_with fail
    refine Draw.big_any.mono ?_; rintro e w1 ⟨rfl, rfl⟩
    rw [hd]
    go_wp2_with fail
    refine (Draw.draw_split (by omega) HB.out (Nat.le_refl _)).mono ?_; rintro e w1 ⟨line, hline, rfl, hb1⟩
    have HB1 := Lib.hid hb1; clear hb1 hlen hd hline
    go_wp2_with fail
    refine (HIM.out line _).mono ?_; rintro e w2 ⟨v1, ok, fs, rfl, hres, ho1, hb2⟩
    obtain ⟨a1, c1, rfl⟩ := Fld.own_form ho1
    have HO1 := Lib.hid ho1; clear ho1
    have HB2 := Lib.hid (HB1.out.trans (hb2.mono HB1.out.size)); clear hb2
    have HRES := Lib.hid hres; clear hres
    go_wp2_with fail
    refine (HSP.out line _).mono ?_; rintro e w3 ⟨v2, ok', fs', rfl, hres, ho2, hb3⟩
    obtain ⟨rfl, rfl⟩ := HRES.out.same hres
    clear hres ho2
    have HO1b := Lib.hid (Fld.own_below HO1.out hb3)
    have HB3 := Lib.hid (HB2.out.trans (hb3.mono HB2.out.size)); clear hb3
    cases ok
    · have hnil : fs = [] := by
        rcases HRES.out with ⟨_, h, _⟩ | ⟨_, _, h⟩
        · cases h
        · exact h
      subst hnil
      clear HO1 HO1b HRES
      go_wp2_with fail
      refine (Fmt.fmt_any (-3) (by decide) (by decide) _ (Fmt.tab_below HB3.out HLT.out HT.out)).mono ?_; rintro e w4 ⟨rfl, hb4⟩
      rw [H3.out]
      have HB4 := Lib.hid hb4; clear hb4
      go_wp2_with fail
      go_ret
      exact ⟨rfl, HB3.out.trans (HB4.out.mono HB3.out.size)⟩
    · have hgood : Hid (Fld.Good line ∧ fs = Fld.fieldsOf line.data.toList) := Lib.hid (by
        rcases HRES.out with ⟨h1, _, h2⟩ | ⟨_, h, _⟩
        · exact ⟨h1, h2⟩
        · cases h)
      have hfine : Hid (Fld.Fine 600 fs) := Lib.hid (fun f hf => by
        have h := Fld.fields_fine line.data.toList hgood.out.1.2.1 f (by rw [← hgood.out.2]; exact hf)
        refine ⟨h.1, h.2.mono ?_⟩
        have h6 := hgood.out.1.1
        simpa using h6)
      have hfew : fs.length ≤ 24 := HRES.out.few
      have hfi : (fs.length : Int) ≤ 24 := by omega
      have HFEW := Lib.hid hfew; clear hfew
      go_wp2_with fail
      go_loop [8, 9] (fun s i => ∃ (k : Nat) (t : ByteArray), (k : Int) ≤ fs.length ∧ i = .int .i64 k ∧ s = .string t ∧ (t.size : Int) ≤ 601 * (k : Int) ∧ Hid (t.data.toList = Fld.joinOf (fs.take k))) (fun _ i => fs.length - (intOf i).toNat)
      case atStart => exact ⟨0, ⟨#[]⟩, by omega, rfl, rfl, by show ((0 : Nat) : Int) ≤ _; omega, Lib.hid (by simp [Fld.joinOf])⟩
      case round =>
        obtain ⟨k, t, hk, rfl, rfl, ht, HJ⟩ := hrel
        by_cases hlt : (k : Int) < fs.length
        · obtain ⟨g, ha, _, hgl, hc, _⟩ := Fld.own_cell HO1b.out (by omega)
          subst ha
          have hkl : k < fs.length := by omega
          obtain ⟨f, hf⟩ : ∃ f : ByteArray, f = ⟨(fs.getD k []).toArray⟩ := ⟨_, rfl⟩
          have hfd : f.data.toList = fs.getD k [] := by rw [hf]
          have hcell : w3.cell? ⟨g, k, none⟩ = some (.string f) := by
            rw [hc k hkl, hf]
            simp [Fld.strs, List.getD_eq_getElem?_getD, List.getElem?_eq_getElem hkl]
          have hfs : (f.size : Int) ≤ 600 := by
            have hm : fs.getD k [] ∈ fs := by rw [List.getD_eq_getElem?_getD, List.getElem?_eq_getElem hkl]; exact List.getElem_mem _
            have h := (hfine.out _ hm).2.2.2
            rw [← hfd] at h
            have h2 : f.data.toList.length = f.size := by simp
            omega
          have HFD := Lib.hid hfd; clear hfd hf hc
          have hts0 : ¬ 9223372036854775807 < t.size + f.size := by omega
          have hts1 : ¬ 9223372036854775807 < (t ++ f).size + 1 := by rw [Draw.cat_size]; omega
          have hts2 : ¬ 9223372036854775807 < t.size + f.size + 1 := by omega
          have HKL := Lib.hid hkl; clear hkl
          have hszs : Hid (((t ++ f ++ ⟨#[32]⟩ : ByteArray).size : Int) ≤ 601 * ((k + 1 : Nat) : Int)) := Lib.hid (by
            rw [Draw.cat_size, Draw.cat_size]
            show ((t.size + f.size + 1 : Nat) : Int) ≤ _
            omega)
          clear hfs
          go_wp2_with fail
          go_round
          case rel =>
            refine ⟨k + 1, t ++ f ++ ⟨#[32]⟩, by omega, by go_num, rfl, hszs.out, Lib.hid ?_⟩
            rw [Fld.join_snoc fs k HKL.out, ← HJ.out, ← HFD.out]
            simp
          case measure => simp [intOf]; omega
        · have hkk : k = fs.length := by omega
          have hjoin : Hid (t.data.toList = Fld.joinOf fs) := Lib.hid (by rw [HJ.out, hkk, List.take_length])
          clear hkk
          go_wp2_with fail
          refine (HIM.out t _).mono ?_; rintro e w4 ⟨v3, ok3, fs3, rfl, hres3, ho3, hb4⟩
          obtain ⟨a3, c3, rfl⟩ := Fld.own_form ho3
          have HRES3 := Lib.hid hres3; clear hres3
          have HO3 := Lib.hid ho3; clear ho3
          have HO1c := Lib.hid (Fld.own_below HO1b.out hb4)
          have HB4 := Lib.hid (HB3.out.trans (hb4.mono HB3.out.size)); clear hb4
          by_cases hlong : (600 : Int) < (t.size : Int)
          · go_wp2_with fail
            go_ret
            exact ⟨rfl, HB4.out⟩
          · have hg3 : Fld.Good t := ⟨by omega, by rw [hjoin.out]; exact Fld.allIn_join hfine.out, by rw [hjoin.out, Fld.fields_join hfine.out]; exact HFEW.out⟩
            have hsame := HRES3.out.same (.inl ⟨hg3, rfl, rfl⟩)
            obtain ⟨rfl, h4⟩ := hsame
            rw [hjoin.out, Fld.fields_join hfine.out] at h4
            subst h4
            clear hg3 HRES3
            go_wp2_with fail
            refine (Fld.same_texts (by have := HFEW.out; omega) HO1c.out HO3.out).mono ?_; rintro e w5 ⟨rfl, hst⟩
            have HB5 := Lib.hid (hst.below w.heap.size); clear hst
            go_wp2_with fail
            go_ret
            exact ⟨rfl, HB4.out.trans HB5.out⟩

theorem contract (H : Type) (enc : TypeId × Value → H) (W : World) (base : Nat) (args : Array Value) (ds gs : List (DataW H)) (before : List MemPlace)
    (hval0 : ∀ (j : Nat) t v, Tryd.f5.params[j]? = some t → args[j]? = some v → Value.okWide Tryd.prog W .any base t v)
    (hW : DataW.Whole enc Tryd.prog Tryd.f5.params.toList Rows.fnFieldsAgainSpec.vars false W args.toList ds gs before) (hL : laidMetH Tryd.prog Rows.fnFieldsAgainRow.laid W) :
    Calls Tryd.prog 5 args W fun e W' => ∃ v, e = .returned v ∧ Rows.fnFieldsAgainSpec.post enc Tryd.prog Tryd.f5 false true false false W args v W' := by
  have hval : ∀ (j : Nat) t v, Tryd.f5.params[j]? = some t → args[j]? = some v → Value.okWide Tryd.prog W .any base t v := hval0
  have hW' := hW
  obtain ⟨p, q, hA0, hV, rfl, hfz, hnd⟩ := hW
  have hA : DataW.TrodAll enc Tryd.prog W 0 (fun _ => true) true Tryd.f5.params.toList args.toList ds p := hA0
  rw [Tryd.params5] at hA hval
  obtain ⟨v0, vs0, d0, ds0, p0, q0, hargs, rfl, rfl, h0, r0⟩ := trodAll_cons hA
  obtain ⟨rfl, rfl, rfl⟩ := trodAll_nil r0
  obtain rfl : args = #[v0] := by cases args; simp_all
  obtain ⟨rfl, rfl⟩ := trodVars_none hV
  obtain ⟨a0, len0, cap0, rfl⟩ := okWide_slice Tryd.underlying22 (hval 0 22 v0 rfl rfl)
  have k0 := h0
  have lt0 : ∀ x ∈ p0, x.block < W.heap.size := by obtain ⟨m, hm⟩ := k0; exact DataW.trod_lt m _ _ _ hm
  obtain ⟨z0, w0⟩ : ∃ zs, IsRow .u8 W a0 len0 cap0 zs := by
    obtain ⟨fuel, hf⟩ := h0
    rcases open_ints Tryd.underlying22 Tryd.underlying5 (by kernel_rfl) hf with ⟨hcs, _⟩ | ⟨x, l, c, zs, hcs, _, hl, hm, hz, _, hcell, hwz⟩
    · simp [Value.cells] at hcs
      obtain ⟨rfl, rfl, rfl⟩ := hcs
      exact ⟨[], .inl ⟨rfl, rfl, rfl, rfl⟩⟩
    · simp [Value.cells] at hcs
      obtain ⟨rfl, rfl, rfl⟩ := hcs
      exact ⟨zs, .inr ⟨_, rfl, hl, hm, by simpa using hz, hcell, hwz⟩⟩
  clear hA0 hval0
  refine (walk a0 len0 cap0 z0 W w0 hL).mono fun e W' ⟨he, bel⟩ => ?_
  subst he
  exact ⟨_, rfl, _, _, _, [], _, [], hW', trodAll_mk1 (shut_bool Tryd.underlying4 _), (trodAll_cons_mk (Below.trod laidOut (by kernel_rfl) (of_decide_eq_true (by kernel_rfl)) k0 bel lt0) trodAll_mk0), rfl, bel.frame _, fun h => by cases h⟩

theorem laid_met (os : Os) : laidMet Tryd.prog Rows.fnFieldsAgainRow.laid ((World.doorLaid Tryd.prog 400 os).forCall (fun _ _ => 0) ⟨#[], #[.slice none 0 0], []⟩).memory :=
  laidMet_of_run' 8 (by kernel_rfl) (by kernel_rfl)
theorem reads (os : Os) {H : Type} (enc : TypeId × Value → H) : ∃ places, DataW.whole enc Tryd.prog ((World.doorLaid Tryd.prog 400 os).forCall (fun _ _ => 0) ⟨#[], #[.slice none 0 0], []⟩).memory Tryd.f5.params.toList Rows.fnFieldsAgainSpec.vars false (show Array Value from #[.slice none 0 0]).toList 8 = some ([.nil], [], places) :=
  ⟨[], by kernel_rfl⟩

set_option maxRecDepth 100000 in
theorem lifted (os : Os) (started : os.Started) (H : Type) (enc : TypeId × Value → H) (F : Stop.Interp) :
    ReturnsInHanded {} Tryd.checked os 5 .any ((OpenSpec.ofChange Rows.fnFieldsAgainSpec).preRow enc Tryd.prog Tryd.f5 Rows.fnFieldsAgainRow.domain false Rows.fnFieldsAgainRow.laid) (((OpenSpec.ofChange Rows.fnFieldsAgainSpec).at F).post enc Tryd.prog Tryd.f5 false true false false) := by
  obtain ⟨places, hx⟩ := reads os enc
  refine returnsInHanded_of_row (C := Tryd.checked) (s := OpenSpec.ofChange Rows.fnFieldsAgainSpec) own started (by kernel_rfl) Tryd.func5
    (witness_row_at (enc := enc) (C := Tryd.checked) false (World.doorLaid Tryd.prog 400 os) #[.slice none 0 0] rfl (by kernel_rfl) (by kernel_rfl) (by kernel_rfl)
      (OpenSpec.preRow_of_cond 8 hx (by kernel_rfl) (fun k hk => by cases hk) (by kernel_rfl) (laid_met os))) ?_
  intro W base args ds gs before hval hW _ _ _ hL _ _
  exact contract H enc W base args ds gs before hval hW hL

theorem said : Rows.FnFieldsAgainSaid :=
  OpenClaim.holds_of_cond 5 Tryd.f5 rfl rfl rfl rfl rfl rfl rfl ⟨rfl, rfl, rfl, rfl, rfl⟩ rfl rfl rfl rfl rfl (by kernel_rfl) Tryd.func5 (by kernel_rfl)
    (of_decide_eq_true (by kernel_rfl)) (by unfold Func.isWrapper; first | (rw [if_pos (by decide +kernel)]; kernel_rfl) | (rw [if_neg (by decide +kernel)]; exact ⟨rfl, rfl⟩))
    (fun os started H enc _ F => by rw [OpenClaim.pre_eq_preRow]; exact lifted os started H enc F)

theorem plain (f : FuncId) (fn : Func) (hf : Tryd.pinned.checked.prog.funcNamed Rows.fnFieldsAgainRow.func = some f) (hfn : Tryd.pinned.checked.prog.funcs[f]? = some fn) :
    true = Tryd.pinned.checked.prog.looks [] ∧ ∀ (j : Nat) t, fn.params[j]? = some t → Tryd.pinned.checked.prog.wantsStandIn t = false := by
  obtain rfl : f = 5 := Option.some.inj ((show Tryd.prog.funcNamed Rows.fnFieldsAgainRow.func = some 5 by kernel_rfl).symm.trans hf) |>.symm
  obtain rfl : fn = Tryd.f5 := (Option.some.inj (Tryd.func5.symm.trans hfn)).symm
  refine ⟨by kernel_rfl, fun j t ht => ?_⟩
  rw [Tryd.params5] at ht
  have hm : t ∈ [22] := by simpa using Array.mem_of_getElem? ht
  have hall : ([22].all fun u => !Tryd.prog.wantsStandIn u) = true := by kernel_rfl
  exact (show Tryd.prog.wantsStandIn t = false by simpa using List.all_eq_true.1 hall t hm)

theorem proved : Rows.FnFieldsAgainCardSaid :=
  Claim7.holds_tied_plain_at .later [] _ _ _ _ said (fun _ h => by cases h) (by kernel_rfl) (fun _ h => by cases h) fnFieldsAgain_row_tie rfl ⟨rfl, rfl⟩ (by kernel_rfl) rfl plain (by kernel_rfl)
#print axioms proved
end Go.Proofs.YtnfcieilchbbbaaDoor.fnFieldsAgain
