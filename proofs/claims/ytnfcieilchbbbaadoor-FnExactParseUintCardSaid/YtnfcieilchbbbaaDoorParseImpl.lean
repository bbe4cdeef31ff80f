/- The program's ParseUint, as a contract: exactly the numerals of 0 to 1000000000 are parsed.
   Conditions: the library's table of powers of ten and its two errors hold what their initialisers lay. -/
import Derived.Test.YtnfcieilchbbbaaDoorFmt
import Derived.Test.YtnfcieilchbbbaaDoorNum
import Derived.Test.YtnfcieilchbbbaaDoorTab
namespace Go.Proofs.YtnfcieilchbbbaaDoor.Fmt
open Go.ChangeShapes Go.WideShapes Go.ChangeAt Go.RowKit

/-- The library's two errors are interface values. -/
def Errs (w : World) : Prop := (∃ tp p, w.var? Tryd.prog "strconv.ErrSyntax" = some #[.iface tp p]) ∧ (∃ tp p, w.var? Tryd.prog "strconv.ErrRange" = some #[.iface tp p])

def AtoiBad (w : World) (e : Ending) (w' : World) : Prop := ∃ (x : Int) (t : TypeId) (N : Nat), e = .returned (.tuple #[.int .i64 x, .iface t (.pointer (some ⟨N, 0, none⟩))]) ∧ Below w.heap.size w w'
def AtoiGood (v : Int) (w : World) (e : Ending) (w' : World) : Prop := e = .returned (.tuple #[.int .i64 v, .nilIface]) ∧ Below w.heap.size w w'

theorem atoi_bad (s : ByteArray) (hlim : s.size ≤ 281474976710656) (h : ∀ v, Lib.atoiAll s.data.toList ≠ .ok v) (w : World) (hE : Errs w) :
    Calls Tryd.prog 29 #[.string s] w (AtoiBad w) := by
  obtain ⟨⟨tp, p, h1⟩, ⟨tq, q, h2⟩⟩ := hE
  cases h' : Lib.atoiAll s.data.toList
  · exact absurd h' (h _)
  · have hc := Any.strconv_Atoi_syntax_var Tryd.laysC172 s hlim h' tp p w h1
    exact hc.mono fun e w' ⟨N, he, _, _, hb⟩ => ⟨_, _, N, he, hb⟩
  · have hc := Any.strconv_Atoi_range_var Tryd.laysC172 s hlim h' tq q w h2
    exact hc.mono fun e w' ⟨N, he, _, _, hb⟩ => ⟨_, _, N, he, hb⟩

theorem below_bytes (w : World) (t : ByteArray) : Below w.heap.size w (Lib.bytesWorld w 5 t) :=
  Lib.bytesWorld_below w 5 t

/-- Two texts that are not one, as a walk's test has it. -/
theorem str_ne {a b : ByteArray} (h : a ≠ b) : (a.toList == b.toList) = false := by
  rw [Lib.toList_data, Lib.toList_data]
  exact beq_eq_false_iff_ne.2 fun e => h (ByteArray.ext (by simpa using e))

theorem atoi_good (s : ByteArray) (hlim : s.size ≤ 281474976710656) (v : Int) (h : Lib.atoiAll s.data.toList = .ok v) (w : World) :
    Calls Tryd.prog 29 #[.string s] w (AtoiGood v w) := by
  have hc := Any.strconv_Atoi_ok Tryd.laysC172 s (by omega) v h w
  refine hc.mono fun e w' ⟨he, hw⟩ => ⟨he, ?_⟩
  rcases hw with rfl | ⟨t, rfl⟩
  · exact Below.refl _ _
  · exact below_bytes w t

def ParseSome (x : Int) (b : Bool) (w : World) (e : Ending) (w' : World) : Prop := e = .returned (.tuple #[.int .i64 x, .bool b]) ∧ Below w.heap.size w w'

theorem impl_parse_yes (u : Nat) (hu : u ≤ 1000000000) (w : World) (hT : Lib.TabIs Tryd.prog w "internal/strconv.uint64pow10" .u64 Lib.pow10Tab) :
    Calls Tryd.prog 14 #[.string ⟨(Lib.decDigits u).toArray⟩] w (ParseSome u true w) := by
  obtain ⟨s, hs⟩ : ∃ s : ByteArray, s = ⟨(Lib.decDigits u).toArray⟩ := ⟨_, rfl⟩
  rw [← hs]
  have hat : Lib.atoiAll s.data.toList = .ok (u : Int) := by rw [hs]; exact atoi_dec u hu
  have hlen : s.size ≤ 281474976710656 := by
    have h := Lib.itoa_length_le (u : Int) (by omega) (by omega)
    rw [Lib.itoa_nonneg] at h
    rw [hs]
    show (Lib.decDigits u).toArray.size ≤ _
    simp
    omega
  have hit : (⟨(Lib.itoa (u : Int)).toArray⟩ : ByteArray) = s := by rw [hs, Lib.itoa_nonneg]
  have hu1 : (u : Int) ≤ 1000000000 := by omega
  have hlt := tab_lt hT
  have HT := Lib.hid hT; clear hT
  have HAT := Lib.hid hat; clear hat
  have HLN := Lib.hid hlen; clear hlen
  have HIT := Lib.hid hit; clear hit
  have HLT := Lib.hid hlt; clear hlt
  clear hs hu
  go_enter Tryd.func14, Tryd.ntmps14
  go_wp2_with fail
  refine (atoi_good s HLN.out u HAT.out _).mono ?_; rintro e w1 ⟨rfl, hb1⟩
  have HB1 := Lib.hid hb1; clear hb1
  go_wp2_with fail
  refine (fmt_any u (by omega) (by omega) _ (tab_below HB1.out HLT.out HT.out)).mono ?_; rintro e w2 ⟨rfl, hb2⟩
  rw [HIT.out]
  have HB2 := Lib.hid hb2; clear hb2
  go_wp2_with fail
  go_ret2
  exact ⟨rfl, HB1.out.trans (HB2.out.mono HB1.out.size)⟩

theorem impl_parse_no (s : ByteArray) (hlen : s.size ≤ 281474976710656) (hno : ∀ u : Nat, u ≤ 1000000000 → s.data.toList ≠ Lib.decDigits u) (w : World) (hT : Lib.TabIs Tryd.prog w "internal/strconv.uint64pow10" .u64 Lib.pow10Tab) (hE : Errs w) :
    Calls Tryd.prog 14 #[.string s] w (ParseSome 0 false w) := by
  have hlt := tab_lt hT
  have HT := Lib.hid hT; clear hT
  have HE := Lib.hid hE; clear hE
  have HLN := Lib.hid hlen; clear hlen
  have HLT := Lib.hid hlt; clear hlt
  have HNO := Lib.hid hno; clear hno
  by_cases hok : ∃ v, Lib.atoiAll s.data.toList = .ok v
  · obtain ⟨v, hv⟩ := hok
    have hbd := Lib.atoiAll_bounds hv
    obtain ⟨hv0, hv1⟩ := hbd
    have HV := Lib.hid hv; clear hv
    by_cases h1 : v < 0
    · go_enter Tryd.func14, Tryd.ntmps14
      go_wp2_with fail
      refine (atoi_good s HLN.out v HV.out _).mono ?_; rintro e w1 ⟨rfl, hb1⟩
      have HB1 := Lib.hid hb1; clear hb1
      go_wp2_with fail
      go_ret2
      exact ⟨rfl, HB1.out⟩
    · by_cases h2 : 1000000000 < v
      · go_enter Tryd.func14, Tryd.ntmps14
        go_wp2_with fail
        refine (atoi_good s HLN.out v HV.out _).mono ?_; rintro e w1 ⟨rfl, hb1⟩
        have HB1 := Lib.hid hb1; clear hb1
        go_wp2_with fail
        go_ret2
        exact ⟨rfl, HB1.out⟩
      · have hne : (⟨(Lib.itoa v).toArray⟩ : ByteArray) ≠ s := by
          intro h
          apply HNO.out v.toNat (by omega)
          rw [← h]
          obtain ⟨u, rfl⟩ := Int.eq_ofNat_of_zero_le (show 0 ≤ v by omega)
          rw [Lib.itoa_nonneg]
          simp
        obtain ⟨t, ht⟩ : ∃ t : ByteArray, t = ⟨(Lib.itoa v).toArray⟩ := ⟨_, rfl⟩
        rw [← ht] at hne
        have hne2 := str_ne hne
        clear hne
        have HTT := Lib.hid ht; clear ht
        go_enter Tryd.func14, Tryd.ntmps14
        go_wp2_with fail
        refine (atoi_good s HLN.out v HV.out _).mono ?_; rintro e w1 ⟨rfl, hb1⟩
        have HB1 := Lib.hid hb1; clear hb1
        go_wp2_with fail
        refine (fmt_any v hv0 hv1 _ (tab_below HB1.out HLT.out HT.out)).mono ?_; rintro e w2 ⟨rfl, hb2⟩
        rw [← HTT.out]
        have HB2 := Lib.hid hb2; clear hb2
        go_wp2_with fail
        go_ret2
        exact ⟨rfl, HB1.out.trans (HB2.out.mono HB1.out.size)⟩
  · have HV : Hid (∀ v, Lib.atoiAll s.data.toList ≠ .ok v) := Lib.hid (fun v h => hok ⟨v, h⟩)
    clear hok
    go_enter Tryd.func14, Tryd.ntmps14
    go_wp2_with fail
    refine (atoi_bad s HLN.out HV.out _ HE.out).mono ?_; rintro e w1 ⟨x, t, N, rfl, hb1⟩
    have HB1 := Lib.hid hb1; clear hb1
    go_wp2_with fail
    go_ret2
    exact ⟨rfl, HB1.out⟩
end Go.Proofs.YtnfcieilchbbbaaDoor.Fmt
