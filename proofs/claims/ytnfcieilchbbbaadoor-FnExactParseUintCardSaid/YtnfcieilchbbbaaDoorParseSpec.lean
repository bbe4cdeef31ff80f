/- The model's ParseUint, as a contract: exactly the numerals of 0 to 1000000000 are parsed. -/
import Derived.Test.YtnfcieilchbbbaaDoorSpecFmt
import Derived.Test.YtnfcieilchbbbaaDoorParseImpl
namespace Go.Proofs.YtnfcieilchbbbaaDoor.Fmt
open Go.ChangeShapes Go.WideShapes Go.ChangeAt Go.RowKit

theorem take_snoc' (s : ByteArray) (k : Nat) (h : k < s.size) : s.data.toList.take (k + 1) = s.data.toList.take k ++ [s[k]] := Hex.take_snoc s k h

theorem pv_snoc (s : ByteArray) (k : Nat) (h : k < s.size) (hd : 48 ≤ (s[k]).toNat) : (pv 0 (s.data.toList.take (k + 1)) : Int) = 10 * (pv 0 (s.data.toList.take k) : Int) + ((s[k]).toNat : Int) - 48 := by
  rw [take_snoc' s k h, pv_append, pv_one]; omega

def AllDig (s : ByteArray) (k : Nat) : Prop := ∀ c ∈ s.data.toList.take k, 48 ≤ c.toNat ∧ c.toNat ≤ 57

/-- What the model's ParseUint leaves: where the text is the numeral of u, u; else nothing. -/
def SpecParsed (s : ByteArray) (w : World) (e : Ending) (w' : World) : Prop :=
  (∀ u : Nat, u ≤ 1000000000 → s.data.toList = Lib.decDigits u → e = .returned (.tuple #[.int .i64 (u : Int), .bool true])) ∧
  ((∀ u : Nat, u ≤ 1000000000 → s.data.toList ≠ Lib.decDigits u) → e = .returned (.tuple #[.int .i64 0, .bool false])) ∧ Below w.heap.size w w'

theorem dec_len (u : Nat) (hu : u ≤ 1000000000) : (Lib.decDigits u).length ≤ 10 := by
  rw [Lib.decDigits_length]
  have step : ∀ v : Nat, Lib.nDigits v ≤ Lib.nDigits (v / 10) + 1 := fun v => by
    by_cases h : v < 10
    · rw [Lib.nDigits_small h]; omega
    · rw [Lib.nDigits_big h]; omega
  have h0 : Lib.nDigits (u / 10 / 10 / 10 / 10 / 10 / 10 / 10 / 10 / 10) = 1 := Lib.nDigits_small (by omega)
  have h1 := step u
  have h2 := step (u / 10)
  have h3 := step (u / 10 / 10)
  have h4 := step (u / 10 / 10 / 10)
  have h5 := step (u / 10 / 10 / 10 / 10)
  have h6 := step (u / 10 / 10 / 10 / 10 / 10)
  have h7 := step (u / 10 / 10 / 10 / 10 / 10 / 10)
  have h8 := step (u / 10 / 10 / 10 / 10 / 10 / 10 / 10)
  have h9 := step (u / 10 / 10 / 10 / 10 / 10 / 10 / 10 / 10)
  omega

theorem spec_parse_long (s : ByteArray) (h : 10 < s.size) (w : World) :
    Calls Tryd.prog 20 #[.string s] w (SpecParsed s w) := by
  have hle : (10 : Int) < (s.size : Int) := by omega
  have H := Lib.hid h; clear h
  go_enter Tryd.func20, Tryd.ntmps20
  go_wp2
  go_ret2
  refine ⟨fun u hu e => ?_, fun _ => rfl, Below.refl _ _⟩
  have h1 := dec_len u hu
  rw [← e] at h1
  have h2 := H.out
  simp at h1
  omega

theorem spec_parse_short (s : ByteArray) (h : s.size ≤ 10) (w : World) :
    Calls Tryd.prog 20 #[.string s] w (SpecParsed s w) := by
  have hle : (s.size : Int) ≤ 10 := by omega
  have H := Lib.hid h; clear h
  go_enter Tryd.func20, Tryd.ntmps20
  go_wp2
  go_loop [4, 5] (fun n i => ∃ (k : Nat) (x : Int), (k : Int) ≤ s.size ∧ i = .int .i64 k ∧ n = .int .i64 x ∧ 0 ≤ x ∧ Hid (x = pv 0 (s.data.toList.take k) ∧ x < 10 ^ k ∧ AllDig s k)) (fun _ i => s.size - (intOf i).toNat)
  case atStart => exact ⟨0, 0, by omega, rfl, rfl, by omega, Lib.hid ⟨rfl, by simp, fun c hc => by simp at hc⟩⟩
  case round =>
    obtain ⟨k, x, hk, rfl, rfl, hx0, HX⟩ := hrel
    by_cases hlt : (k : Int) < s.size
    · have hlt' : k < s.size := by omega
      have hx1 : x ≤ 9999999999 := by
        have h1 := HX.out.2.1
        have h2 : (10 : Int) ^ k ≤ 10 ^ 9 := by
          have : k ≤ 9 := by have := H.out; omega
          exact_mod_cast Nat.pow_le_pow_right (by decide) this
        omega
      have hb : (s[k]).toNat < 256 := (s[k]).toNat_lt
      by_cases hd : 48 ≤ (s[k]).toNat ∧ (s[k]).toNat ≤ 57
      · have hd0 : 48 ≤ ((s[k]).toNat : Int) := by omega
        have hd1 : ((s[k]).toNat : Int) ≤ 57 := by omega
        have HD := Lib.hid hd; clear hd hb
        go_wp2_with fail
        go_round
        case rel =>
          refine ⟨k + 1, 10 * x + ((s[k]).toNat : Int) - 48, by omega, by go_num, by first | rfl | go_num, by omega, Lib.hid ⟨?_, ?_, ?_⟩⟩
          · rw [pv_snoc s k hlt' HD.out.1, ← HX.out.1]
          · have h1 := HX.out.2.1
            rw [Int.pow_succ]
            omega
          · intro c hc
            rw [take_snoc' s k hlt'] at hc
            rcases List.mem_append.1 hc with hc | hc
            · exact HX.out.2.2 c hc
            · simp at hc; subst hc; exact HD.out
        case measure => simp [intOf]; omega
      · have hno : Hid (∀ u : Nat, u ≤ 1000000000 → s.data.toList ≠ Lib.decDigits u) := Lib.hid (fun u _ e => by
          have hm := digits_mem u (s[k]) (by rw [← e]; exact List.getElem_mem _)
          omega)
        by_cases hl : (s[k]).toNat < 48
        · have hl0 : ((s[k]).toNat : Int) < 48 := by omega
          clear hd hb hl
          go_wp2_with fail
          go_ret2
          exact ⟨fun u hu e => absurd e (hno.out u hu), fun _ => rfl, Below.refl _ _⟩
        · have hl0 : 57 < ((s[k]).toNat : Int) := by omega
          clear hd hb hl
          go_wp2_with fail
          go_ret2
          exact ⟨fun u hu e => absurd e (hno.out u hu), fun _ => rfl, Below.refl _ _⟩
    · have hkk : k = s.size := by omega
      have hx1 : x ≤ 10000000000 := by
        have h1 := HX.out.2.1
        have h2 : (10 : Int) ^ k ≤ 10 ^ 10 := by
          have : k ≤ 10 := by have := H.out; omega
          exact_mod_cast Nat.pow_le_pow_right (by decide) this
        omega
      have hval : Hid (x = pv 0 s.data.toList) := by
        refine Lib.hid ?_
        have h1 := HX.out.1
        rwa [List.take_of_length_le (by simp [hkk])] at h1
      have hinv : Hid (∀ u : Nat, u ≤ 1000000000 → s.data.toList = Lib.decDigits u → x = u) := Lib.hid (fun u _ e => by rw [hval.out, e, pv_dec])
      clear hkk
      by_cases hbig : 1000000000 < x
      · go_wp2_with fail
        go_ret2
        exact ⟨fun u hu e => by have := hinv.out u hu e; omega, fun _ => rfl, Below.refl _ _⟩
      · by_cases heq : (⟨(Lib.itoa x).toArray⟩ : ByteArray) = s
        · have HQ := Lib.hid heq; clear heq
          go_wp2_with fail
          refine (spec_fmt x (by omega) (by omega) _).mono ?_; rintro e w1 ⟨rfl, hb1⟩
          rw [HQ.out]
          have HB1 := Lib.hid hb1; clear hb1
          go_wp2_with fail
          go_ret2
          refine ⟨fun u hu e => by rw [hinv.out u hu e]; rfl, fun hno => ?_, HB1.out⟩
          exfalso
          obtain ⟨u, hu⟩ := Int.eq_ofNat_of_zero_le hx0
          refine hno u (by omega) ?_
          rw [← HQ.out, hu, Lib.itoa_nonneg]
        · obtain ⟨t, ht⟩ : ∃ t : ByteArray, t = ⟨(Lib.itoa x).toArray⟩ := ⟨_, rfl⟩
          rw [← ht] at heq
          have hne2 := str_ne heq
          have HTT := Lib.hid ht; clear ht
          have HNE := Lib.hid heq; clear heq
          go_wp2_with fail
          refine (spec_fmt x (by omega) (by omega) _).mono ?_; rintro e w1 ⟨rfl, hb1⟩
          rw [← HTT.out]
          have HB1 := Lib.hid hb1; clear hb1
          go_wp2_with fail
          go_ret2
          refine ⟨fun u hu e => ?_, fun _ => rfl, HB1.out⟩
          exfalso
          have hxu := hinv.out u hu e
          apply HNE.out
          rw [HTT.out, hxu, Lib.itoa_nonneg, ← e]
end Go.Proofs.YtnfcieilchbbbaaDoor.Fmt
