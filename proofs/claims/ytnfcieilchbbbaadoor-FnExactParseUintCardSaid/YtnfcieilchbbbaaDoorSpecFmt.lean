/- The model's FormatInt, as a contract: the decimal numeral of every int. -/
import Derived.Test.YtnfcieilchbbbaaDoorHexDig
import Derived.Lib.ItoaMem
import Derived.Lib.ItoaLen
namespace Go.Proofs.YtnfcieilchbbbaaDoor.Fmt
open Go.ChangeShapes Go.WideShapes Go.ChangeAt Go.RowKit

/-- The digits of a number; none of 0. -/
def dd (m : Nat) : List UInt8 := if m = 0 then [] else Lib.decDigits m
theorem dd_step (m : Nat) (h : 0 < m) : dd m = dd (m / 10) ++ [Hex.dig (m % 10)] := by
  have hd : Hex.dig (m % 10) = UInt8.ofNat (48 + m % 10) := by unfold Hex.dig; rw [if_pos (by omega)]
  unfold dd
  rw [if_neg (by omega), hd, Lib.decDigits]
  by_cases h1 : m < 10
  · rw [dif_pos h1, if_pos (by omega), Nat.mod_eq_of_lt h1]; rfl
  · rw [dif_neg h1, if_neg (by omega)]

theorem dd_len (m : Nat) (h : (m : Int) ≤ 9223372036854775808) : (dd m).length ≤ 21 := by
  unfold dd
  split
  · simp
  · have h1 := Lib.itoa_length_le (-(m : Int)) (by omega) (by omega)
    rw [Lib.itoa_neg m (by omega)] at h1
    simp at h1
    omega

theorem conv_one (x : UInt8) (W : World) : (convert 22 9 (.slice (some ⟨W.heap.size, 0, none⟩) 1 1)).run Tryd.prog (W.alloc (.cells #[.int .u8 (x.toNat : Int)] 5)) = .ok (.string ⟨#[x]⟩) (W.alloc (.cells #[.int .u8 (x.toNat : Int)] 5)) := by
  have h := run_convert_bytes_back (P := Tryd.prog) (W.alloc (.cells #[.int .u8 (x.toNat : Int)] 5)) 22 9 5 ⟨W.heap.size, 0, none⟩ 1 [x] Tryd.underlying22 Tryd.underlying5 Tryd.underlying9 (fun j hj => by
    have : j = 0 := by simp at hj; exact hj
    subst this
    simp [Addr.add])
  simpa using h

def FmtDone (n : Int) (w : World) (e : Ending) (w' : World) : Prop := e = .returned (.string ⟨(Lib.itoa n).toArray⟩) ∧ Below w.heap.size w w'

theorem spec_fmt_pos (m0 : Nat) (hm0 : 0 < m0) (hm1 : (m0 : Int) ≤ 9223372036854775807) (w : World) :
    Calls Tryd.prog 19 #[.int .i64 (m0 : Int)] w (FmtDone m0 w) := by
  have hne : ((m0 : Int) == 0) = false := by simp; omega
  have H0 := Lib.hid hm0; clear hm0
  have hcv := conv_one
  have HCV := Lib.hid hcv; clear hcv
  have hge : ¬ (m0 : Int) < 0 := by omega
  go_enter Tryd.func19, Tryd.ntmps19
  go_wp2_with fail
  go_loopw [0, 4] (fun n s wr => ∃ (m : Nat) (t : ByteArray), (m : Int) ≤ m0 ∧ n = .int .i64 (m : Int) ∧ s = .string t ∧ dd m0 = dd m ++ t.data.toList ∧ Below w.heap.size w wr) (fun n _ _ => (intOf n).toNat)
  case atStart => exact ⟨m0, ⟨#[]⟩, by omega, rfl, rfl, by simp, Below.refl _ _⟩
  case round =>
    obtain ⟨m, t, hm, rfl, rfl, hd, hbel⟩ := hrel
    have HD := Lib.hid hd; clear hd
    have HBel := Lib.hid hbel; clear hbel
    by_cases hz : m = 0
    · subst hz
      go_wp2_with fail
      go_ret
      refine ⟨?_, HBel.out⟩
      have e : (⟨(Lib.itoa (m0 : Int)).toArray⟩ : ByteArray) = t := by
        have h := HD.out
        rw [Lib.itoa_nonneg]
        simp only [dd, if_neg (show ¬ m0 = 0 by have := H0.out; omega), if_true, List.nil_append] at h
        rw [h]
      rw [e]
      rfl
    · have hnz : ((m : Int) != 0) = true := by simp; omega
      have hr0 : 0 ≤ (m : Int) % 10 := by omega
      have hr1 : (m : Int) % 10 < 16 := by omega
      have hdig := Hex.dig_val (m % 10) (by omega)
      have HDG : Hid (((Hex.dig (m % 10)).toNat : Int) = if (m : Int) % 10 < 10 then 48 + (m : Int) % 10 else 87 + (m : Int) % 10) := Lib.hid (by simpa using hdig)
      clear hdig
      have HZ := Lib.hid hz; clear hz
      have hts : ¬ 9223372036854775807 < 1 + t.size := by
        have h1 := congrArg List.length HD.out
        have h2 := dd_len m0 (by omega)
        have h3 : t.data.toList.length = t.size := by simp
        simp only [List.length_append] at h1
        omega
      go_wp2_with fail
      refine (Hex.figure ((m : Int) % 10) (Hex.dig (m % 10)) hr0 hr1 HDG.out _).mono ?_; rintro e w' ⟨rfl, rfl⟩
      have hcv := HCV.out (Hex.dig (m % 10)) wr
      go_wp2_with fail
      go_roundw
      case rel =>
        refine ⟨m / 10, ⟨#[Hex.dig (m % 10)]⟩ ++ t, by omega, by go_num, rfl, ?_, HBel.out.alloc HBel.out.size _⟩
        rw [HD.out, dd_step m (by have := HZ.out; omega)]
        simp
      case measure => simp [intOf]; have := HZ.out; omega
theorem spec_fmt_neg (m0 : Nat) (hm0 : 0 < m0) (hm1 : (m0 : Int) ≤ 9223372036854775808) (w : World) :
    Calls Tryd.prog 19 #[.int .i64 (-(m0 : Int))] w (FmtDone (-(m0 : Int)) w) := by
  have hne : (-(m0 : Int) == 0) = false := by simp; omega
  have H0 := Lib.hid hm0; clear hm0
  have hcv := conv_one
  have HCV := Lib.hid hcv; clear hcv
  have hlt0 : -(m0 : Int) < 0 := by have := H0.out; omega
  go_enter Tryd.func19, Tryd.ntmps19
  go_wp2_with fail
  go_loopw [0, 4] (fun n s wr => ∃ (m : Nat) (t : ByteArray), (m : Int) ≤ m0 ∧ n = .int .i64 (-(m : Int)) ∧ s = .string t ∧ dd m0 = dd m ++ t.data.toList ∧ Below w.heap.size w wr) (fun n _ _ => (-(intOf n)).toNat)
  case atStart => exact ⟨m0, ⟨#[]⟩, by omega, rfl, rfl, by simp, Below.refl _ _⟩
  case round =>
    obtain ⟨m, t, hm, rfl, rfl, hd, hbel⟩ := hrel
    have HD := Lib.hid hd; clear hd
    have HBel := Lib.hid hbel; clear hbel
    have hts : ¬ 9223372036854775807 < 1 + t.size := by
      have h1 := congrArg List.length HD.out
      have h2 := dd_len m0 (by omega)
      have h3 : t.data.toList.length = t.size := by simp
      simp only [List.length_append] at h1
      omega
    by_cases hz : m = 0
    · subst hz
      go_wp2_with fail
      go_ret
      refine ⟨?_, HBel.out⟩
      have e : (⟨(Lib.itoa (-(m0 : Int))).toArray⟩ : ByteArray) = ⟨#[45]⟩ ++ t := by
        have h := HD.out
        rw [Lib.itoa_neg m0 (by have := H0.out; omega)]
        simp only [dd, if_neg (show ¬ m0 = 0 by have := H0.out; omega), if_true, List.nil_append] at h
        rw [h]
        exact ByteArray.ext (by simp)
      rw [e]
      rfl
    · have hnz : (-(m : Int) != 0) = true := by simp; omega
      have hr0 : 0 ≤ (m : Int) % 10 := by omega
      have hr1 : (m : Int) % 10 < 16 := by omega
      have hdig := Hex.dig_val (m % 10) (by omega)
      have HDG : Hid (((Hex.dig (m % 10)).toNat : Int) = if (m : Int) % 10 < 10 then 48 + (m : Int) % 10 else 87 + (m : Int) % 10) := Lib.hid (by simpa using hdig)
      clear hdig
      have HZ := Lib.hid hz; clear hz
      have fin : ∀ (w3 : World), Below w.heap.size w w3 → Below w.heap.size w (w3.alloc (.cells #[.int .u8 ((Hex.dig (m % 10)).toNat : Int)] 5)) := fun w3 hb => hb.alloc hb.size _
      have FIN := Lib.hid fin; clear fin
      have hcv := HCV.out (Hex.dig (m % 10)) wr
      have HV := Lib.hid hcv; clear hcv
      by_cases hd0 : (m : Int) % 10 = 0
      · have hdx : dd m = dd (m / 10) ++ [Hex.dig (m % 10)] := dd_step m (by have := HZ.out; omega)
        have HDX := Lib.hid hdx; clear hdx
        go_wp2_with fail
        refine (Hex.figure 0 (Hex.dig (m % 10)) (by omega) (by omega) (by rw [HDG.out, hd0]) _).mono ?_; rintro e w' ⟨rfl, rfl⟩
        have hcv := HV.out
        go_wp2_with fail
        go_roundw
        case rel =>
          refine ⟨m / 10, ⟨#[Hex.dig (m % 10)]⟩ ++ t, by omega, by go_num, rfl, ?_, FIN.out _ HBel.out⟩
          rw [HD.out, HDX.out]
          simp
        case measure => simp [intOf]; have := HZ.out; omega
      · have hdx : dd m = dd (m / 10) ++ [Hex.dig (m % 10)] := dd_step m (by have := HZ.out; omega)
        have HDX := Lib.hid hdx; clear hdx
        go_wp2_with fail
        refine (Hex.figure ((m : Int) % 10) (Hex.dig (m % 10)) hr0 hr1 HDG.out _).mono ?_; rintro e w' ⟨rfl, rfl⟩
        have hcv := HV.out
        go_wp2_with fail
        go_roundw
        case rel =>
          refine ⟨m / 10, ⟨#[Hex.dig (m % 10)]⟩ ++ t, by omega, by go_num, rfl, ?_, FIN.out _ HBel.out⟩
          rw [HD.out, HDX.out]
          simp
        case measure => simp [intOf]; have := HZ.out; omega

theorem spec_fmt (n : Int) (h0 : -9223372036854775808 ≤ n) (h1 : n ≤ 9223372036854775807) (w : World) :
    Calls Tryd.prog 19 #[.int .i64 n] w (FmtDone n w) := by
  by_cases hp : 0 < n
  · obtain ⟨m, rfl⟩ := Int.eq_ofNat_of_zero_le (show 0 ≤ n by omega)
    exact spec_fmt_pos m (by omega) h1 w
  · by_cases hn : n < 0
    · have h := spec_fmt_neg n.natAbs (by omega) (by omega) w
      have e : -(n.natAbs : Int) = n := by omega
      rwa [e] at h
    · obtain rfl : n = 0 := by omega
      have hz : Lib.itoa 0 = [48] := by
        have h := Lib.itoa_nonneg 0
        rw [Lib.decDigits_one (by decide)] at h
        exact h
      go_enter Tryd.func19, Tryd.ntmps19
      have HZ := Lib.hid hz; clear hz
      go_wp2
      go_ret
      exact ⟨by rw [HZ.out]; rfl, Below.refl _ _⟩
end Go.Proofs.YtnfcieilchbbbaaDoor.Fmt
