/- Plain lists: a decimal numeral is made of digits, and is parsed to its number. -/
import Derived.Test.YtnfcieilchbbbaaDoorChecked
import Derived.WalkKit
import Derived.Lib.ItoaMem
import Derived.Lib.AtoiAllCases
namespace Go.Proofs.YtnfcieilchbbbaaDoor.Fmt
open Go.RowKit

theorem digits_mem (u : Nat) : ∀ c ∈ Lib.decDigits u, 48 ≤ c.toNat ∧ c.toNat ≤ 57 := by
  induction u using Nat.strongRecOn with
  | _ u ih =>
    intro c hc
    rw [Lib.decDigits] at hc
    by_cases h : u < 10
    · rw [dif_pos h] at hc
      simp at hc
      subst hc
      simp [UInt8.toNat_ofNat']
      omega
    · rw [dif_neg h] at hc
      rcases List.mem_append.1 hc with hc | hc
      · exact ih (u / 10) (by omega) c hc
      · simp at hc
        subst hc
        simp [UInt8.toNat_ofNat']
        omega

theorem digit_val (d : Nat) (h : d < 10) : (UInt8.ofNat (48 + d)).toNat = 48 + d := by
  simp [UInt8.toNat_ofNat']; omega

theorem parse_dec (u : Nat) : u ≤ 1000000000000 → ∀ r, Lib.parseUint10 0 (Lib.decDigits u ++ r) = Lib.parseUint10 u r := by
  induction u using Nat.strongRecOn with
  | _ u ih =>
    intro hu r
    have step : ∀ (acc d : Nat), acc ≤ 1000000000000 → d < 10 → Lib.parseUint10 acc (UInt8.ofNat (48 + d) :: r) = Lib.parseUint10 (acc * 10 + d) r := by
      intro acc d ha hd
      rw [Lib.parseUint10, digit_val d hd, if_pos (by omega), if_neg (by omega), if_neg (by omega)]
      congr 1; omega
    rw [Lib.decDigits]
    by_cases h : u < 10
    · rw [dif_pos h]
      show Lib.parseUint10 0 (UInt8.ofNat (48 + u) :: r) = _
      rw [step 0 u (by omega) h]
      congr 1; omega
    · rw [dif_neg h, List.append_assoc, ih (u / 10) (by omega) (by omega)]
      show Lib.parseUint10 (u / 10) (UInt8.ofNat (48 + u % 10) :: r) = _
      rw [step (u / 10) (u % 10) (by omega) (by omega)]
      congr 1; omega

theorem dec_ne (u : Nat) : Lib.decDigits u ≠ [] := by
  rw [Lib.decDigits]
  by_cases h : u < 10
  · rw [dif_pos h]; simp
  · rw [dif_neg h]; simp

theorem atoi_dec (u : Nat) (hu : u ≤ 1000000000) : Lib.atoiAll (Lib.decDigits u) = .ok (u : Int) := by
  have hp : Lib.parseMag (Lib.decDigits u) = .ok u := by
    unfold Lib.parseMag
    rw [if_neg (dec_ne u)]
    have h := parse_dec u (by omega) []
    rw [List.append_nil] at h
    rw [h]; rfl
  have hm := digits_mem u
  cases hl : Lib.decDigits u with
  | nil => exact absurd hl (dec_ne u)
  | cons c r =>
    have hc := hm c (by rw [hl]; simp)
    rw [hl] at hp
    rw [Lib.atoiAll_plain c r (by omega) (by omega), hp, Lib.signless, if_neg (by omega)]

/-- The value of a list of digits. -/
def pv (acc : Nat) (l : List UInt8) : Nat := l.foldl (fun a c => 10 * a + (c.toNat - 48)) acc
theorem pv_append (a b : List UInt8) (acc : Nat) : pv acc (a ++ b) = pv (pv acc a) b := by unfold pv; rw [List.foldl_append]
theorem pv_one (acc : Nat) (c : UInt8) : pv acc [c] = 10 * acc + (c.toNat - 48) := rfl
theorem pv_dec (u : Nat) : pv 0 (Lib.decDigits u) = u := by
  induction u using Nat.strongRecOn with
  | _ u ih =>
    rw [Lib.decDigits]
    by_cases h : u < 10
    · rw [dif_pos h]
      rw [pv_one, digit_val u h]
      omega
    · rw [dif_neg h, pv_append, ih (u / 10) (by omega)]
      rw [pv_one, digit_val (u % 10) (by omega)]
      omega
theorem itoa_ne (n : Int) : (Lib.itoa n).isEmpty = false := by
  unfold Lib.itoa
  split
  · rfl
  · cases h : Lib.decDigits n.toNat with
    | nil => exact absurd h (dec_ne _)
    | cons a r => rfl

/-- Only a number of the range has a numeral of the range. -/
theorem itoa_dec (n : Int) (u : Nat) (hu : u ≤ 1000000000) (h : Lib.itoa n = Lib.decDigits u) : 0 ≤ n ∧ n ≤ 1000000000 := by
  unfold Lib.itoa at h
  split at h
  · have hm := digits_mem u 45 (by rw [← h]; simp)
    have : (45 : UInt8).toNat = 45 := rfl
    omega
  · have e := congrArg (pv 0) h
    rw [pv_dec, pv_dec] at e
    omega
end Go.Proofs.YtnfcieilchbbbaaDoor.Fmt
