/- The program's LogTwo and the reference model's, as contracts: one less than the number of bits.
   Conditions: the number is an int. -/
import Derived.Test.YtpcmmkamonmhfaaDraw
import Derived.Test.YtpcmmkamonmhfaaShelf
import Derived.Lib.ItoaNum
namespace Go.Proofs.Ytpcmmkamonmhfaa.Draw
open Go.ChangeShapes Go.WideShapes Go.ChangeAt Go.RowKit

/-- The number of bits less one; -1 where no bit is. -/
def log (n : Int) : Int := (Lib.bitLen n.toNat : Int) - 1

theorem len_most {n : Nat} (h : n < 2 ^ 63) : Lib.bitLen n ≤ 63 := by
  by_cases h0 : n = 0
  · subst h0; decide
  · obtain ⟨h1, h2, h3⟩ := Lib.bitLenAux_bounds 64 n (by omega) h0
    rw [show Lib.bitLen n = Lib.bitLenAux 64 n from rfl]
    rcases Nat.lt_or_ge 63 (Lib.bitLenAux 64 n) with h4 | h4
    · have : 2 ^ 63 ≤ 2 ^ (Lib.bitLenAux 64 n - 1) := Nat.pow_le_pow_right (by decide) (by omega)
      omega
    · exact h4

theorem log_is (n : Int) (hn : n ≤ 9223372036854775807) (w : World) :
    Calls Try.prog 17 #[.int .i64 n] w fun e w' => e = .returned (.int .i64 (log n)) ∧ w' = w := by
  by_cases h0 : n ≤ 0
  · rw [show log n = -1 by unfold log; rw [Int.toNat_of_nonpos h0]; rfl]
    go_enter Try.func17, Try.ntmps17
    go_wp2_with fail
    go_ret
    exact ⟨rfl, rfl⟩
  · have hl : (Lib.bitLen n.toNat : Int) ≤ 63 := by have := len_most (n := n.toNat) (by omega); omega
    have hl0 : 0 ≤ (Lib.bitLen n.toNat : Int) := by omega
    unfold log
    generalize hy : (Lib.bitLen n.toNat : Int) = y at hl hl0
    have hc := fun u => Try.bits_Len n u (by omega) (by omega)
    rw [hy] at hc
    have HC := Lib.hid hc
    clear hc hy
    go_enter Try.func17, Try.ntmps17
    go_wp2_with fail
    refine (HC.out _).mono ?_; rintro e w1 ⟨rfl, rfl⟩
    go_wp2_with fail
    go_ret
    exact ⟨rfl, rfl⟩

theorem spec_log (n : Int) (hn : n ≤ 9223372036854775807) (w : World) :
    Calls Try.prog 24 #[.int .i64 n] w fun e w' => e = .returned (.int .i64 (log n)) ∧ w' = w := by
  by_cases h0 : n ≤ 0
  · rw [show log n = -1 by unfold log; rw [Int.toNat_of_nonpos h0]; rfl]
    go_enter Try.func24, Try.ntmps24
    go_wp2
    go_loop [0, 3] (fun a b => a = .int .i64 n ∧ b = .int .i64 (-1)) (fun _ _ => 0)
    case atStart => exact ⟨rfl, rfl⟩
    case round =>
      obtain ⟨rfl, rfl⟩ := hrel
      go_wp2
      go_ret
      exact ⟨rfl, rfl⟩
  · have hl : (Lib.bitLen n.toNat : Int) ≤ 63 := by have := len_most (n := n.toNat) (by omega); omega
    have HL := Lib.hid hl; clear hl
    have HN := Lib.hid hn; clear hn
    go_enter Try.func24, Try.ntmps24
    go_wp2
    go_loop [0, 3] (fun a b => ∃ m k : Int, a = .int .i64 m ∧ b = .int .i64 k ∧ 0 ≤ m ∧ m ≤ 9223372036854775807 ∧ -1 ≤ k ∧ k ≤ 62 ∧ Hid (k + (Lib.bitLen m.toNat : Int) = log n)) (fun a _ => (intOf a).toNat)
    case atStart => exact ⟨n, -1, rfl, rfl, by omega, HN.out, by omega, by omega, Lib.hid (by unfold log; omega)⟩
    case round =>
      obtain ⟨m, k, rfl, rfl, hm0, hm1, hk0, hk1, HR⟩ := hrel
      by_cases hm : 0 < m
      · have hh : (Lib.bitLen m.toNat : Int) = 1 + (Lib.bitLen (m / 2).toNat : Int) := by
          rw [Lib.bitLen_half m.toNat (by omega) (by omega), show (m / 2).toNat = m.toNat / 2 by omega]; omega
        have hk2 : k ≤ 61 := by have := HR.out; have := HL.out; unfold log at *; omega
        have HH := Lib.hid hh; clear hh
        go_wp2
        go_round
        case rel => exact ⟨m / 2, k + 1, by go_num, by go_num, by omega, by omega, by omega, by omega, Lib.hid (by have := HR.out; have := HH.out; omega)⟩
        case measure => simp [intOf]; omega
      · obtain rfl : m = 0 := by omega
        have hk : k = log n := by have := HR.out; rw [show Lib.bitLen (0 : Int).toNat = 0 by decide] at this; omega
        go_wp2
        go_ret
        exact ⟨rfl, rfl⟩
end Go.Proofs.Ytpcmmkamonmhfaa.Draw
