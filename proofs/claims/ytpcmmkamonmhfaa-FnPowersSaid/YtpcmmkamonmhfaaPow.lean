/- Powers of two: their bits, their logarithm; the program's SplitEven and IsPowerOfTwo, as contracts.
   Conditions: as stated. -/
import Derived.Test.YtpcmmkamonmhfaaLog
namespace Go.Proofs.Ytpcmmkamonmhfaa.Draw
open Go.ChangeShapes Go.WideShapes Go.ChangeAt Go.RowKit

theorem pow_len : ∀ k : Fin 60, Lib.bitLen (2 ^ k.val) = k.val + 1 := by decide +kernel
theorem pow_and : ∀ k : Fin 60, bits .and .i64 (2 ^ k.val) (2 ^ k.val - 1) = 0 := by decide +kernel
theorem pred_and : ∀ k : Fin 60, 2 ≤ k.val → bits .and .i64 (2 ^ k.val - 1) (2 ^ k.val - 1 - 1) ≠ 0 := by decide +kernel
theorem pow_most : ∀ k : Fin 60, (2 : Int) ^ k.val ≤ 576460752303423488 ∧ (1 : Int) ≤ 2 ^ k.val ∧ (2 ≤ k.val → (4 : Int) ≤ 2 ^ k.val) := by decide +kernel

theorem log_pow (k : Nat) (h : k < 60) : log (2 ^ k) = k := by
  unfold log
  rw [show ((2 : Int) ^ k).toNat = 2 ^ k by rw [show ((2 : Int) ^ k) = ((2 ^ k : Nat) : Int) by norm_cast]; rfl, show Lib.bitLen (2 ^ k) = k + 1 from pow_len ⟨k, h⟩]
  omega

/-- Where the logarithm of a small number lies. -/
theorem log_range (z : Int) (h0 : 1 ≤ z) (h1 : z ≤ 10000) : ∃ m : Nat, log z = m ∧ m ≤ 13 ∧ (2 : Int) ^ m ≤ z ∧ z < 2 ^ (m + 1) := by
  obtain ⟨b1, b2, b3⟩ := Lib.bitLenAux_bounds 64 z.toNat (by omega) (by omega)
  have e : Lib.bitLenAux 64 z.toNat = Lib.bitLen z.toNat := rfl
  rw [e] at b1 b2 b3
  generalize hL : Lib.bitLen z.toNat = L at b1 b2 b3
  obtain ⟨m, rfl⟩ : ∃ m, L = m + 1 := ⟨L - 1, by omega⟩
  have hm : m ≤ 13 := by
    rcases Nat.lt_or_ge 13 m with h | h
    · have : 2 ^ 14 ≤ 2 ^ m := Nat.pow_le_pow_right (by decide) h
      rw [Nat.add_sub_cancel] at b2
      omega
    · exact h
  refine ⟨m, by unfold log; rw [hL]; omega, hm, ?_, ?_⟩
  · have e1 : ((2 : Int) ^ m) = ((2 ^ m : Nat) : Int) := by norm_cast
    rw [e1]; rw [Nat.add_sub_cancel] at b2; omega
  · have e1 : ((2 : Int) ^ (m + 1)) = ((2 ^ (m + 1) : Nat) : Int) := by norm_cast
    rw [e1]; omega

theorem split_is (n : Int) (h0 : 0 ≤ n) (h1 : n ≤ 9223372036854775807) (w : World) :
    Calls Try.prog 16 #[.int .i64 n] w fun e w' => e = .returned (.tuple #[.int .i64 (n - n / 2), .int .i64 (n / 2)]) ∧ w' = w := by
  go_enter Try.func16, Try.ntmps16
  go_wp2
  go_ret2
  exact ⟨rfl, rfl⟩

theorem power_yes (n : Int) (h0 : 0 < n) (h1 : n ≤ 9223372036854775807) (h : bits .and .i64 n (n - 1) = 0) (w : World) :
    Calls Try.prog 18 #[.int .i64 n] w fun e w' => e = .returned (.bool true) ∧ w' = w := by
  go_enter Try.func18, Try.ntmps18
  go_wp2
  go_ret
  exact ⟨by simp, rfl⟩

theorem power_no (n : Int) (h0 : 0 < n) (h1 : n ≤ 9223372036854775807) (h : bits .and .i64 n (n - 1) ≠ 0) (w : World) :
    Calls Try.prog 18 #[.int .i64 n] w fun e w' => e = .returned (.bool false) ∧ w' = w := by
  go_enter Try.func18, Try.ntmps18
  go_wp2
  go_ret
  exact ⟨by simp [h], rfl⟩
end Go.Proofs.Ytpcmmkamonmhfaa.Draw
