/- A number's digits in plain lists, and the text of one byte. -/
import Derived.Test.YtnfcieilchbbbaaDoorHex
import Derived.Lib.ItoaMem
import Derived.Lib.ItoaLen
namespace Go.Proofs.YtnfcieilchbbbaaDoor.Fmt
open Go.ChangeShapes Go.WideShapes Go.ChangeAt Go.RowKit

/-- The digits of a number; none of 0. -/
def dd (m : Nat) : List UInt8 := if m = 0 then [] else Lib.decDigits m
theorem dd_step (m : Nat) (h : 0 < m) : dd m = dd (m / 10) ++ [Hex.dig (m % 10)] := by
  have hd : Hex.dig (m % 10) = UInt8.ofNat (48 + m % 10) := by unfold Hex.dig; rw [if_pos (by omega)]
  unfold dd
  rw [if_neg (by omega), hd, Lib.decDigits]
  by_cases h1 : m < 10
  · rw [dif_pos h1, if_pos (by omega), Nat.mod_eq_of_lt h1]; rfl
  · rw [dif_neg h1, if_neg (by omega)]

theorem dd_len (m : Nat) (h : (m : Int) ≤ 9223372036854775808) : (dd m).length ≤ 21 := by
  unfold dd
  split
  · simp
  · have h1 := Lib.itoa_length_le (-(m : Int)) (by omega) (by omega)
    rw [Lib.itoa_neg m (by omega)] at h1
    simp at h1
    omega

theorem conv_one (x : UInt8) (W : World) : (convert 22 9 (.slice (some ⟨W.heap.size, 0, none⟩) 1 1)).run Tryd.prog (W.alloc (.cells #[.int .u8 (x.toNat : Int)] 5)) = .ok (.string ⟨#[x]⟩) (W.alloc (.cells #[.int .u8 (x.toNat : Int)] 5)) := by
  have h := run_convert_bytes_back (P := Tryd.prog) (W.alloc (.cells #[.int .u8 (x.toNat : Int)] 5)) 22 9 5 ⟨W.heap.size, 0, none⟩ 1 [x] Tryd.underlying22 Tryd.underlying5 Tryd.underlying9 (fun j hj => by
    have : j = 0 := by simp at hj; exact hj
    subst this
    simp [Addr.add])
  simpa using h

theorem conv_val (v : Int) (x : UInt8) (h : (x.toNat : Int) = v) (W : World) : (convert 22 9 (.slice (some ⟨W.heap.size, 0, none⟩) 1 1)).run Tryd.prog (W.alloc (.cells #[.int .u8 v] 5)) = .ok (.string ⟨#[x]⟩) (W.alloc (.cells #[.int .u8 v] 5)) := by
  subst h
  exact conv_one x W

end Go.Proofs.YtnfcieilchbbbaaDoor.Fmt
