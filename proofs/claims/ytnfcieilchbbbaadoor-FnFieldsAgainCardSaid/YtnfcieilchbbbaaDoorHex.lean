/- Hexadecimal text in plain lists, and what a row of bytes that a call owns gives when it is turned into a string. Plain lemmas; no condition of the program's. -/
import Derived.Test.YtnfcieilchbbbaaDoorChecked
import Derived.WalkKit
import Derived.ProofKit
import Derived.OpenShut
import Derived.BigQuiet
import Derived.Deep.QuietTactic
import Derived.WalkSmall
import Derived.Handy
import Derived.Lib.Hide
import Derived.Deep.RegionHeld3
import Derived.Deep.AppendLies
import Derived.Lib.BufferRead
import Derived.ShutString
namespace Go.Proofs.YtnfcieilchbbbaaDoor.Hex
open Go.ChangeShapes Go.WideShapes Go.ChangeAt Go.RowKit

/-- A digit, as a byte. -/
def dig (n : Nat) : UInt8 := if n < 10 then UInt8.ofNat (48 + n) else UInt8.ofNat (87 + n)
/-- The text of a list of bytes. -/
def hexOf (l : List UInt8) : List UInt8 := l.flatMap fun b => [dig (b.toNat / 16), dig (b.toNat % 16)]

theorem dig_val (n : Nat) (h : n < 16) : ((dig n).toNat : Int) = if (n : Int) < 10 then 48 + (n : Int) else 87 + (n : Int) := by
  unfold dig
  by_cases h1 : n < 10
  · rw [if_pos h1, if_pos (by omega)]
    simp [UInt8.toNat_ofNat']; omega
  · rw [if_neg h1, if_neg (by omega)]
    simp [UInt8.toNat_ofNat']; omega

theorem hexOf_length (l : List UInt8) : (hexOf l).length = 2 * l.length := by
  induction l with
  | nil => rfl
  | cons a l ih => simp [hexOf] at ih ⊢; omega

theorem hexOf_append (a b : List UInt8) : hexOf (a ++ b) = hexOf a ++ hexOf b := by simp [hexOf]

theorem take_snoc (s : ByteArray) (k : Nat) (h : k < s.size) : s.data.toList.take (k + 1) = s.data.toList.take k ++ [s[k]] := by
  rw [List.take_succ_eq_append_getElem (by simpa using h)]; rfl

/-- 'string(b)' of a row that the call owns. -/
theorem conv_own {P : Program} {w : World} {base : Nat} {e : TypeId} {v : Value} {n : Nat} {l : List UInt8} {src dst : TypeId} (hs : P.underlying src = some (.slice e)) (he : P.underlying e = some (.int .u8)) (hd : P.underlying dst = some .string)
    (h : w.ownsRow base e 1 v n (Lib.byteCells l)) : (convert src dst v).run P w = .ok (.string ⟨l.toArray⟩) w := by
  have hn : l.length = n := by have := h.1; rw [Lib.byteCells_length] at this; omega
  rcases h.2 with ⟨rfl, h0⟩ | ⟨g, cap, cur, rfl, hb, hg, hnc, hcm, hcs, htake⟩
  · have : l = [] := by cases l with | nil => rfl | cons a t => simp at hn; omega
    subst this
    exact Lib.run_convert_nil_bytes w src dst e 0 hs he hd
  · subst hn
    exact run_convert_bytes_back w src dst e _ cap l hs he hd (Lib.bytes_of_row hg (by simpa using htake))
end Go.Proofs.YtnfcieilchbbbaaDoor.Hex
