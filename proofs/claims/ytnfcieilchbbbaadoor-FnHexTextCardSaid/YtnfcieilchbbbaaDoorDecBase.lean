/- What DecodeHex leaves, in plain lists: where every pair of characters is a pair of digits, the bytes; else nothing. -/
import Derived.Test.YtnfcieilchbbbaaDoorHex
import Derived.Lib.Bytealg
namespace Go.Proofs.YtnfcieilchbbbaaDoor.Hex
open Go.ChangeShapes Go.WideShapes Go.ChangeAt Go.RowKit

/-- A digit's value, or -1. -/
def hv (c : UInt8) : Int := if 48 ≤ c.toNat ∧ c.toNat ≤ 57 then (c.toNat : Int) - 48 else if 97 ≤ c.toNat ∧ c.toNat ≤ 102 then (c.toNat : Int) - 97 + 10 else -1
theorem hv_range (c : UInt8) : -1 ≤ hv c ∧ hv c ≤ 15 := by unfold hv; split <;> (try split) <;> omega
/-- Character i of a string; 0 behind its end. -/
def at_ (s : ByteArray) (i : Nat) : UInt8 := s.data.toList.getD i 0
theorem at_eq (s : ByteArray) (i : Nat) (h : i < s.size) : s[i] = at_ s i := by
  unfold at_; rw [List.getD_eq_getElem?_getD, List.getElem?_eq_getElem (by simpa using h)]; rfl
def okAt (s : ByteArray) (j : Nat) : Prop := 0 ≤ hv (at_ s (2 * j)) ∧ 0 ≤ hv (at_ s (2 * j + 1))
def byteAt (s : ByteArray) (j : Nat) : UInt8 := UInt8.ofNat (16 * hv (at_ s (2 * j)) + hv (at_ s (2 * j + 1))).toNat
def decOf (s : ByteArray) (k : Nat) : List UInt8 := (List.range k).map (byteAt s)
theorem decOf_snoc (s : ByteArray) (k : Nat) : decOf s (k + 1) = decOf s k ++ [byteAt s k] := by simp [decOf, List.range_succ]
theorem byteAt_val (s : ByteArray) (j : Nat) (x y : Int) (hx : hv (at_ s (2 * j)) = x) (hy : hv (at_ s (2 * j + 1)) = y) (h0 : 0 ≤ x) (h1 : 0 ≤ y) : ((byteAt s j).toNat : Int) = 16 * x + y := by
  have a := hv_range (at_ s (2 * j))
  have b := hv_range (at_ s (2 * j + 1))
  unfold byteAt
  rw [hx, hy]
  rw [hx] at a
  rw [hy] at b
  simp [UInt8.toNat_ofNat']
  omega

def DecDone (s : ByteArray) (w : World) (e : Ending) (w' : World) : Prop :=
  ((∀ j, j < s.size / 2 → okAt s j) → e = .returned (.tuple #[.string ⟨(decOf s (s.size / 2)).toArray⟩, .bool true])) ∧
  (¬ (∀ j, j < s.size / 2 → okAt s j) → e = .returned (.tuple #[.string ⟨#[]⟩, .bool false])) ∧ Below w.heap.size w w'

theorem ret_i64 {a b : Int} (h : a = b) : Ending.returned (.int .i64 a) = .returned (.int .i64 b) := by rw [h]

theorem info5' : (Tryd.prog.info? 5).map (fun i => (i.zero, i.size, i.bytes)) = some (some (.int .u8 0), 1, 1) := by kernel_rfl

end Go.Proofs.YtnfcieilchbbbaaDoor.Hex
