/- The model's digit and what EncodeHex leaves, as contracts and plain lemmas. -/
import Derived.Test.YtnfcieilchbbbaaDoorHex
namespace Go.Proofs.YtnfcieilchbbbaaDoor.Hex
open Go.ChangeShapes Go.WideShapes Go.ChangeAt Go.RowKit

theorem ret_u8 {a b : Int} (h : a = b) : Ending.returned (.int .u8 a) = .returned (.int .u8 b) := by rw [h]

theorem figure (m : Int) (x : UInt8) (h0 : 0 ≤ m) (h1 : m < 16) (hx : (x.toNat : Int) = if m < 10 then 48 + m else 87 + m) (w : World) :
    Calls Tryd.prog 32 #[.int .i64 m] w fun e w' => e = .returned (.int .u8 (x.toNat : Int)) ∧ w = w' := by
  have HX := Lib.hid hx; clear hx
  by_cases h : m < 10
  · have e : (x.toNat : Int) = 48 + m := by rw [HX.out, if_pos h]
    go_enter Tryd.func32, Tryd.ntmps32
    have HE := Lib.hid e; clear e
    go_wp2
    go_ret
    exact ⟨ret_u8 (by have := HE.out; omega), rfl⟩
  · have e : (x.toNat : Int) = 87 + m := by rw [HX.out, if_neg h]
    go_enter Tryd.func32, Tryd.ntmps32
    have HE := Lib.hid e; clear e
    go_wp2
    go_ret
    exact ⟨ret_u8 (by have := HE.out; omega), rfl⟩

def EncDone (s : ByteArray) (w : World) (e : Ending) (w' : World) : Prop :=
  e = .returned (.tuple #[.string ⟨(hexOf s.data.toList).toArray⟩, .bool true]) ∧ Below w.heap.size w w'

theorem info5 : (Tryd.prog.info? 5).map (fun i => (i.zero, i.size, i.bytes)) = some (some (.int .u8 0), 1, 1) := by kernel_rfl

theorem enc_step (s : ByteArray) (k : Nat) (h : k < s.size) :
    Lib.byteCells (hexOf (s.data.toList.take (k + 1))) = Lib.byteCells (hexOf (s.data.toList.take k)) ++ [.int .u8 ((dig (s[k].toNat / 16)).toNat : Int), .int .u8 ((dig (s[k].toNat % 16)).toNat : Int)] := by
  rw [take_snoc s k h, hexOf_append, Lib.byteCells_append]
  rfl

end Go.Proofs.YtnfcieilchbbbaaDoor.Hex
