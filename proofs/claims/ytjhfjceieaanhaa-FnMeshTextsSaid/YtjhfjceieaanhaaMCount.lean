/- strings.Count at a separator of one byte, at this program: how often the byte occurs. -/
import Derived.Test.YtjhfjceieaanhaaMCell
import Derived.Lib.Bytealg
import Derived.Laws.Externs
namespace Go.Proofs.Ytjhfjceieaanhaa.Mesh
open Go.ChangeShapes Go.WideShapes Go.ChangeAt Go.RowKit

set_option maxHeartbeats 1000000 in
theorem count_is (s : ByteArray) (c : UInt8) {m : Nat} (hm : s.data.toList.count c = m) (w : World) :
    Calls Try.prog 44 #[.string s, .string ⟨#[c]⟩] w fun e w' => e = .returned (.int .i64 m) ∧ w' = w := by
  go_enter Try.func44, Try.ntmps44
  go_wp2
  have hrun : (callFunc 57 #[.string s, .int .u8 (((⟨#[c]⟩ : ByteArray)[0]'(by show 0 < 1; decide)).toNat : Int)]).run Try.prog w = .ok (.value (.int .i64 m)) w := by
    rw [run_callFunc_extern Try.func57 (by kernel_rfl) (by kernel_rfl) (by kernel_rfl) (e := Extern.BytealgCount.count) (by kernel_rfl), Lib.run_countString]
    have hc : (((⟨#[c]⟩ : ByteArray)[0]'(by show 0 < 1; decide)).toNat : Int).toNat.toUInt8 = c := by
      show ((c.toNat : Int)).toNat.toUInt8 = c
      simp
    rw [hc, ← hm]
    rfl
  rw [hrun, Oper.upon_value]
  go_wp2
  go_ret
  exact ⟨rfl, rfl⟩
end Go.Proofs.Ytjhfjceieaanhaa.Mesh
