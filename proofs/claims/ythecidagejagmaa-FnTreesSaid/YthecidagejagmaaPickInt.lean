/- The reference model's l01PickInt, as a contract: what it answers is an int, and it writes its own cursor alone.
   Conditions: the cursor is one that l01New has made in the same call. -/
import Derived.Test.YthecidagejagmaaDrawOnce
namespace Go.Proofs.Ythecidagejagmaa.Draw
open Go.ChangeShapes Go.WideShapes Go.ChangeAt Go.RowKit

theorem pick_int {B : Nat} {w : World} {C : Nat} {a : Option Addr} {len cap : Nat} {g m mc : Nat} (hm : 0 < m) (hm1 : (m : Int) ≤ 1000) (hg : g ≠ C)
    (hl : ∀ j, j < m → ∃ v : Int, -9223372036854775808 ≤ v ∧ v ≤ 9223372036854775807 ∧ w.cell? ⟨g, j, none⟩ = some (.int .i64 v)) (hC : Cur B w C a len cap) :
    Calls Try.prog 40 #[.pointer (some ⟨C, 0, none⟩), .slice (some ⟨g, 0, none⟩) m mc] w (IntSome B C a len cap w) := by
  have HL := Lib.hid hl; clear hl
  have HM := Lib.hid hm; clear hm
  go_enter Try.func40, Try.ntmps40
  go_wp2_with fail
  refine (below_any m (by omega) hC).mono ?_; rintro e w1 ⟨x, hx0, hx1, rfl, hC1, hg1⟩
  have hx2 : x < m := by have := HM.out; omega
  obtain ⟨k, rfl⟩ := Int.eq_ofNat_of_zero_le hx0
  obtain ⟨v, hv0, hv1, hv⟩ := HL.out k (by omega)
  have hv' : w1.cell? ⟨g, k, none⟩ = some (.int .i64 v) := hg1.cell hv (by simp; exact hg)
  have HX := Lib.hid hx1; clear hx1
  go_wp2
  go_ret
  exact ⟨v, hv0, hv1, rfl, hC1, hg1⟩

end Go.Proofs.Ythecidagejagmaa.Draw
