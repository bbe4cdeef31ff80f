/- The model's DrawFormatInt, as a contract: some int.
   Conditions: the bytes that are drawn from are at most 1048576. -/
import Derived.Test.YtnfcieilchbbbaaDoorDrawInt
namespace Go.Proofs.YtnfcieilchbbbaaDoor.Draw
open Go.ChangeShapes Go.WideShapes Go.ChangeAt Go.RowKit

def NumSome (B : Nat) (w : World) (e : Ending) (w' : World) : Prop := ∃ n : Int, -9223372036854775808 ≤ n ∧ n ≤ 9223372036854775807 ∧ e = .returned (.int .i64 n) ∧ Below B w w'

theorem draw_fmt {B : Nat} {w : World} {a : Option Addr} {len cap : Nat} (hlen : len ≤ 1048576) (hy : Bytes B w a len) (hB : B ≤ w.heap.size) :
    Calls Tryd.prog 13 #[.slice a len cap] w (NumSome B w) := by
  have HY := Lib.hid hy; clear hy
  have HL := Lib.hid hlen; clear hlen
  have HB := Lib.hid hB; clear hB
  go_enter Tryd.func13, Tryd.ntmps13
  go_wp2_with fail
  refine (new_any HL.out HY.out HB.out).mono ?_; rintro e w1 ⟨rfl, hC1, hg1, hlt1⟩
  obtain ⟨C, hCe⟩ : ∃ C, C = w.heap.size := ⟨_, rfl⟩
  rw [← hCe] at hC1
  have HC := Lib.hid hCe
  rw [← hCe]
  clear hCe
  have HLT := Lib.hid hlt1; clear hlt1
  go_wp2_with fail
  refine (once_any 3 (by decide) hC1).mono ?_; rintro e w2 ⟨x, rfl, hC2, hg2⟩
  cases x
  · go_wp2_with fail
    refine (number_any hC2).mono ?_; rintro e w3 ⟨y, hy0, hy1, rfl, hC3, hg3⟩
    go_wp2_with fail
    go_ret
    exact ⟨y, hy0, hy1, rfl, below_of HB.out HC.out hg1 (grown_trans hg2 hg3)⟩
  · go_wp2_with fail
    refine (below_any 1000000 (by decide) hC2).mono ?_; rintro e w3 ⟨y, hy0, hy1, rfl, hC3, hg3⟩
    have HY1 := Lib.hid hy1; clear hy1
    go_wp2_with fail
    refine (below_any 2000000 (by decide) hC3).mono ?_; rintro e w4 ⟨z, hz0, hz1, rfl, hC4, hg4⟩
    have HZ1 := Lib.hid hz1; clear hz1
    have hz2 : z ≤ 2000000 := by have := HZ1.out; omega
    go_wp2_with fail
    go_ret
    exact ⟨_, (wrap_bounds _).1, (wrap_bounds _).2, rfl, below_of HB.out HC.out hg1 (grown_trans (grown_trans hg2 hg3) hg4)⟩
end Go.Proofs.YtnfcieilchbbbaaDoor.Draw
