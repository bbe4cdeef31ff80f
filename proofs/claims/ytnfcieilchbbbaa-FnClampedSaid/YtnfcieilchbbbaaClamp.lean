/- The program's Clamp and the model's DrawClamp, as contracts.
   Conditions: the bytes that are drawn from are at most 1048576. -/
import Derived.Test.YtnfcieilchbbbaaDrawInt
namespace Go.Proofs.Ytnfcieilchbbbaa.Draw
open Go.ChangeShapes Go.WideShapes Go.ChangeAt Go.RowKit

theorem clamp_is (n a b x : Int) (h : x = max a (min n b)) (w : World) :
    Calls Try.prog 10 #[.int .i64 n, .int .i64 a, .int .i64 b] w fun e w' => e = .returned (.int .i64 x) ∧ w = w' := by
  have H := Lib.hid h; clear h
  have ret : ∀ y : Int, y = x → Ending.returned (.int .i64 y) = .returned (.int .i64 x) := fun y e => by rw [e]
  by_cases h1 : n ≤ b
  · by_cases h2 : a ≤ n
    · go_enter Try.func10, Try.ntmps10
      go_wp2
      all_goals go_ret
      all_goals exact ⟨ret _ (by have := H.out; omega), rfl⟩
    · go_enter Try.func10, Try.ntmps10
      go_wp2
      all_goals go_ret
      all_goals exact ⟨ret _ (by have := H.out; omega), rfl⟩
  · by_cases h2 : a ≤ b
    · go_enter Try.func10, Try.ntmps10
      go_wp2
      all_goals go_ret
      all_goals exact ⟨ret _ (by have := H.out; omega), rfl⟩
    · go_enter Try.func10, Try.ntmps10
      go_wp2
      all_goals go_ret
      all_goals exact ⟨ret _ (by have := H.out; omega), rfl⟩

def ClampSome (B : Nat) (w : World) (e : Ending) (w' : World) : Prop :=
  ∃ n a b : Int, e = .returned (.tuple #[.int .i64 n, .int .i64 a, .int .i64 b]) ∧ Below B w w'

theorem draw_clamp {B : Nat} {w : World} {a : Option Addr} {len cap : Nat} (hlen : len ≤ 1048576) (hy : Bytes B w a len) (hB : B ≤ w.heap.size) :
    Calls Try.prog 9 #[.slice a len cap] w (ClampSome B w) := by
  have HY := Lib.hid hy; clear hy
  have HL := Lib.hid hlen; clear hlen
  have HB := Lib.hid hB; clear hB
  go_enter Try.func9, Try.ntmps9
  go_wp2_with fail
  refine (new_any HL.out HY.out HB.out).mono ?_; rintro e w1 ⟨rfl, hC1, hg1, hlt1⟩
  obtain ⟨C, hCe⟩ : ∃ C, C = w.heap.size := ⟨_, rfl⟩
  rw [← hCe] at hC1
  have HC := Lib.hid hCe
  rw [← hCe]
  clear hCe
  have HLT := Lib.hid hlt1; clear hlt1
  go_wp2_with fail
  refine (once_any 4 (by decide) hC1).mono ?_; rintro e w2 ⟨x, rfl, hC2, hg2⟩
  cases x
  · go_wp2_with fail
    refine (below_any 40 (by decide) hC2).mono ?_; rintro e w3 ⟨y, hy0, hy1, rfl, hC3, hg3⟩
    have HY1 := Lib.hid hy1; clear hy1
    have hy2 : y ≤ 40 := by have := HY1.out; omega
    go_wp2_with fail
    refine (below_any 80 (by decide) hC3).mono ?_; rintro e w4 ⟨z, hz0, hz1, rfl, hC4, hg4⟩
    have HZ1 := Lib.hid hz1; clear hz1
    have hz2 : z ≤ 80 := by have := HZ1.out; omega
    go_wp2_with fail
    refine (below_any 30 (by decide) hC4).mono ?_; rintro e w5 ⟨u, hu0, hu1, rfl, hC5, hg5⟩
    have HU1 := Lib.hid hu1; clear hu1
    have hu2 : u ≤ 30 := by have := HU1.out; omega
    go_wp2_with fail
    go_ret3
    exact ⟨_, _, _, rfl, below_of HB.out HC.out hg1 (grown_trans (grown_trans hg2 hg3) (grown_trans hg4 hg5))⟩
  · go_wp2_with fail
    refine (number_any hC2).mono ?_; rintro e w3 ⟨y, hy0, hy1, rfl, hC3, hg3⟩
    go_wp2_with fail
    refine (number_any hC3).mono ?_; rintro e w4 ⟨z, hz0, hz1, rfl, hC4, hg4⟩
    go_wp2_with fail
    refine (number_any hC4).mono ?_; rintro e w5 ⟨u, hu0, hu1, rfl, hC5, hg5⟩
    go_wp2_with fail
    go_ret3
    exact ⟨_, _, _, rfl, below_of HB.out HC.out hg1 (grown_trans (grown_trans hg2 hg3) (grown_trans hg4 hg5))⟩
end Go.Proofs.Ytnfcieilchbbbaa.Draw
