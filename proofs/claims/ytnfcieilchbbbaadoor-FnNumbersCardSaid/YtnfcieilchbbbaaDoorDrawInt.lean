/- The drawing functions of the reference model that answer a number (l01PickInt, l01Number), as contracts: what they answer is an int, and they write their own cursor alone.
   Conditions: the cursor is one that l01New has made in the same call. -/
import Derived.Test.YtnfcieilchbbbaaDoorDraw
namespace Go.Proofs.YtnfcieilchbbbaaDoor.Draw
open Go.ChangeShapes Go.WideShapes Go.ChangeAt Go.RowKit

theorem pick_int {B : Nat} {w : World} {C : Nat} {a : Option Addr} {len cap : Nat} {g m mc : Nat} (hm : 0 < m) (hm1 : (m : Int) ≤ 1000) (hg : g ≠ C)
    (hl : ∀ j, j < m → ∃ v : Int, -9223372036854775808 ≤ v ∧ v ≤ 9223372036854775807 ∧ w.cell? ⟨g, j, none⟩ = some (.int .i64 v)) (hC : Cur B w C a len cap) :
    Calls Tryd.prog 36 #[.pointer (some ⟨C, 0, none⟩), .slice (some ⟨g, 0, none⟩) m mc] w (IntSome B C a len cap w) := by
  have HL := Lib.hid hl; clear hl
  have HM := Lib.hid hm; clear hm
  go_enter Tryd.func36, Tryd.ntmps36
  go_wp2_with fail
  refine (below_any m (by omega) hC).mono ?_; rintro e w1 ⟨x, hx0, hx1, rfl, hC1, hg1⟩
  have hx2 : x < m := by have := HM.out; omega
  obtain ⟨k, rfl⟩ := Int.eq_ofNat_of_zero_le hx0
  obtain ⟨v, hv0, hv1, hv⟩ := HL.out k (by omega)
  have hv' : w1.cell? ⟨g, k, none⟩ = some (.int .i64 v) := hg1.cell hv (by simp; exact hg)
  have HX := Lib.hid hx1; clear hx1
  go_wp2
  go_ret
  exact ⟨v, hv0, hv1, rfl, hC1, hg1⟩

theorem number_any {B : Nat} {w : World} {C : Nat} {a : Option Addr} {len cap : Nat} (hC : Cur B w C a len cap) :
    Calls Tryd.prog 28 #[.pointer (some ⟨C, 0, none⟩)] w (IntSome B C a len cap w) := by
  go_enter Tryd.func28, Tryd.ntmps28
  go_wp2_with fail
  refine (below_any 4 (by decide) hC).mono ?_; rintro e w1 ⟨x, hx0, hx1, rfl, hC1, hg1⟩
  have HX := Lib.hid hx1; clear hx1
  have hlt := hC1.lt
  by_cases h0 : x = 0
  · subst h0
    go_wp2_with fail
    refine (pick_int (m := 10) (by decide) (by decide) (by omega) ?_ (hC1.kept (World.grownBy_alloc w1 _ Option.none) (by simp) (by simp))).mono ?_
    · intro j hj
      match j, hj with
      | 0, _ => exact ⟨(-1), by decide, by decide, by simp [World.cell?_alloc_new]⟩
      | 1, _ => exact ⟨0, by decide, by decide, by simp [World.cell?_alloc_new]⟩
      | 2, _ => exact ⟨127, by decide, by decide, by simp [World.cell?_alloc_new]⟩
      | 3, _ => exact ⟨128, by decide, by decide, by simp [World.cell?_alloc_new]⟩
      | 4, _ => exact ⟨16383, by decide, by decide, by simp [World.cell?_alloc_new]⟩
      | 5, _ => exact ⟨16384, by decide, by decide, by simp [World.cell?_alloc_new]⟩
      | 6, _ => exact ⟨1000000000, by decide, by decide, by simp [World.cell?_alloc_new]⟩
      | 7, _ => exact ⟨1000000001, by decide, by decide, by simp [World.cell?_alloc_new]⟩
      | 8, _ => exact ⟨9223372036854775807, by decide, by decide, by simp [World.cell?_alloc_new]⟩
      | 9, _ => exact ⟨(-9223372036854775808), by decide, by decide, by simp [World.cell?_alloc_new]⟩
    · rintro e w2 ⟨y, hy0, hy1, rfl, hC2, hg2⟩
      go_wp2
      go_ret
      exact ⟨y, hy0, hy1, rfl, hC2, grown_trans hg1 (grown_trans (World.grownBy_alloc w1 _ _) hg2)⟩
  · by_cases h1 : x = 1
    · subst h1
      go_wp2_with fail
      refine (below_any 1000000000 (by decide) hC1).mono ?_; rintro e w2 ⟨y, hy0, hy1, rfl, hC2, hg2⟩
      have HY := Lib.hid hy1; clear hy1
      go_wp2
      go_ret
      have := HY.out
      exact ⟨y, by omega, by omega, rfl, hC2, grown_trans hg1 hg2⟩
    · go_wp2_with fail
      refine (below_any 400 (by decide) hC1).mono ?_; rintro e w2 ⟨y, hy0, hy1, rfl, hC2, hg2⟩
      have HY := Lib.hid hy1; clear hy1
      go_wp2
      go_ret
      have := HY.out
      exact ⟨y, by omega, by omega, rfl, hC2, grown_trans hg1 hg2⟩
end Go.Proofs.YtnfcieilchbbbaaDoor.Draw
