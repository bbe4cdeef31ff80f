/- The reference model's l03Any, as a contract: it answers some cell, and writes its own cursor alone.
   Conditions: the cursor is one that l01New has made in the same call. -/
import Derived.Test.YthecidagejagmaaCellDraw
namespace Go.Proofs.Ythecidagejagmaa.Draw
open Go.ChangeShapes Go.WideShapes Go.ChangeAt Go.RowKit
open Go.Proofs.Ythecidagejagmaa.Cell (okId ok_true cellOf)

abbrev Row3 (w : World) (C : Nat) (r l i : Int) : Prop := w.cell? ⟨C, 0, none⟩ = some (.int .i64 r) ∧ w.cell? ⟨C, 1, none⟩ = some (.int .i64 l) ∧ w.cell? ⟨C, 2, none⟩ = some (.int .i64 i) ∧ ∀ o, w.frozen? ⟨C, o, none⟩ = false

/-- From the world behind the draw of a case to the world behind the pick. -/
theorem any_mid {B C : Nat} {a : Option Addr} {len cap : Nat} {w w1 w2 w3 : World} {r l i : Int} (hC : Cur B w C a len cap) (hL : w.heap.size < w1.heap.size)
    (hX : w2.heap[w1.heap.size]? = some (cellOf 25 r l i)) (hR : w2.heap[w.heap.size]? = some (cellOf 25 0 0 0)) (hG : w.grownBy w2 (some C)) (hg : w2.grownBy w3 (some C)) :
    Row3 w3 w1.heap.size r l i ∧ Row3 w3 w.heap.size 0 0 0 ∧ w3.heap[w1.heap.size]? = some (cellOf 25 r l i) ∧ w3.heap[w.heap.size]? = some (cellOf 25 0 0 0) ∧ w.grownBy w3 (some C) := by
  have hlt := hC.lt
  have h1 := (hg.block _ (lt_of_block hX) (by simp; omega)).trans hX
  have h2 := (hg.block _ (lt_of_block hR) (by simp; omega)).trans hR
  exact ⟨row3 h1, row3 h2, h1, h2, grown_trans hG hg⟩

/-- What the last stores leave. -/
theorem any_end {B C : Nat} {a : Option Addr} {len cap : Nat} {w w1 w3 : World} (hC : Cur B w C a len cap) (hL : w.heap.size < w1.heap.size) (hC3 : Cur B w3 C a len cap) (hG : w.grownBy w3 (some C)) (j : Nat) (y : Value) (r l i : Int) :
    AnySome B C a len cap w (.returned (.agg #[.int .i64 r, .int .i64 l, .int .i64 i])) ((((w3.setCell ⟨w1.heap.size, j, none⟩ y).setCell ⟨w.heap.size, 0, none⟩ (.int .i64 r)).setCell ⟨w.heap.size, 1, none⟩ (.int .i64 l)).setCell ⟨w.heap.size, 2, none⟩ (.int .i64 i)) := by
  have hlt := hC.lt
  have hlo := hC.lo
  exact ⟨r, l, i, rfl, (((hC3.set _ _ _ (by omega) (by omega)).set _ 0 _ (by omega) (by omega)).set _ 1 _ (by omega) (by omega)).set _ 2 _ (by omega) (by omega),
    g_setC (g_setC (g_setC (g_setC hG _ _ _ (by omega)) _ _ _ (Nat.le_refl _)) _ _ _ (Nat.le_refl _)) _ _ _ (Nat.le_refl _)⟩
theorem any_end0 {B C : Nat} {a : Option Addr} {len cap : Nat} {w w3 : World} (hC : Cur B w C a len cap) (hC3 : Cur B w3 C a len cap) (hG : w.grownBy w3 (some C)) (r l i : Int) :
    AnySome B C a len cap w (.returned (.agg #[.int .i64 r, .int .i64 l, .int .i64 i])) (((w3.setCell ⟨w.heap.size, 0, none⟩ (.int .i64 r)).setCell ⟨w.heap.size, 1, none⟩ (.int .i64 l)).setCell ⟨w.heap.size, 2, none⟩ (.int .i64 i)) := by
  have hlt := hC.lt
  have hlo := hC.lo
  exact ⟨r, l, i, rfl, ((hC3.set _ 0 _ (by omega) (by omega)).set _ 1 _ (by omega) (by omega)).set _ 2 _ (by omega) (by omega),
    g_setC (g_setC (g_setC hG _ _ _ (Nat.le_refl _)) _ _ _ (Nat.le_refl _)) _ _ _ (Nat.le_refl _)⟩

set_option maxHeartbeats 4000000 in
theorem any_any {B : Nat} {w : World} {C : Nat} {a : Option Addr} {len cap : Nat} (hC : Cur B w C a len cap) :
    Calls Try.prog 36 #[.pointer (some ⟨C, 0, none⟩)] w (AnySome B C a len cap w) := by
  have HC := Lib.hid hC
  have hlt := hC.lt
  go_enter Try.func36, Try.ntmps36
  go_wp2_with fail
  refine (id_any (hC.kept (World.grownBy_alloc w _ Option.none) (by simp) (by simp))).mono ?_; rintro e w1 ⟨r, l, i, -, rfl, hC1, hg1⟩
  have hR1 : w1.heap[w.heap.size]? = some (cellOf 25 0 0 0) := (hg1.block _ (by simp) (by simp; omega)).trans (heap_alloc_new _ _)
  have HL1 := Lib.hid (lt_of_block hR1)
  have HR1 := Lib.hid hR1; have HG1 := Lib.hid hg1; have HC1 := Lib.hid hC1; clear hR1 hg1 hC1 hC
  go_wp2_with fail
  refine (below_any 14 (by decide) (HC1.out.kept (World.grownBy_alloc w1 _ Option.none) (by simp) (by simp))).mono ?_; rintro e w2 ⟨x, hx0, hx1, rfl, hC2, hg2⟩
  have hX2 : w2.heap[w1.heap.size]? = some (cellOf 25 r l i) := (hg2.block _ (by simp) (by have := HL1.out; simp; omega)).trans (heap_alloc_new _ _)
  have hR2 : w2.heap[w.heap.size]? = some (cellOf 25 0 0 0) := (hg2.block _ (by have := HL1.out; simp; omega) (by simp; omega)).trans ((heap_alloc_old _ _ HL1.out).trans HR1.out)
  have HX2 := Lib.hid hX2; have HR2 := Lib.hid hR2
  have HG2 : Hid (w.grownBy w2 (some C)) := Lib.hid (grown_trans (World.grownBy_alloc w _ _) (grown_trans HG1.out (grown_trans (World.grownBy_alloc w1 _ _) hg2)))
  have HC2 := Lib.hid hC2
  clear hX2 hR2 hg2 hC2 HG1 HC1 HR1
  by_cases e0 : x = 0
  · subst e0
    go_wp2_with fail
    refine (pick_int (m := 4) (by decide) (by decide) (by have := HC2.out.lt; omega) ?_ (HC2.out.kept (World.grownBy_alloc w2 _ Option.none) (by simp) (by simp))).mono ?_
    · intro j hj
      match j, hj with
      | 0, _ => exact ⟨(-1), by decide, by decide, by simp [World.cell?_alloc_new]⟩
      | 1, _ => exact ⟨0, by decide, by decide, by simp [World.cell?_alloc_new]⟩
      | 2, _ => exact ⟨7, by decide, by decide, by simp [World.cell?_alloc_new]⟩
      | 3, _ => exact ⟨8, by decide, by decide, by simp [World.cell?_alloc_new]⟩
    · rintro e w3 ⟨y, -, -, rfl, hC3, hg3⟩
      obtain ⟨⟨x0, x1, x2, hfx⟩, ⟨r0, r1, r2, hfr⟩, HX3, HR3, HG3⟩ := any_mid HC.out HL1.out HX2.out HR2.out HG2.out (grown_trans (World.grownBy_alloc w2 _ _) hg3)
      have HC3 := Lib.hid hC3
      clear hC3 hg3
      have hL := HL1.out
      have hne : w.heap.size ≠ w1.heap.size := by omega
      have hne' : w1.heap.size ≠ w.heap.size := by omega
      go_wp2
      exact bodyPost_ret_by (results_cell_row (fn := Try.f36) rfl _ _ w.heap.size _ _ (0, 0) _ rfl (set3 (t := 25) (s := .int .i64 0) (u := .int .i64 0) (v := .int .i64 0) (by rw [heap_setCell_other _ ⟨w1.heap.size, 0, Option.none⟩ _ _ (by simp; have := HL1.out; omega)]; exact HR3) _ _ _) Try.underlying25 rfl (by kernel_rfl)) rfl
        (any_end HC.out HL1.out HC3.out HG3 0 _ _ _ _)
  by_cases e1 : x = 1
  · subst e1
    go_wp2_with fail
    refine (pick_int (m := 5) (by decide) (by decide) (by have := HC2.out.lt; omega) ?_ (HC2.out.kept (World.grownBy_alloc w2 _ Option.none) (by simp) (by simp))).mono ?_
    · intro j hj
      match j, hj with
      | 0, _ => exact ⟨(-1), by decide, by decide, by simp [World.cell?_alloc_new]⟩
      | 1, _ => exact ⟨0, by decide, by decide, by simp [World.cell?_alloc_new]⟩
      | 2, _ => exact ⟨4, by decide, by decide, by simp [World.cell?_alloc_new]⟩
      | 3, _ => exact ⟨5, by decide, by decide, by simp [World.cell?_alloc_new]⟩
      | 4, _ => exact ⟨70, by decide, by decide, by simp [World.cell?_alloc_new]⟩
    · rintro e w3 ⟨y, -, -, rfl, hC3, hg3⟩
      obtain ⟨⟨x0, x1, x2, hfx⟩, ⟨r0, r1, r2, hfr⟩, HX3, HR3, HG3⟩ := any_mid HC.out HL1.out HX2.out HR2.out HG2.out (grown_trans (World.grownBy_alloc w2 _ _) hg3)
      have HC3 := Lib.hid hC3
      clear hC3 hg3
      have hL := HL1.out
      have hne : w.heap.size ≠ w1.heap.size := by omega
      have hne' : w1.heap.size ≠ w.heap.size := by omega
      go_wp2
      exact bodyPost_ret_by (results_cell_row (fn := Try.f36) rfl _ _ w.heap.size _ _ (0, 0) _ rfl (set3 (t := 25) (s := .int .i64 0) (u := .int .i64 0) (v := .int .i64 0) (by rw [heap_setCell_other _ ⟨w1.heap.size, 1, Option.none⟩ _ _ (by simp; have := HL1.out; omega)]; exact HR3) _ _ _) Try.underlying25 rfl (by kernel_rfl)) rfl
        (any_end HC.out HL1.out HC3.out HG3 1 _ _ _ _)
  by_cases e2 : x = 2
  · subst e2
    go_wp2_with fail
    refine (pick_int (m := 5) (by decide) (by decide) (by have := HC2.out.lt; omega) ?_ (HC2.out.kept (World.grownBy_alloc w2 _ Option.none) (by simp) (by simp))).mono ?_
    · intro j hj
      match j, hj with
      | 0, _ => exact ⟨(-1), by decide, by decide, by simp [World.cell?_alloc_new]⟩
      | 1, _ => exact ⟨0, by decide, by decide, by simp [World.cell?_alloc_new]⟩
      | 2, _ => exact ⟨1, by decide, by decide, by simp [World.cell?_alloc_new]⟩
      | 3, _ => exact ⟨15, by decide, by decide, by simp [World.cell?_alloc_new]⟩
      | 4, _ => exact ⟨16, by decide, by decide, by simp [World.cell?_alloc_new]⟩
    · rintro e w3 ⟨y, -, -, rfl, hC3, hg3⟩
      obtain ⟨⟨x0, x1, x2, hfx⟩, ⟨r0, r1, r2, hfr⟩, HX3, HR3, HG3⟩ := any_mid HC.out HL1.out HX2.out HR2.out HG2.out (grown_trans (World.grownBy_alloc w2 _ _) hg3)
      have HC3 := Lib.hid hC3
      clear hC3 hg3
      have hL := HL1.out
      have hne : w.heap.size ≠ w1.heap.size := by omega
      have hne' : w1.heap.size ≠ w.heap.size := by omega
      go_wp2
      exact bodyPost_ret_by (results_cell_row (fn := Try.f36) rfl _ _ w.heap.size _ _ (0, 0) _ rfl (set3 (t := 25) (s := .int .i64 0) (u := .int .i64 0) (v := .int .i64 0) (by rw [heap_setCell_other _ ⟨w1.heap.size, 2, Option.none⟩ _ _ (by simp; have := HL1.out; omega)]; exact HR3) _ _ _) Try.underlying25 rfl (by kernel_rfl)) rfl
        (any_end HC.out HL1.out HC3.out HG3 2 _ _ _ _)
  obtain ⟨x0, x1, x2, hfx⟩ := row3 HX2.out
  obtain ⟨r0, r1, r2, hfr⟩ := row3 HR2.out
  have HN := Lib.hid hx1; clear hx1
  go_wp2
  exact bodyPost_ret_by (results_cell_row (fn := Try.f36) rfl _ _ w.heap.size _ _ (0, 0) _ rfl (set3 HR2.out _ _ _) Try.underlying25 rfl (by kernel_rfl)) rfl
    (any_end0 HC.out HC2.out HG2.out _ _ _)
end Go.Proofs.Ythecidagejagmaa.Draw
