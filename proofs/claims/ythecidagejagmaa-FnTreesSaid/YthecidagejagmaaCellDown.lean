/- Cells, the third part: ChildOf of the program and of the reference model, as contracts: what each answers; nothing that was there is written.
   Conditions: none. -/
import Derived.Test.YthecidagejagmaaCellLaw
namespace Go.Proofs.Ythecidagejagmaa.Cell
open Go.ChangeShapes Go.WideShapes Go.ChangeAt Go.RowKit

theorem child_bad (r l i s : Int) (h : okId r l i = false) (w : World) :
    Calls Try.prog 14 #[.agg #[.int .i64 r, .int .i64 l, .int .i64 i], .int .i64 s] w fun e w' => e = .returned (.tuple #[.agg #[.int .i64 0, .int .i64 0, .int .i64 0], .bool false]) ∧ w.grownBy w' none := by
  go_enter Try.func14, Try.ntmps14
  go_wp2_with (go_at_call 33; (with_reducible refine (valid_is r l i _).mono ?_); rintro e w' ⟨rfl, n, rfl⟩)
  refine bodyPost_ret_by (v := .tuple #[.agg #[.int .i64 0, .int .i64 0, .int .i64 0], .bool false]) (by rw [results_cell_tmp rfl]; go_simp) rfl ⟨rfl, ?_⟩
  repeat (first | exact grown_refl _ | refine g_alloc ?_ _ | refine g_drewN ?_ _ | refine g_set ?_ _ _ _ (by omega))

theorem child_deep (r i s : Int) (h : okId r 4 i = true) (w : World) :
    Calls Try.prog 14 #[.agg #[.int .i64 r, .int .i64 4, .int .i64 i], .int .i64 s] w fun e w' => e = .returned (.tuple #[.agg #[.int .i64 0, .int .i64 0, .int .i64 0], .bool false]) ∧ w.grownBy w' none := by
  go_enter Try.func14, Try.ntmps14
  go_wp2_with (go_at_call 33; (with_reducible refine (valid_is r 4 i _).mono ?_); rintro e w' ⟨rfl, n, rfl⟩)
  refine bodyPost_ret_by (v := .tuple #[.agg #[.int .i64 0, .int .i64 0, .int .i64 0], .bool false]) (by rw [results_cell_tmp rfl]; go_simp) rfl ⟨rfl, ?_⟩
  repeat (first | exact grown_refl _ | refine g_alloc ?_ _ | refine g_drewN ?_ _ | refine g_set ?_ _ _ _ (by omega))

set_option maxHeartbeats 1000000 in
theorem child_side (r l i s : Int) (h : okId r l i = true) (hl : l ≠ 4) (hs0 : s ≠ 0) (hs1 : s ≠ 1) (w : World) :
    Calls Try.prog 14 #[.agg #[.int .i64 r, .int .i64 l, .int .i64 i], .int .i64 s] w fun e w' => e = .returned (.tuple #[.agg #[.int .i64 0, .int .i64 0, .int .i64 0], .bool false]) ∧ w.grownBy w' none := by
  have q : decide (0 ≤ s ∧ s ≤ 1) = false := decide_eq_false (by omega)
  have b0 : (s != 0) = true := by simp [hs0]
  have b1 : (s != 1) = true := by simp [hs1]
  have b2 : (l == 4) = false := by simp [hl]
  go_enter Try.func14, Try.ntmps14
  go_wp2_with (first
    | (go_at_call 33; (with_reducible refine (valid_is r l i _).mono ?_); rintro e w' ⟨rfl, n, rfl⟩))
  refine bodyPost_ret_by (v := .tuple #[.agg #[.int .i64 0, .int .i64 0, .int .i64 0], .bool false]) (by rw [results_cell_tmp rfl]; go_simp) rfl ⟨rfl, ?_⟩
  repeat (first | exact grown_refl _ | refine g_alloc ?_ _ | refine g_drewN ?_ _ | refine g_set ?_ _ _ _ (by omega))

set_option maxHeartbeats 1000000 in
theorem child_yes (r l i s : Int) (h : okId r l i = true) (hl : l ≠ 4) (hs : s = 0 ∨ s = 1) (w : World) :
    Calls Try.prog 14 #[.agg #[.int .i64 r, .int .i64 l, .int .i64 i], .int .i64 s] w fun e w' =>
      e = .returned (.tuple #[.agg #[.int .i64 r, .int .i64 (l + 1), .int .i64 (2 * i + s)], .bool true]) ∧ w.grownBy w' none := by
  obtain ⟨h0, h1, h2, h3, h4, h5, h6, h7⟩ := bounds h
  clear h6 h7
  have q : decide (0 ≤ s ∧ s ≤ 1) = true := decide_eq_true (by omega)
  rcases hs with rfl | rfl
  · go_enter Try.func14, Try.ntmps14
    go_wp2_with (first
    | (go_at_call 33; (with_reducible refine (valid_is r l i _).mono ?_); rintro e w' ⟨rfl, n, rfl⟩)
    | (go_at_call 34; (with_reducible refine (down_is r l i 0 (by omega) (by omega) (by omega) (by omega) (by omega) (by omega) _).mono ?_); rintro e w' ⟨rfl, rfl⟩))
    refine bodyPost_ret_by (v := .tuple #[.agg #[.int .i64 r, .int .i64 (l + 1), .int .i64 (2 * i + 0)], .bool true]) (by rw [results_cell_tmp rfl]; go_simp) rfl ⟨rfl, ?_⟩
    repeat (first | exact grown_refl _ | refine g_alloc ?_ _ | refine g_drewN ?_ _ | refine g_set ?_ _ _ _ (by omega))
  · go_enter Try.func14, Try.ntmps14
    go_wp2_with (first
    | (go_at_call 33; (with_reducible refine (valid_is r l i _).mono ?_); rintro e w' ⟨rfl, n, rfl⟩)
    | (go_at_call 34; (with_reducible refine (down_is r l i 1 (by omega) (by omega) (by omega) (by omega) (by omega) (by omega) _).mono ?_); rintro e w' ⟨rfl, rfl⟩))
    refine bodyPost_ret_by (v := .tuple #[.agg #[.int .i64 r, .int .i64 (l + 1), .int .i64 (2 * i + 1)], .bool true]) (by rw [results_cell_tmp rfl]; go_simp) rfl ⟨rfl, ?_⟩
    repeat (first | exact grown_refl _ | refine g_alloc ?_ _ | refine g_drewN ?_ _ | refine g_set ?_ _ _ _ (by omega))

theorem specChild_bad (r l i s : Int) (h : okId r l i = false) (w : World) :
    Calls Try.prog 28 #[.agg #[.int .i64 r, .int .i64 l, .int .i64 i], .int .i64 s] w fun e w' => e = .returned (.tuple #[.agg #[.int .i64 0, .int .i64 0, .int .i64 0], .bool false]) ∧ w.grownBy w' none := by
  go_enter Try.func28, Try.ntmps28
  go_wp2_with (go_at_call 21; (with_reducible refine (specOk_is r l i _).mono ?_); rintro e w' ⟨rfl, n, rfl⟩)
  refine bodyPost_ret_by (v := .tuple #[.agg #[.int .i64 0, .int .i64 0, .int .i64 0], .bool false]) (by rw [results_cell_tmp rfl]; go_simp) rfl ⟨rfl, ?_⟩
  repeat (first | exact grown_refl _ | refine g_alloc ?_ _ | refine g_drewN ?_ _ | refine g_set ?_ _ _ _ (by omega))

theorem specChild_deep (r i s : Int) (h : okId r 4 i = true) (w : World) :
    Calls Try.prog 28 #[.agg #[.int .i64 r, .int .i64 4, .int .i64 i], .int .i64 s] w fun e w' => e = .returned (.tuple #[.agg #[.int .i64 0, .int .i64 0, .int .i64 0], .bool false]) ∧ w.grownBy w' none := by
  go_enter Try.func28, Try.ntmps28
  go_wp2_with (go_at_call 21; (with_reducible refine (specOk_is r 4 i _).mono ?_); rintro e w' ⟨rfl, n, rfl⟩)
  refine bodyPost_ret_by (v := .tuple #[.agg #[.int .i64 0, .int .i64 0, .int .i64 0], .bool false]) (by rw [results_cell_tmp rfl]; go_simp) rfl ⟨rfl, ?_⟩
  repeat (first | exact grown_refl _ | refine g_alloc ?_ _ | refine g_drewN ?_ _ | refine g_set ?_ _ _ _ (by omega))

theorem specChild_side (r l i s : Int) (h : okId r l i = true) (hl : l ≠ 4) (hs0 : s ≠ 0) (hs1 : s ≠ 1) (w : World) :
    Calls Try.prog 28 #[.agg #[.int .i64 r, .int .i64 l, .int .i64 i], .int .i64 s] w fun e w' => e = .returned (.tuple #[.agg #[.int .i64 0, .int .i64 0, .int .i64 0], .bool false]) ∧ w.grownBy w' none := by
  have q : decide (0 ≤ s ∧ s ≤ 1) = false := decide_eq_false (by omega)
  have b0 : (s != 0) = true := by simp [hs0]
  have b1 : (s != 1) = true := by simp [hs1]
  have b2 : (l == 4) = false := by simp [hl]
  go_enter Try.func28, Try.ntmps28
  go_wp2_with (first
    | (go_at_call 21; (with_reducible refine (specOk_is r l i _).mono ?_); rintro e w' ⟨rfl, n, rfl⟩)
    | (go_at_call 39; (with_reducible refine (in_is s 0 1 false q _).mono ?_); rintro e w' ⟨rfl, rfl⟩))
  refine bodyPost_ret_by (v := .tuple #[.agg #[.int .i64 0, .int .i64 0, .int .i64 0], .bool false]) (by rw [results_cell_tmp rfl]; go_simp) rfl ⟨rfl, ?_⟩
  repeat (first | exact grown_refl _ | refine g_alloc ?_ _ | refine g_drewN ?_ _ | refine g_set ?_ _ _ _ (by omega))

set_option maxHeartbeats 1000000 in
theorem specChild_yes (r l i s : Int) (h : okId r l i = true) (hl : l ≠ 4) (hs : s = 0 ∨ s = 1) (w : World) :
    Calls Try.prog 28 #[.agg #[.int .i64 r, .int .i64 l, .int .i64 i], .int .i64 s] w fun e w' =>
      e = .returned (.tuple #[.agg #[.int .i64 r, .int .i64 (l + 1), .int .i64 (2 * i + s)], .bool true]) ∧ w.grownBy w' none := by
  obtain ⟨h0, h1, h2, h3, h4, h5, h6, h7⟩ := bounds h
  clear h6 h7
  have q : decide (0 ≤ s ∧ s ≤ 1) = true := decide_eq_true (by omega)
  rcases hs with rfl | rfl
  · go_enter Try.func28, Try.ntmps28
    go_wp2_with (first
    | (go_at_call 21; (with_reducible refine (specOk_is r l i _).mono ?_); rintro e w' ⟨rfl, n, rfl⟩)
    | (go_at_call 39; (with_reducible refine (in_is 0 0 1 true q _).mono ?_); rintro e w' ⟨rfl, rfl⟩))
    refine bodyPost_ret_by (v := .tuple #[.agg #[.int .i64 r, .int .i64 (l + 1), .int .i64 (2 * i + 0)], .bool true]) (by rw [results_cell_tmp rfl]; go_simp) rfl ⟨rfl, ?_⟩
    repeat (first | exact grown_refl _ | refine g_alloc ?_ _ | refine g_drewN ?_ _ | refine g_set ?_ _ _ _ (by omega))
  · go_enter Try.func28, Try.ntmps28
    go_wp2_with (first
    | (go_at_call 21; (with_reducible refine (specOk_is r l i _).mono ?_); rintro e w' ⟨rfl, n, rfl⟩)
    | (go_at_call 39; (with_reducible refine (in_is 1 0 1 true q _).mono ?_); rintro e w' ⟨rfl, rfl⟩))
    refine bodyPost_ret_by (v := .tuple #[.agg #[.int .i64 r, .int .i64 (l + 1), .int .i64 (2 * i + 1)], .bool true]) (by rw [results_cell_tmp rfl]; go_simp) rfl ⟨rfl, ?_⟩
    repeat (first | exact grown_refl _ | refine g_alloc ?_ _ | refine g_drewN ?_ _ | refine g_set ?_ _ _ _ (by omega))

end Go.Proofs.Ythecidagejagmaa.Cell
