/- Cells, the second part: StartOf, the methods parent and child, ParentOf and ChildOf of the program and of the reference model, as contracts: what each answers, and the world it leaves.
   Conditions: none. -/
import Derived.Test.YthecidagejagmaaCell
namespace Go.Proofs.Ythecidagejagmaa.Cell
open Go.ChangeShapes Go.WideShapes Go.ChangeAt Go.RowKit

theorem g_alloc {w a : World} (h : w.grownBy a none) (o : Obj) : w.grownBy (a.alloc o) none := grown_trans h (World.grownBy_alloc _ _ _)
theorem g_drewN {w a : World} (h : w.grownBy a none) (n : Nat) : w.grownBy (a.drewN n) none := grown_trans h (grown_drewN _ _)
theorem g_set {w a : World} (h : w.grownBy a none) (C j : Nat) (u : Value) (hC : w.heap.size ≤ C) : w.grownBy (a.setCell ⟨C, j, none⟩ u) none :=
  ⟨h.os, h.tape, h.output, by simpa using h.size, fun i hi hne => (heap_setCell_other a ⟨C, j, none⟩ i u (by simp; omega)).trans (h.block i hi hne)⟩

/-- A cell's left end. -/
def startOf (r l i : Int) : Int := if okId r l i then r * 16 + i * widthOf l else -1

theorem lvl {l : Int} (h0 : 0 ≤ l) (h1 : l ≤ 4) : l = 0 ∨ l = 1 ∨ l = 2 ∨ l = 3 ∨ l = 4 := by omega
theorem bounds {r l i : Int} (h : okId r l i = true) : 0 ≤ r ∧ r ≤ 7 ∧ 0 ≤ l ∧ l ≤ 4 ∧ 0 ≤ i ∧ i ≤ 15 ∧ 0 ≤ i * widthOf l ∧ i * widthOf l ≤ 240 := by
  obtain ⟨h0, h1, h2, h3, h4, h5⟩ := of_ok h
  rcases lvl h2 h3 with rfl | rfl | rfl | rfl | rfl
  all_goals
    simp at h5
    simp [widthOf]
    omega

theorem start_is (r l i : Int) (w : World) :
    Calls Try.prog 19 #[.agg #[.int .i64 r, .int .i64 l, .int .i64 i]] w fun e w' => e = .returned (.int .i64 (startOf r l i)) ∧ w.grownBy w' none := by
  by_cases h : okId r l i = true
  · obtain ⟨h0, h1, h2, h3, h4, h5, h6, h7⟩ := bounds h
    have e : startOf r l i = r * 16 + i * widthOf l := if_pos h
    rw [e]
    have e1 : IntKind.i64.wrap (r * 16) = r * 16 := IntWalk.i64_in _ (by omega)
    have e2 : IntKind.i64.wrap (i * widthOf l) = i * widthOf l := IntWalk.i64_in _ (by omega)
    have e3 : IntKind.i64.wrap (r * 16 + i * widthOf l) = r * 16 + i * widthOf l := IntWalk.i64_in _ (by omega)
    go_enter Try.func19, Try.ntmps19
    go_wp2_with (go_at_call 33; (with_reducible refine (valid_is r l i _).mono ?_); rintro e w' ⟨rfl, n, hw⟩; have hb : w'.heap[w.heap.size]? = some (cellOf 25 r l i) := (by rw [hw]; exact (heap_alloc_old _ _ (by simp)).trans (heap_alloc_new _ _)); have c0 : w'.cell? ⟨w.heap.size, 0, none⟩ = some (.int .i64 r) := (by simp [World.cell?, hb]); have c1 : w'.cell? ⟨w.heap.size, 1, none⟩ = some (.int .i64 l) := (by simp [World.cell?, hb]); have c2 : w'.cell? ⟨w.heap.size, 2, none⟩ = some (.int .i64 i) := (by simp [World.cell?, hb]); have hg : w.grownBy w' none := (by rw [hw]; exact g_drewN (g_alloc (g_alloc (grown_refl _) _) _) _); clear hw hb; have HG := Lib.hid hg; clear hg)
    go_quiet ((refine Calls.quiet_of_same (width_is l _); done))
    go_wp2
    go_ret
    exact ⟨rfl, g_drewN HG.out _⟩
  · have e : startOf r l i = -1 := if_neg h
    rw [Bool.not_eq_true] at h
    rw [e]
    go_enter Try.func19, Try.ntmps19
    go_wp2_with (go_at_call 33; (with_reducible refine (valid_is r l i _).mono ?_); rintro e w' ⟨rfl, n, rfl⟩)
    go_ret
    exact ⟨rfl, g_drewN (g_alloc (g_alloc (grown_refl _) _) _) _⟩

theorem specStart_is (r l i : Int) (w : World) :
    Calls Try.prog 25 #[.agg #[.int .i64 r, .int .i64 l, .int .i64 i]] w fun e w' => e = .returned (.int .i64 (startOf r l i)) ∧ w.grownBy w' none := by
  by_cases h : okId r l i = true
  · obtain ⟨h0, h1, h2, h3, h4, h5, h6, h7⟩ := bounds h
    have e : startOf r l i = r * 16 + i * widthOf l := if_pos h
    rw [e]
    have e1 : IntKind.i64.wrap (r * 16) = r * 16 := IntWalk.i64_in _ (by omega)
    have e2 : IntKind.i64.wrap (i * widthOf l) = i * widthOf l := IntWalk.i64_in _ (by omega)
    have e3 : IntKind.i64.wrap (r * 16 + i * widthOf l) = r * 16 + i * widthOf l := IntWalk.i64_in _ (by omega)
    go_enter Try.func25, Try.ntmps25
    go_wp2_with (go_at_call 21; (with_reducible refine (specOk_is r l i _).mono ?_); rintro e w' ⟨rfl, n, hw⟩; have hb : w'.heap[w.heap.size]? = some (cellOf 25 r l i) := (by rw [hw]; exact (heap_alloc_old _ _ (by simp)).trans (heap_alloc_new _ _)); have c0 : w'.cell? ⟨w.heap.size, 0, none⟩ = some (.int .i64 r) := (by simp [World.cell?, hb]); have c1 : w'.cell? ⟨w.heap.size, 1, none⟩ = some (.int .i64 l) := (by simp [World.cell?, hb]); have c2 : w'.cell? ⟨w.heap.size, 2, none⟩ = some (.int .i64 i) := (by simp [World.cell?, hb]); have hg : w.grownBy w' none := (by rw [hw]; exact g_drewN (g_alloc (g_alloc (grown_refl _) _) _) _); clear hw hb; have HG := Lib.hid hg; clear hg)
    go_quiet ((refine Calls.quiet_of_same (specWidth_is l _); done))
    go_wp2
    go_ret
    exact ⟨rfl, g_drewN HG.out _⟩
  · have e : startOf r l i = -1 := if_neg h
    rw [Bool.not_eq_true] at h
    rw [e]
    go_enter Try.func25, Try.ntmps25
    go_wp2_with (go_at_call 21; (with_reducible refine (specOk_is r l i _).mono ?_); rintro e w' ⟨rfl, n, rfl⟩)
    go_ret
    exact ⟨rfl, g_drewN (g_alloc (g_alloc (grown_refl _) _) _) _⟩

theorem up_is (r l i : Int) (hl0 : 1 ≤ l) (hl1 : l ≤ 4) (hi0 : 0 ≤ i) (hi1 : i ≤ 15) (w : World) :
    Calls Try.prog 35 #[.agg #[.int .i64 r, .int .i64 l, .int .i64 i]] w fun e w' =>
      e = .returned (.agg #[.int .i64 r, .int .i64 (l - 1), .int .i64 (i / 2)]) ∧ w' = (w.alloc (cellOf 25 r l i)).alloc (cellOf 25 r (l - 1) (i / 2)) := by
  go_enter Try.func35, Try.ntmps35
  go_wp2
  exact bodyPost_ret_by (results_cell_row (fn := Try.f35) rfl _ _ (w.heap.size + 1) _ _ (0, 0) _ rfl (heap_alloc2_new _ _ _) Try.underlying25 rfl (by kernel_rfl)) rfl ⟨rfl, rfl⟩

theorem down_is (r l i s : Int) (hl0 : 0 ≤ l) (hl1 : l ≤ 4) (hi0 : 0 ≤ i) (hi1 : i ≤ 15) (hs0 : 0 ≤ s) (hs1 : s ≤ 1) (w : World) :
    Calls Try.prog 34 #[.agg #[.int .i64 r, .int .i64 l, .int .i64 i], .int .i64 s] w fun e w' =>
      e = .returned (.agg #[.int .i64 r, .int .i64 (l + 1), .int .i64 (2 * i + s)]) ∧ w' = (w.alloc (cellOf 25 r l i)).alloc (cellOf 25 r (l + 1) (2 * i + s)) := by
  go_enter Try.func34, Try.ntmps34
  go_wp2
  exact bodyPost_ret_by (results_cell_row (fn := Try.f34) rfl _ _ (w.heap.size + 1) _ _ (0, 0) _ rfl (heap_alloc2_new _ _ _) Try.underlying25 rfl (by kernel_rfl)) rfl ⟨rfl, rfl⟩

theorem parent_bad (r l i : Int) (h : okId r l i = false) (w : World) :
    Calls Try.prog 17 #[.agg #[.int .i64 r, .int .i64 l, .int .i64 i]] w fun e w' =>
      e = .returned (.tuple #[.agg #[.int .i64 0, .int .i64 0, .int .i64 0], .bool false]) ∧ w.grownBy w' none := by
  go_enter Try.func17, Try.ntmps17
  go_wp2_with (go_at_call 33; (with_reducible refine (valid_is r l i _).mono ?_); rintro e w' ⟨rfl, n, rfl⟩)
  refine bodyPost_ret_by (v := .tuple #[.agg #[.int .i64 0, .int .i64 0, .int .i64 0], .bool false]) (by rw [results_cell_tmp rfl]; go_simp) rfl ⟨rfl, ?_⟩
  repeat (first | exact grown_refl _ | refine g_alloc ?_ _ | refine g_drewN ?_ _ | refine g_set ?_ _ _ _ (by omega))

theorem parent_root (r i : Int) (h : okId r 0 i = true) (w : World) :
    Calls Try.prog 17 #[.agg #[.int .i64 r, .int .i64 0, .int .i64 i]] w fun e w' =>
      e = .returned (.tuple #[.agg #[.int .i64 0, .int .i64 0, .int .i64 0], .bool false]) ∧ w.grownBy w' none := by
  go_enter Try.func17, Try.ntmps17
  go_wp2_with (go_at_call 33; (with_reducible refine (valid_is r 0 i _).mono ?_); rintro e w' ⟨rfl, n, rfl⟩)
  refine bodyPost_ret_by (v := .tuple #[.agg #[.int .i64 0, .int .i64 0, .int .i64 0], .bool false]) (by rw [results_cell_tmp rfl]; go_simp) rfl ⟨rfl, ?_⟩
  repeat (first | exact grown_refl _ | refine g_alloc ?_ _ | refine g_drewN ?_ _ | refine g_set ?_ _ _ _ (by omega))

theorem parent_yes (r l i : Int) (h : okId r l i = true) (hl : l ≠ 0) (w : World) :
    Calls Try.prog 17 #[.agg #[.int .i64 r, .int .i64 l, .int .i64 i]] w fun e w' =>
      e = .returned (.tuple #[.agg #[.int .i64 r, .int .i64 (l - 1), .int .i64 (i / 2)], .bool true]) ∧ w.grownBy w' none := by
  obtain ⟨h0, h1, h2, h3, h4, h5, h6, h7⟩ := bounds h
  clear h6 h7
  go_enter Try.func17, Try.ntmps17
  go_wp2_with (first
    | (go_at_call 33; (with_reducible refine (valid_is r l i _).mono ?_); rintro e w' ⟨rfl, n, rfl⟩)
    | (go_at_call 35; (with_reducible refine (up_is r l i (by omega) (by omega) (by omega) (by omega) _).mono ?_); rintro e w' ⟨rfl, rfl⟩))
  refine bodyPost_ret_by (v := .tuple #[.agg #[.int .i64 r, .int .i64 (l - 1), .int .i64 (i / 2)], .bool true]) (by rw [results_cell_tmp rfl]; go_simp) rfl ⟨rfl, ?_⟩
  repeat (first | exact grown_refl _ | refine g_alloc ?_ _ | refine g_drewN ?_ _ | refine g_set ?_ _ _ _ (by omega))

theorem specParent_bad (r l i : Int) (h : okId r l i = false) (w : World) :
    Calls Try.prog 26 #[.agg #[.int .i64 r, .int .i64 l, .int .i64 i]] w fun e w' =>
      e = .returned (.tuple #[.agg #[.int .i64 0, .int .i64 0, .int .i64 0], .bool false]) ∧ w.grownBy w' none := by
  go_enter Try.func26, Try.ntmps26
  go_wp2_with (go_at_call 21; (with_reducible refine (specOk_is r l i _).mono ?_); rintro e w' ⟨rfl, n, rfl⟩)
  refine bodyPost_ret_by (v := .tuple #[.agg #[.int .i64 0, .int .i64 0, .int .i64 0], .bool false]) (by rw [results_cell_tmp rfl]; go_simp) rfl ⟨rfl, ?_⟩
  repeat (first | exact grown_refl _ | refine g_alloc ?_ _ | refine g_drewN ?_ _ | refine g_set ?_ _ _ _ (by omega))

theorem specParent_root (r i : Int) (h : okId r 0 i = true) (w : World) :
    Calls Try.prog 26 #[.agg #[.int .i64 r, .int .i64 0, .int .i64 i]] w fun e w' =>
      e = .returned (.tuple #[.agg #[.int .i64 0, .int .i64 0, .int .i64 0], .bool false]) ∧ w.grownBy w' none := by
  go_enter Try.func26, Try.ntmps26
  go_wp2_with (go_at_call 21; (with_reducible refine (specOk_is r 0 i _).mono ?_); rintro e w' ⟨rfl, n, rfl⟩)
  refine bodyPost_ret_by (v := .tuple #[.agg #[.int .i64 0, .int .i64 0, .int .i64 0], .bool false]) (by rw [results_cell_tmp rfl]; go_simp) rfl ⟨rfl, ?_⟩
  repeat (first | exact grown_refl _ | refine g_alloc ?_ _ | refine g_drewN ?_ _ | refine g_set ?_ _ _ _ (by omega))

theorem specParent_yes (r l i : Int) (h : okId r l i = true) (hl : l ≠ 0) (w : World) :
    Calls Try.prog 26 #[.agg #[.int .i64 r, .int .i64 l, .int .i64 i]] w fun e w' =>
      e = .returned (.tuple #[.agg #[.int .i64 r, .int .i64 (l - 1), .int .i64 (i / 2)], .bool true]) ∧ w.grownBy w' none := by
  obtain ⟨h0, h1, h2, h3, h4, h5, h6, h7⟩ := bounds h
  clear h6 h7
  go_enter Try.func26, Try.ntmps26
  go_wp2_with (first
    | (go_at_call 21; (with_reducible refine (specOk_is r l i _).mono ?_); rintro e w' ⟨rfl, n, rfl⟩))
  refine bodyPost_ret_by (v := .tuple #[.agg #[.int .i64 r, .int .i64 (l - 1), .int .i64 (i / 2)], .bool true]) (by rw [results_cell_tmp rfl]; go_simp) rfl ⟨rfl, ?_⟩
  repeat (first | exact grown_refl _ | refine g_alloc ?_ _ | refine g_drewN ?_ _ | refine g_set ?_ _ _ _ (by omega))

end Go.Proofs.Ythecidagejagmaa.Cell
