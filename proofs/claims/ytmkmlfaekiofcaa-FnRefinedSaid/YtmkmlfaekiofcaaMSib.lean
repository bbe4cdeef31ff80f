/- Cells over the meshes' trimmed text: the method parent, ParentOf and IsSibling of the program and of the reference model, as contracts: what each answers; nothing that was there is written.
   Conditions: none. -/
import Derived.Test.YtmkmlfaekiofcaaMCell
import Derived.Deep.RegionHeld3
import Derived.Deep.RegionWith
namespace Go.Proofs.Ytmkmlfaekiofcaa.Cell
open Go.ChangeShapes Go.WideShapes Go.ChangeAt Go.RowKit
theorem up_is (r l i : Int) (hl0 : 1 ≤ l) (hl1 : l ≤ 4) (hi0 : 0 ≤ i) (hi1 : i ≤ 15) (w : World) :
    Calls Try.prog 72 #[.agg #[.int .i64 r, .int .i64 l, .int .i64 i]] w fun e w' =>
      e = .returned (.agg #[.int .i64 r, .int .i64 (l - 1), .int .i64 (i / 2)]) ∧ w' = (w.alloc (cellOf 33 r l i)).alloc (cellOf 33 r (l - 1) (i / 2)) := by
  go_enter Try.func72, Try.ntmps72
  go_wp2
  exact bodyPost_ret_by (results_cell_row (fn := Try.f72) rfl _ _ (w.heap.size + 1) _ _ (0, 0) _ rfl (heap_alloc2_new _ _ _) Try.underlying33 rfl (by kernel_rfl)) rfl ⟨rfl, rfl⟩
theorem down_is (r l i s : Int) (hl0 : 0 ≤ l) (hl1 : l ≤ 4) (hi0 : 0 ≤ i) (hi1 : i ≤ 15) (hs0 : 0 ≤ s) (hs1 : s ≤ 1) (w : World) :
    Calls Try.prog 69 #[.agg #[.int .i64 r, .int .i64 l, .int .i64 i], .int .i64 s] w fun e w' =>
      e = .returned (.agg #[.int .i64 r, .int .i64 (l + 1), .int .i64 (2 * i + s)]) ∧ w' = (w.alloc (cellOf 33 r l i)).alloc (cellOf 33 r (l + 1) (2 * i + s)) := by
  go_enter Try.func69, Try.ntmps69
  go_wp2
  exact bodyPost_ret_by (results_cell_row (fn := Try.f69) rfl _ _ (w.heap.size + 1) _ _ (0, 0) _ rfl (heap_alloc2_new _ _ _) Try.underlying33 rfl (by kernel_rfl)) rfl ⟨rfl, rfl⟩
theorem parent_bad (r l i : Int) (h : okId r l i = false) (w : World) :
    Calls Try.prog 73 #[.agg #[.int .i64 r, .int .i64 l, .int .i64 i]] w fun e w' =>
      e = .returned (.tuple #[.agg #[.int .i64 0, .int .i64 0, .int .i64 0], .bool false]) ∧ w.grownBy w' none := by
  go_enter Try.func73, Try.ntmps73
  go_wp2_with (go_at_call 85; (with_reducible refine (valid_is r l i _).mono ?_); rintro e w' ⟨rfl, n, rfl⟩)
  refine bodyPost_ret_by (v := .tuple #[.agg #[.int .i64 0, .int .i64 0, .int .i64 0], .bool false]) (by rw [results_cell_tmp rfl]; go_simp) rfl ⟨rfl, ?_⟩
  repeat (first | exact grown_refl _ | refine g_alloc ?_ _ | refine g_drewN ?_ _ | refine g_set ?_ _ _ _ (by omega))
theorem parent_root (r i : Int) (h : okId r 0 i = true) (w : World) :
    Calls Try.prog 73 #[.agg #[.int .i64 r, .int .i64 0, .int .i64 i]] w fun e w' =>
      e = .returned (.tuple #[.agg #[.int .i64 0, .int .i64 0, .int .i64 0], .bool false]) ∧ w.grownBy w' none := by
  go_enter Try.func73, Try.ntmps73
  go_wp2_with (go_at_call 85; (with_reducible refine (valid_is r 0 i _).mono ?_); rintro e w' ⟨rfl, n, rfl⟩)
  refine bodyPost_ret_by (v := .tuple #[.agg #[.int .i64 0, .int .i64 0, .int .i64 0], .bool false]) (by rw [results_cell_tmp rfl]; go_simp) rfl ⟨rfl, ?_⟩
  repeat (first | exact grown_refl _ | refine g_alloc ?_ _ | refine g_drewN ?_ _ | refine g_set ?_ _ _ _ (by omega))
theorem parent_yes (r l i : Int) (h : okId r l i = true) (hl : l ≠ 0) (w : World) :
    Calls Try.prog 73 #[.agg #[.int .i64 r, .int .i64 l, .int .i64 i]] w fun e w' =>
      e = .returned (.tuple #[.agg #[.int .i64 r, .int .i64 (l - 1), .int .i64 (i / 2)], .bool true]) ∧ w.grownBy w' none := by
  obtain ⟨h0, h1, h2, h3, h4, h5, h6, h7⟩ := bounds h
  clear h6 h7
  go_enter Try.func73, Try.ntmps73
  go_wp2_with (first
    | (go_at_call 85; (with_reducible refine (valid_is r l i _).mono ?_); rintro e w' ⟨rfl, n, rfl⟩)
    | (go_at_call 72; (with_reducible refine (up_is r l i (by omega) (by omega) (by omega) (by omega) _).mono ?_); rintro e w' ⟨rfl, rfl⟩))
  refine bodyPost_ret_by (v := .tuple #[.agg #[.int .i64 r, .int .i64 (l - 1), .int .i64 (i / 2)], .bool true]) (by rw [results_cell_tmp rfl]; go_simp) rfl ⟨rfl, ?_⟩
  repeat (first | exact grown_refl _ | refine g_alloc ?_ _ | refine g_drewN ?_ _ | refine g_set ?_ _ _ _ (by omega))
theorem specParent_bad (r l i : Int) (h : okId r l i = false) (w : World) :
    Calls Try.prog 79 #[.agg #[.int .i64 r, .int .i64 l, .int .i64 i]] w fun e w' =>
      e = .returned (.tuple #[.agg #[.int .i64 0, .int .i64 0, .int .i64 0], .bool false]) ∧ w.grownBy w' none := by
  go_enter Try.func79, Try.ntmps79
  go_wp2_with (go_at_call 48; (with_reducible refine (specOk_is r l i _).mono ?_); rintro e w' ⟨rfl, n, rfl⟩)
  refine bodyPost_ret_by (v := .tuple #[.agg #[.int .i64 0, .int .i64 0, .int .i64 0], .bool false]) (by rw [results_cell_tmp rfl]; go_simp) rfl ⟨rfl, ?_⟩
  repeat (first | exact grown_refl _ | refine g_alloc ?_ _ | refine g_drewN ?_ _ | refine g_set ?_ _ _ _ (by omega))
theorem specParent_root (r i : Int) (h : okId r 0 i = true) (w : World) :
    Calls Try.prog 79 #[.agg #[.int .i64 r, .int .i64 0, .int .i64 i]] w fun e w' =>
      e = .returned (.tuple #[.agg #[.int .i64 0, .int .i64 0, .int .i64 0], .bool false]) ∧ w.grownBy w' none := by
  go_enter Try.func79, Try.ntmps79
  go_wp2_with (go_at_call 48; (with_reducible refine (specOk_is r 0 i _).mono ?_); rintro e w' ⟨rfl, n, rfl⟩)
  refine bodyPost_ret_by (v := .tuple #[.agg #[.int .i64 0, .int .i64 0, .int .i64 0], .bool false]) (by rw [results_cell_tmp rfl]; go_simp) rfl ⟨rfl, ?_⟩
  repeat (first | exact grown_refl _ | refine g_alloc ?_ _ | refine g_drewN ?_ _ | refine g_set ?_ _ _ _ (by omega))
theorem specParent_yes (r l i : Int) (h : okId r l i = true) (hl : l ≠ 0) (w : World) :
    Calls Try.prog 79 #[.agg #[.int .i64 r, .int .i64 l, .int .i64 i]] w fun e w' =>
      e = .returned (.tuple #[.agg #[.int .i64 r, .int .i64 (l - 1), .int .i64 (i / 2)], .bool true]) ∧ w.grownBy w' none := by
  obtain ⟨h0, h1, h2, h3, h4, h5, h6, h7⟩ := bounds h
  clear h6 h7
  go_enter Try.func79, Try.ntmps79
  go_wp2_with (first
    | (go_at_call 48; (with_reducible refine (specOk_is r l i _).mono ?_); rintro e w' ⟨rfl, n, rfl⟩))
  refine bodyPost_ret_by (v := .tuple #[.agg #[.int .i64 r, .int .i64 (l - 1), .int .i64 (i / 2)], .bool true]) (by rw [results_cell_tmp rfl]; go_simp) rfl ⟨rfl, ?_⟩
  repeat (first | exact grown_refl _ | refine g_alloc ?_ _ | refine g_drewN ?_ _ | refine g_set ?_ _ _ _ (by omega))
/-- Is there a parent; its three fields. -/
def parB (r l i : Int) : Bool := okId r l i && decide (l ≠ 0)
def parR (r l i : Int) : Int := if parB r l i then r else 0
def parL (r l i : Int) : Int := if parB r l i then l - 1 else 0
def parI (r l i : Int) : Int := if parB r l i then i / 2 else 0
/-- A pair of a cell and a bool. -/
abbrev pairOf (r l i : Int) (b : Bool) : Value := .tuple #[.agg #[.int .i64 r, .int .i64 l, .int .i64 i], .bool b]
theorem par_no {r l i : Int} (h : parB r l i = false) : Ending.returned (.tuple #[.agg #[.int .i64 0, .int .i64 0, .int .i64 0], .bool false]) = .returned (pairOf (parR r l i) (parL r l i) (parI r l i) (parB r l i)) := by
  simp [parR, parL, parI, h]
theorem par_yes {r l i : Int} (h : parB r l i = true) : Ending.returned (.tuple #[.agg #[.int .i64 r, .int .i64 (l - 1), .int .i64 (i / 2)], .bool true]) = .returned (pairOf (parR r l i) (parL r l i) (parI r l i) (parB r l i)) := by
  simp [parR, parL, parI, h]
theorem par_is (r l i : Int) (w : World) :
    Calls Try.prog 73 #[.agg #[.int .i64 r, .int .i64 l, .int .i64 i]] w fun e w' => e = .returned (pairOf (parR r l i) (parL r l i) (parI r l i) (parB r l i)) ∧ w.grownBy w' none := by
  by_cases h : okId r l i = true
  · by_cases h0 : l = 0
    · subst h0
      exact (parent_root r i h w).mono fun _ _ ⟨he, hg⟩ => ⟨he.trans (par_no (by simp [parB])), hg⟩
    · exact (parent_yes r l i h h0 w).mono fun _ _ ⟨he, hg⟩ => ⟨he.trans (par_yes (by simp [parB, h, h0])), hg⟩
  · rw [Bool.not_eq_true] at h
    exact (parent_bad r l i h w).mono fun _ _ ⟨he, hg⟩ => ⟨he.trans (par_no (by simp [parB, h])), hg⟩
theorem specPar_is (r l i : Int) (w : World) :
    Calls Try.prog 79 #[.agg #[.int .i64 r, .int .i64 l, .int .i64 i]] w fun e w' => e = .returned (pairOf (parR r l i) (parL r l i) (parI r l i) (parB r l i)) ∧ w.grownBy w' none := by
  by_cases h : okId r l i = true
  · by_cases h0 : l = 0
    · subst h0
      exact (specParent_root r i h w).mono fun _ _ ⟨he, hg⟩ => ⟨he.trans (par_no (by simp [parB])), hg⟩
    · exact (specParent_yes r l i h h0 w).mono fun _ _ ⟨he, hg⟩ => ⟨he.trans (par_yes (by simp [parB, h, h0])), hg⟩
  · rw [Bool.not_eq_true] at h
    exact (specParent_bad r l i h w).mono fun _ _ ⟨he, hg⟩ => ⟨he.trans (par_no (by simp [parB, h])), hg⟩
/-- Are they the left and the right child of one cell. -/
def sibB (r l i r' l' i' : Int) : Bool := okId r l i && (okId r' l' i' && (decide (r = r') && (decide (l = l') && (decide (i % 2 = 0) && decide (i' = i + 1)))))
set_option maxHeartbeats 2000000 in
theorem specSib_is (r l i r' l' i' : Int) (w : World) :
    Calls Try.prog 78 #[.agg #[.int .i64 r, .int .i64 l, .int .i64 i], .agg #[.int .i64 r', .int .i64 l', .int .i64 i']] w fun e w' => e = .returned (.bool (sibB r l i r' l' i')) ∧ w.grownBy w' none := by
  by_cases h1 : ¬ okId r l i = true
  · rw [Bool.not_eq_true] at h1
    have hs : sibB r l i r' l' i' = false := by simp [sibB, h1]
    rw [hs]
    go_enter Try.func78, Try.ntmps78
    go_wp2_with (go_at_call 48; (with_reducible refine (specOk_is r l i _).mono ?_); rintro e w' ⟨rfl, n, rfl⟩)
    go_ret
    refine ⟨rfl, ?_⟩
    repeat (first | exact grown_refl _ | refine g_alloc ?_ _ | refine g_drewN ?_ _)
  rw [Decidable.not_not] at h1
  by_cases h2 : ¬ okId r' l' i' = true
  · rw [Bool.not_eq_true] at h2
    have hs : sibB r l i r' l' i' = false := by simp [sibB, h2]
    rw [hs]
    go_enter Try.func78, Try.ntmps78
    go_wp2_with (first
      | (go_at_call 48; (with_reducible refine (specOk_is r l i _).mono ?_); rintro e w' ⟨rfl, n, rfl⟩)
      | (go_at_call 48; (with_reducible refine (specOk_is r' l' i' _).mono ?_); rintro e w' ⟨rfl, n, rfl⟩))
    go_ret
    refine ⟨rfl, ?_⟩
    repeat (first | exact grown_refl _ | refine g_alloc ?_ _ | refine g_drewN ?_ _)
  rw [Decidable.not_not] at h2
  obtain ⟨q0, q1, q2, q3, q4, q5, -, -⟩ := bounds h1
  by_cases h3 : ¬ r = r'
  · have hs : sibB r l i r' l' i' = false := by simp [sibB, h3]
    have hb : (r == r') = false := by simp [h3]
    rw [hs]
    go_enter Try.func78, Try.ntmps78
    go_wp2_with (first
      | (go_at_call 48; (with_reducible refine (specOk_is r l i _).mono ?_); rintro e w' ⟨rfl, n, rfl⟩)
      | (go_at_call 48; (with_reducible refine (specOk_is _ _ i' _).mono ?_); rintro e w' ⟨rfl, n, rfl⟩))
    go_ret
    refine ⟨rfl, ?_⟩
    repeat (first | exact grown_refl _ | refine g_alloc ?_ _ | refine g_drewN ?_ _)
  rw [Decidable.not_not] at h3
  subst h3
  by_cases h4 : ¬ l = l'
  · have hs : sibB r l i r l' i' = false := by simp [sibB, h4]
    have hb : (l == l') = false := by simp [h4]
    rw [hs]
    go_enter Try.func78, Try.ntmps78
    go_wp2_with (first
      | (go_at_call 48; (with_reducible refine (specOk_is r l i _).mono ?_); rintro e w' ⟨rfl, n, rfl⟩)
      | (go_at_call 48; (with_reducible refine (specOk_is _ _ i' _).mono ?_); rintro e w' ⟨rfl, n, rfl⟩))
    go_ret
    refine ⟨rfl, ?_⟩
    repeat (first | exact grown_refl _ | refine g_alloc ?_ _ | refine g_drewN ?_ _)
  rw [Decidable.not_not] at h4
  subst h4
  by_cases h5 : ¬ i % 2 = 0
  · have hs : sibB r l i r l i' = false := by simp [sibB, h5]
    have hb : (i % 2 == 0) = false := by simp [h5]
    rw [hs]
    go_enter Try.func78, Try.ntmps78
    go_wp2_with (first
      | (go_at_call 48; (with_reducible refine (specOk_is r l i _).mono ?_); rintro e w' ⟨rfl, n, rfl⟩)
      | (go_at_call 48; (with_reducible refine (specOk_is _ _ i' _).mono ?_); rintro e w' ⟨rfl, n, rfl⟩))
    go_ret
    refine ⟨rfl, ?_⟩
    repeat (first | exact grown_refl _ | refine g_alloc ?_ _ | refine g_drewN ?_ _)
  rw [Decidable.not_not] at h5
  by_cases h6 : ¬ i' = i + 1
  · have hs : sibB r l i r l i' = false := by simp [sibB, h6]
    have hb : (i' == i + 1) = false := by simp [h6]
    rw [hs]
    go_enter Try.func78, Try.ntmps78
    go_wp2_with (first
      | (go_at_call 48; (with_reducible refine (specOk_is r l i _).mono ?_); rintro e w' ⟨rfl, n, rfl⟩)
      | (go_at_call 48; (with_reducible refine (specOk_is _ _ i' _).mono ?_); rintro e w' ⟨rfl, n, rfl⟩))
    go_ret
    refine ⟨rfl, ?_⟩
    repeat (first | exact grown_refl _ | refine g_alloc ?_ _ | refine g_drewN ?_ _)
  rw [Decidable.not_not] at h6
  subst h6
  have hs : sibB r l i r l (i + 1) = true := by simp [sibB, h1, h2, h5]
  rw [hs]
  have hb : (i % 2 == 0) = true := by simp [h5]
  go_enter Try.func78, Try.ntmps78
  go_wp2_with (first
    | (go_at_call 48; (with_reducible refine (specOk_is r l i _).mono ?_); rintro e w' ⟨rfl, n, rfl⟩)
    | (go_at_call 48; (with_reducible refine (specOk_is r l (i + 1) _).mono ?_); rintro e w' ⟨rfl, n, rfl⟩))
  go_ret
  refine ⟨rfl, ?_⟩
  repeat (first | exact grown_refl _ | refine g_alloc ?_ _ | refine g_drewN ?_ _)
theorem g_drew {w a : World} (h : w.grownBy a none) : w.grownBy a.drew none := ⟨h.os, h.tape, h.output, h.size, h.block⟩
theorem laid_new2 (w : World) (o : Obj) (t : TypeId) (r l i : Int) : Laid ((w.alloc o).alloc (.cells #[.int .i64 r, .int .i64 l, .int .i64 i] t)) (w.heap.size + 1) r l i := by
  have := laid_new (w.alloc o) t r l i
  simpa using this
theorem down_to (r l i s l' i' : Int) (hl0 : 0 ≤ l) (hl1 : l ≤ 4) (hi0 : 0 ≤ i) (hi1 : i ≤ 15) (hs0 : 0 ≤ s) (hs1 : s ≤ 1) (hl : l + 1 = l') (hi : 2 * i + s = i') (w : World) :
    Calls Try.prog 69 #[.agg #[.int .i64 r, .int .i64 l, .int .i64 i], .int .i64 s] w fun e w' => e = .returned (.agg #[.int .i64 r, .int .i64 l', .int .i64 i']) ∧ w.grownBy w' none :=
  (down_is r l i s hl0 hl1 hi0 hi1 hs0 hs1 w).mono fun _ _ ⟨he, hw⟩ => ⟨by rw [he, hl, hi], hw ▸ g_alloc (g_alloc (grown_refl _) _) _⟩
set_option maxHeartbeats 4000000 in
theorem sib_even (r l i r' l' i' : Int) (h : okId r l i = true) (hl : l ≠ 0) (h2 : i % 2 = 0) (b : Bool)
    (hc : (b = false ∧ (r' == r) = false) ∨ (b = false ∧ (r' == r) = true ∧ (l' == l) = false) ∨ (b = false ∧ (r' == r) = true ∧ (l' == l) = true ∧ (i' == i + 1) = false) ∨ (b = true ∧ (r' == r) = true ∧ (l' == l) = true ∧ (i' == i + 1) = true)) (w : World) :
    Calls Try.prog 47 #[.agg #[.int .i64 r, .int .i64 l, .int .i64 i], .agg #[.int .i64 r', .int .i64 l', .int .i64 i']] w fun e w' => e = .returned (.bool b) ∧ w.grownBy w' none := by
  obtain ⟨q0, q1, q2, q3, q4, q5, -, -⟩ := bounds h
  rcases hc with ⟨rfl, e1⟩ | ⟨rfl, e1, e2⟩ | ⟨rfl, e1, e2, e3⟩ | ⟨rfl, e1, e2, e3⟩
  all_goals
    go_enter Try.func47, Try.ntmps47
    go_wp2_with fail
    refine (parent_yes r l i h hl _).mono ?_; rintro e w1 ⟨rfl, hg1⟩
    have LA := (((laid_new w 33 r l i).past _).on hg1).past (cellOf 33 r (l - 1) (i / 2))
    have LB := ((laid_new2 w _ _ r' l' i').on hg1).past (cellOf 33 r (l - 1) (i / 2))
    have LP := laid_new w1 33 r (l - 1) (i / 2)
    have hg : w.grownBy (w1.alloc (cellOf 33 r (l - 1) (i / 2))) none := g_alloc (grown_trans (g_alloc (g_alloc (grown_refl _) _) _) hg1) _
    have HA := Lib.hid LA; have HB := Lib.hid LB; have HP := Lib.hid LP; have HG := Lib.hid hg; clear LA LB LP hg hg1
    go_wp2_with fail
    obtain ⟨a0, a1, a2, -⟩ := HA.out; obtain ⟨b0, b1, b2, -⟩ := HB.out; obtain ⟨p0, p1, p2, -⟩ := HP.out
    have hg := HG.out
    clear HA HB HP HG
    generalize w1.alloc (cellOf 33 r (l - 1) (i / 2)) = w2 at *
    go_region_held3 (fun w' => w'.cell? ⟨w.heap.size, 0, none⟩ = some (.int .i64 r) ∧ w'.cell? ⟨w.heap.size, 1, none⟩ = some (.int .i64 l) ∧ w'.cell? ⟨w.heap.size, 2, none⟩ = some (.int .i64 i)
        ∧ w'.cell? ⟨w.heap.size + 1, 0, none⟩ = some (.int .i64 r') ∧ w'.cell? ⟨w.heap.size + 1, 1, none⟩ = some (.int .i64 l') ∧ w'.cell? ⟨w.heap.size + 1, 2, none⟩ = some (.int .i64 i')
        ∧ w'.cell? ⟨w1.heap.size, 0, none⟩ = some (.int .i64 r) ∧ w'.cell? ⟨w1.heap.size, 1, none⟩ = some (.int .i64 (l - 1)) ∧ w'.cell? ⟨w1.heap.size, 2, none⟩ = some (.int .i64 (i / 2)) ∧ w.grownBy w' none)
      ((go_split_ands; refine ⟨?_, ?_, ?_, ?_, ?_, ?_, ?_, ?_, ?_, ?_⟩ <;> first | assumption | exact hgc.cell (by assumption) (by simp) | exact grown_trans (by assumption) hgc | exact g_drew hg))
      (first
        | (go_at_call 69; ((with_reducible refine (down_to r (l - 1) (i / 2) 0 l (i) (by omega) (by omega) (by omega) (by omega) (by omega) (by omega) (by omega) (by omega) _).mono ?_); rintro e w'' ⟨rfl, hgc⟩))
        | (go_at_call 69; ((with_reducible refine (down_to r (l - 1) (i / 2) 1 l (i + 1) (by omega) (by omega) (by omega) (by omega) (by omega) (by omega) (by omega) (by omega) _).mono ?_); rintro e w'' ⟨rfl, hgc⟩)))
    go_split_ands
    go_wp2
    go_ret
    exact ⟨rfl, by assumption⟩
set_option maxHeartbeats 2000000 in
theorem sib_odd (r l i r' l' i' : Int) (h : okId r l i = true) (hl : l ≠ 0) (h2 : ¬ i % 2 = 0) (w : World) :
    Calls Try.prog 47 #[.agg #[.int .i64 r, .int .i64 l, .int .i64 i], .agg #[.int .i64 r', .int .i64 l', .int .i64 i']] w fun e w' => e = .returned (.bool false) ∧ w.grownBy w' none := by
  obtain ⟨q0, q1, q2, q3, q4, q5, -, -⟩ := bounds h
  obtain ⟨j, hj⟩ : ∃ j, 2 * (i / 2) + 0 = j := ⟨_, rfl⟩
  have e3 : (i == j) = false := by simp; omega
  go_enter Try.func47, Try.ntmps47
  go_wp2_with fail
  refine (parent_yes r l i h hl _).mono ?_; rintro e w1 ⟨rfl, hg1⟩
  have LA := (((laid_new w 33 r l i).past _).on hg1).past (cellOf 33 r (l - 1) (i / 2))
  have LB := ((laid_new2 w _ _ r' l' i').on hg1).past (cellOf 33 r (l - 1) (i / 2))
  have LP := laid_new w1 33 r (l - 1) (i / 2)
  have hg : w.grownBy (w1.alloc (cellOf 33 r (l - 1) (i / 2))) none := g_alloc (grown_trans (g_alloc (g_alloc (grown_refl _) _) _) hg1) _
  have HA := Lib.hid LA; have HB := Lib.hid LB; have HP := Lib.hid LP; have HG := Lib.hid hg; clear LA LB LP hg hg1
  go_wp2_with fail
  have LA := HA.out
  have hg := HG.out
  obtain ⟨a0, a1, a2, -⟩ := HA.out; obtain ⟨p0, p1, p2, -⟩ := HP.out
  clear HA HB HP HG
  generalize w1.alloc (cellOf 33 r (l - 1) (i / 2)) = w2 at *
  have HA := Lib.hid LA; have HG := Lib.hid hg; clear LA hg
  go_region_with (go_at_call 69; ((with_reducible refine (down_to r (l - 1) (i / 2) 0 l j (by omega) (by omega) (by omega) (by omega) (by omega) (by omega) (by omega) (by omega) _).mono ?_); rintro e w'' ⟨rfl, hgc⟩; obtain ⟨c0, c1, c2, -⟩ := (HA.out.on (by first | exact g_drew (grown_refl _) | exact grown_refl _)).on hgc; have hgd := grown_trans (by first | exact g_drew HG.out | exact HG.out) hgc; clear hgc; have HD := Lib.hid hgd; clear hgd))
  all_goals go_wp2
  all_goals go_ret
  all_goals exact ⟨rfl, HD.out⟩
theorem sib_none (r l i r' l' i' : Int) (h : parB r l i = false) (w : World) :
    Calls Try.prog 47 #[.agg #[.int .i64 r, .int .i64 l, .int .i64 i], .agg #[.int .i64 r', .int .i64 l', .int .i64 i']] w fun e w' => e = .returned (.bool false) ∧ w.grownBy w' none := by
  have hp : ∀ u : World, Calls Try.prog 73 #[.agg #[.int .i64 r, .int .i64 l, .int .i64 i]] u fun e w' => e = .returned (.tuple #[.agg #[.int .i64 0, .int .i64 0, .int .i64 0], .bool false]) ∧ u.grownBy w' none :=
    fun u => (par_is r l i u).mono fun _ _ ⟨he, hg⟩ => ⟨he.trans (par_no h).symm, hg⟩
  go_enter Try.func47, Try.ntmps47
  go_wp2_with fail
  refine (hp _).mono ?_; rintro e w1 ⟨rfl, hg1⟩
  clear hp
  have HG := Lib.hid hg1; clear hg1
  go_wp2_with fail
  go_quiet (fail)
  go_wp2
  go_ret
  exact ⟨rfl, g_drewN (g_alloc (grown_trans (g_alloc (g_alloc (grown_refl _) _) _) HG.out) _) _⟩
theorem ok_next {r l i : Int} (h : okId r l i = true) (hl : l ≠ 0) (h2 : i % 2 = 0) : okId r l (i + 1) = true := by
  obtain ⟨h0, h1, h3, h4, h5, h6⟩ := of_ok h
  apply ok_true
  rcases lvl h3 h4 with rfl | rfl | rfl | rfl | rfl
  · exact absurd rfl hl
  all_goals
    simp at h6 ⊢
    omega
theorem sib_is (r l i r' l' i' : Int) (w : World) :
    Calls Try.prog 47 #[.agg #[.int .i64 r, .int .i64 l, .int .i64 i], .agg #[.int .i64 r', .int .i64 l', .int .i64 i']] w fun e w' => e = .returned (.bool (sibB r l i r' l' i')) ∧ w.grownBy w' none := by
  by_cases h : okId r l i = true
  · by_cases hl : l = 0
    · subst hl
      have hs : sibB r 0 i r' l' i' = false := by
        by_cases h2 : okId r' l' i' = true
        · by_cases h3 : 0 = l'
          · subst h3
            have := (of_ok h).2.2.2.2
            have := (of_ok h2).2.2.2.2
            simp at *
            have h4 : ¬ i' = i + 1 := by omega
            simp [sibB, h4]
          · simp [sibB, h3]
        · rw [Bool.not_eq_true] at h2
          simp [sibB, h2]
      rw [hs]
      exact sib_none r 0 i r' l' i' (by simp [parB]) w
    · by_cases h2 : i % 2 = 0
      · apply sib_even r l i r' l' i' h hl h2
        by_cases h3 : r' = r
        · by_cases h4 : l' = l
          · by_cases h5 : i' = i + 1
            · subst h3 h4 h5
              exact .inr (.inr (.inr ⟨by simp [sibB, h, h2, ok_next h hl h2], by simp, by simp, by simp⟩))
            · exact .inr (.inr (.inl ⟨by simp [sibB, h5], by simp [h3], by simp [h4], by simp [h5]⟩))
          · exact .inr (.inl ⟨by simp [sibB, Ne.symm h4], by simp [h3], by simp [h4]⟩)
        · exact .inl ⟨by simp [sibB, Ne.symm h3], by simp [h3]⟩
      · have hs : sibB r l i r' l' i' = false := by simp [sibB, h2]
        rw [hs]
        exact sib_odd r l i r' l' i' h hl h2 w
  · rw [Bool.not_eq_true] at h
    have hs : sibB r l i r' l' i' = false := by simp [sibB, h]
    rw [hs]
    exact sib_none r l i r' l' i' (by simp [parB, h]) w
end Go.Proofs.Ytmkmlfaekiofcaa.Cell
