/- Cells over the meshes' trimmed text: the method parent, ParentOf and IsSibling of the program and of the reference model, as contracts: what each answers; nothing that was there is written. Meshes: two siblings replaced by their parent, what may be refined and what may be coarsened: plain lemmas. Meshes: MayRefine and MayCoarsen of the program, as contracts: what each answers; nothing that was there is written. Meshes: MayCoarsen of the program where there is no pair of leaves at the number, as contracts: it answers no; nothing that was there is written. Meshes: MayCoarsen of the program, as a contract: what it answers; nothing that was there is written. Meshes: MayRefine and MayCoarsen of the reference model, as contracts: what each answers; nothing that was there is written. Meshes: joinLeaves of the program, as a contract: two leaves replaced by the parent of the first, in memory of its own; nothing that was there is written. Meshes: RefineLeaf and CoarsenPair of the program, as contracts: the changed mesh or the mesh itself, in memory of its own; nothing that was there is written. Meshes: l06Merge, RefineLeaf and CoarsenPair of the reference model, as contracts: the changed mesh or the mesh itself, in memory of its own; nothing that was there is written. Meshes: SameMesh of the program and of the reference model, as contracts, at any two meshes; nothing that was there is written. (written by wip/tools/merge.py)
   Conditions: as each says. -/
import Derived.Test.YtfoilfgiablleaaPkMesh
import Derived.Deep.RegionHeld3
import Derived.Deep.RegionWith
import Derived.Test.YtfoilfgiablleaaMFaceI
import Derived.Test.YtfoilfgiablleaaPkCopy
import Derived.Test.YtfoilfgiablleaaMOkS
import Derived.Test.YtfoilfgiablleaaMBalAll
import Derived.ArgAppend
set_option maxRecDepth 100000
namespace Go.Proofs.Ytfoilfgiablleaa.Cell
open Go.ChangeShapes Go.WideShapes Go.ChangeAt Go.RowKit
theorem up_is (r l i : Int) (hl0 : 1 ≤ l) (hl1 : l ≤ 4) (hi0 : 0 ≤ i) (hi1 : i ≤ 15) (w : World) :
    Calls Try.prog 128 #[.agg #[.int .i64 r, .int .i64 l, .int .i64 i]] w fun e w' =>
      e = .returned (.agg #[.int .i64 r, .int .i64 (l - 1), .int .i64 (i / 2)]) ∧ w' = (w.alloc (cellOf 36 r l i)).alloc (cellOf 36 r (l - 1) (i / 2)) := by
  go_enter Try.func128, Try.ntmps128
  go_wp2
  exact bodyPost_ret_by (results_cell_row (fn := Try.f128) rfl _ _ (w.heap.size + 1) _ _ (0, 0) _ rfl (heap_alloc2_new _ _ _) Try.underlying36 rfl (by kernel_rfl)) rfl ⟨rfl, rfl⟩
theorem down_is (r l i s : Int) (hl0 : 0 ≤ l) (hl1 : l ≤ 4) (hi0 : 0 ≤ i) (hi1 : i ≤ 15) (hs0 : 0 ≤ s) (hs1 : s ≤ 1) (w : World) :
    Calls Try.prog 126 #[.agg #[.int .i64 r, .int .i64 l, .int .i64 i], .int .i64 s] w fun e w' =>
      e = .returned (.agg #[.int .i64 r, .int .i64 (l + 1), .int .i64 (2 * i + s)]) ∧ w' = (w.alloc (cellOf 36 r l i)).alloc (cellOf 36 r (l + 1) (2 * i + s)) := by
  go_enter Try.func126, Try.ntmps126
  go_wp2
  exact bodyPost_ret_by (results_cell_row (fn := Try.f126) rfl _ _ (w.heap.size + 1) _ _ (0, 0) _ rfl (heap_alloc2_new _ _ _) Try.underlying36 rfl (by kernel_rfl)) rfl ⟨rfl, rfl⟩
theorem parent_bad (r l i : Int) (h : okId r l i = false) (w : World) :
    Calls Try.prog 127 #[.agg #[.int .i64 r, .int .i64 l, .int .i64 i]] w fun e w' =>
      e = .returned (.tuple #[.agg #[.int .i64 0, .int .i64 0, .int .i64 0], .bool false]) ∧ w.grownBy w' none := by
  go_enter Try.func127, Try.ntmps127
  go_wp2_with (go_at_call 140; (with_reducible refine (valid_is r l i _).mono ?_); rintro e w' ⟨rfl, n, rfl⟩)
  refine bodyPost_ret_by (v := .tuple #[.agg #[.int .i64 0, .int .i64 0, .int .i64 0], .bool false]) (by rw [results_cell_tmp rfl]; go_simp) rfl ⟨rfl, ?_⟩
  repeat (first | exact grown_refl _ | refine g_alloc ?_ _ | refine g_drewN ?_ _ | refine g_set ?_ _ _ _ (by omega))
theorem parent_root (r i : Int) (h : okId r 0 i = true) (w : World) :
    Calls Try.prog 127 #[.agg #[.int .i64 r, .int .i64 0, .int .i64 i]] w fun e w' =>
      e = .returned (.tuple #[.agg #[.int .i64 0, .int .i64 0, .int .i64 0], .bool false]) ∧ w.grownBy w' none := by
  go_enter Try.func127, Try.ntmps127
  go_wp2_with (go_at_call 140; (with_reducible refine (valid_is r 0 i _).mono ?_); rintro e w' ⟨rfl, n, rfl⟩)
  refine bodyPost_ret_by (v := .tuple #[.agg #[.int .i64 0, .int .i64 0, .int .i64 0], .bool false]) (by rw [results_cell_tmp rfl]; go_simp) rfl ⟨rfl, ?_⟩
  repeat (first | exact grown_refl _ | refine g_alloc ?_ _ | refine g_drewN ?_ _ | refine g_set ?_ _ _ _ (by omega))
theorem parent_yes (r l i : Int) (h : okId r l i = true) (hl : l ≠ 0) (w : World) :
    Calls Try.prog 127 #[.agg #[.int .i64 r, .int .i64 l, .int .i64 i]] w fun e w' =>
      e = .returned (.tuple #[.agg #[.int .i64 r, .int .i64 (l - 1), .int .i64 (i / 2)], .bool true]) ∧ w.grownBy w' none := by
  obtain ⟨h0, h1, h2, h3, h4, h5, h6, h7⟩ := bounds h
  clear h6 h7
  go_enter Try.func127, Try.ntmps127
  go_wp2_with (first
    | (go_at_call 140; (with_reducible refine (valid_is r l i _).mono ?_); rintro e w' ⟨rfl, n, rfl⟩)
    | (go_at_call 128; (with_reducible refine (up_is r l i (by omega) (by omega) (by omega) (by omega) _).mono ?_); rintro e w' ⟨rfl, rfl⟩))
  refine bodyPost_ret_by (v := .tuple #[.agg #[.int .i64 r, .int .i64 (l - 1), .int .i64 (i / 2)], .bool true]) (by rw [results_cell_tmp rfl]; go_simp) rfl ⟨rfl, ?_⟩
  repeat (first | exact grown_refl _ | refine g_alloc ?_ _ | refine g_drewN ?_ _ | refine g_set ?_ _ _ _ (by omega))
/-- Is there a parent; its three fields. -/
def parB (r l i : Int) : Bool := okId r l i && decide (l ≠ 0)
def parR (r l i : Int) : Int := if parB r l i then r else 0
def parL (r l i : Int) : Int := if parB r l i then l - 1 else 0
def parI (r l i : Int) : Int := if parB r l i then i / 2 else 0
/-- A pair of a cell and a bool. -/
abbrev pairOf (r l i : Int) (b : Bool) : Value := .tuple #[.agg #[.int .i64 r, .int .i64 l, .int .i64 i], .bool b]
theorem par_no {r l i : Int} (h : parB r l i = false) : Ending.returned (.tuple #[.agg #[.int .i64 0, .int .i64 0, .int .i64 0], .bool false]) = .returned (pairOf (parR r l i) (parL r l i) (parI r l i) (parB r l i)) := by
  simp [parR, parL, parI, h]
theorem par_yes {r l i : Int} (h : parB r l i = true) : Ending.returned (.tuple #[.agg #[.int .i64 r, .int .i64 (l - 1), .int .i64 (i / 2)], .bool true]) = .returned (pairOf (parR r l i) (parL r l i) (parI r l i) (parB r l i)) := by
  simp [parR, parL, parI, h]
theorem par_is (r l i : Int) (w : World) :
    Calls Try.prog 127 #[.agg #[.int .i64 r, .int .i64 l, .int .i64 i]] w fun e w' => e = .returned (pairOf (parR r l i) (parL r l i) (parI r l i) (parB r l i)) ∧ w.grownBy w' none := by
  by_cases h : okId r l i = true
  · by_cases h0 : l = 0
    · subst h0
      exact (parent_root r i h w).mono fun _ _ ⟨he, hg⟩ => ⟨he.trans (par_no (by simp [parB])), hg⟩
    · exact (parent_yes r l i h h0 w).mono fun _ _ ⟨he, hg⟩ => ⟨he.trans (par_yes (by simp [parB, h, h0])), hg⟩
  · rw [Bool.not_eq_true] at h
    exact (parent_bad r l i h w).mono fun _ _ ⟨he, hg⟩ => ⟨he.trans (par_no (by simp [parB, h])), hg⟩
/-- Are they the left and the right child of one cell. -/
def sibB (r l i r' l' i' : Int) : Bool := okId r l i && (okId r' l' i' && (decide (r = r') && (decide (l = l') && (decide (i % 2 = 0) && decide (i' = i + 1)))))
set_option maxHeartbeats 2000000 in
theorem specSib_is (r l i r' l' i' : Int) (w : World) :
    Calls Try.prog 106 #[.agg #[.int .i64 r, .int .i64 l, .int .i64 i], .agg #[.int .i64 r', .int .i64 l', .int .i64 i']] w fun e w' => e = .returned (.bool (sibB r l i r' l' i')) ∧ w.grownBy w' none := by
  by_cases h1 : ¬ okId r l i = true
  · rw [Bool.not_eq_true] at h1
    have hs : sibB r l i r' l' i' = false := by simp [sibB, h1]
    rw [hs]
    go_enter Try.func106, Try.ntmps106
    go_wp2_with (go_at_call 103; (with_reducible refine (specOk_is r l i _).mono ?_); rintro e w' ⟨rfl, n, rfl⟩)
    go_ret
    refine ⟨rfl, ?_⟩
    repeat (first | exact grown_refl _ | refine g_alloc ?_ _ | refine g_drewN ?_ _)
  rw [Decidable.not_not] at h1
  by_cases h2 : ¬ okId r' l' i' = true
  · rw [Bool.not_eq_true] at h2
    have hs : sibB r l i r' l' i' = false := by simp [sibB, h2]
    rw [hs]
    go_enter Try.func106, Try.ntmps106
    go_wp2_with (first
      | (go_at_call 103; (with_reducible refine (specOk_is r l i _).mono ?_); rintro e w' ⟨rfl, n, rfl⟩)
      | (go_at_call 103; (with_reducible refine (specOk_is r' l' i' _).mono ?_); rintro e w' ⟨rfl, n, rfl⟩))
    go_ret
    refine ⟨rfl, ?_⟩
    repeat (first | exact grown_refl _ | refine g_alloc ?_ _ | refine g_drewN ?_ _)
  rw [Decidable.not_not] at h2
  obtain ⟨q0, q1, q2, q3, q4, q5, -, -⟩ := bounds h1
  by_cases h3 : ¬ r = r'
  · have hs : sibB r l i r' l' i' = false := by simp [sibB, h3]
    have hb : (r == r') = false := by simp [h3]
    rw [hs]
    go_enter Try.func106, Try.ntmps106
    go_wp2_with (first
      | (go_at_call 103; (with_reducible refine (specOk_is r l i _).mono ?_); rintro e w' ⟨rfl, n, rfl⟩)
      | (go_at_call 103; (with_reducible refine (specOk_is _ _ i' _).mono ?_); rintro e w' ⟨rfl, n, rfl⟩))
    go_ret
    refine ⟨rfl, ?_⟩
    repeat (first | exact grown_refl _ | refine g_alloc ?_ _ | refine g_drewN ?_ _)
  rw [Decidable.not_not] at h3
  subst h3
  by_cases h4 : ¬ l = l'
  · have hs : sibB r l i r l' i' = false := by simp [sibB, h4]
    have hb : (l == l') = false := by simp [h4]
    rw [hs]
    go_enter Try.func106, Try.ntmps106
    go_wp2_with (first
      | (go_at_call 103; (with_reducible refine (specOk_is r l i _).mono ?_); rintro e w' ⟨rfl, n, rfl⟩)
      | (go_at_call 103; (with_reducible refine (specOk_is _ _ i' _).mono ?_); rintro e w' ⟨rfl, n, rfl⟩))
    go_ret
    refine ⟨rfl, ?_⟩
    repeat (first | exact grown_refl _ | refine g_alloc ?_ _ | refine g_drewN ?_ _)
  rw [Decidable.not_not] at h4
  subst h4
  by_cases h5 : ¬ i % 2 = 0
  · have hs : sibB r l i r l i' = false := by simp [sibB, h5]
    have hb : (i % 2 == 0) = false := by simp [h5]
    rw [hs]
    go_enter Try.func106, Try.ntmps106
    go_wp2_with (first
      | (go_at_call 103; (with_reducible refine (specOk_is r l i _).mono ?_); rintro e w' ⟨rfl, n, rfl⟩)
      | (go_at_call 103; (with_reducible refine (specOk_is _ _ i' _).mono ?_); rintro e w' ⟨rfl, n, rfl⟩))
    go_ret
    refine ⟨rfl, ?_⟩
    repeat (first | exact grown_refl _ | refine g_alloc ?_ _ | refine g_drewN ?_ _)
  rw [Decidable.not_not] at h5
  by_cases h6 : ¬ i' = i + 1
  · have hs : sibB r l i r l i' = false := by simp [sibB, h6]
    have hb : (i' == i + 1) = false := by simp [h6]
    rw [hs]
    go_enter Try.func106, Try.ntmps106
    go_wp2_with (first
      | (go_at_call 103; (with_reducible refine (specOk_is r l i _).mono ?_); rintro e w' ⟨rfl, n, rfl⟩)
      | (go_at_call 103; (with_reducible refine (specOk_is _ _ i' _).mono ?_); rintro e w' ⟨rfl, n, rfl⟩))
    go_ret
    refine ⟨rfl, ?_⟩
    repeat (first | exact grown_refl _ | refine g_alloc ?_ _ | refine g_drewN ?_ _)
  rw [Decidable.not_not] at h6
  subst h6
  have hs : sibB r l i r l (i + 1) = true := by simp [sibB, h1, h2, h5]
  rw [hs]
  have hb : (i % 2 == 0) = true := by simp [h5]
  go_enter Try.func106, Try.ntmps106
  go_wp2_with (first
    | (go_at_call 103; (with_reducible refine (specOk_is r l i _).mono ?_); rintro e w' ⟨rfl, n, rfl⟩)
    | (go_at_call 103; (with_reducible refine (specOk_is r l (i + 1) _).mono ?_); rintro e w' ⟨rfl, n, rfl⟩))
  go_ret
  refine ⟨rfl, ?_⟩
  repeat (first | exact grown_refl _ | refine g_alloc ?_ _ | refine g_drewN ?_ _)
theorem g_drew {w a : World} (h : w.grownBy a none) : w.grownBy a.drew none := ⟨h.os, h.tape, h.output, h.size, h.block⟩
theorem laid_new2 (w : World) (o : Obj) (t : TypeId) (r l i : Int) : Laid ((w.alloc o).alloc (.cells #[.int .i64 r, .int .i64 l, .int .i64 i] t)) (w.heap.size + 1) r l i := by
  have := laid_new (w.alloc o) t r l i
  simpa using this
theorem down_to (r l i s l' i' : Int) (hl0 : 0 ≤ l) (hl1 : l ≤ 4) (hi0 : 0 ≤ i) (hi1 : i ≤ 15) (hs0 : 0 ≤ s) (hs1 : s ≤ 1) (hl : l + 1 = l') (hi : 2 * i + s = i') (w : World) :
    Calls Try.prog 126 #[.agg #[.int .i64 r, .int .i64 l, .int .i64 i], .int .i64 s] w fun e w' => e = .returned (.agg #[.int .i64 r, .int .i64 l', .int .i64 i']) ∧ w.grownBy w' none :=
  (down_is r l i s hl0 hl1 hi0 hi1 hs0 hs1 w).mono fun _ _ ⟨he, hw⟩ => ⟨by rw [he, hl, hi], hw ▸ g_alloc (g_alloc (grown_refl _) _) _⟩
set_option maxHeartbeats 4000000 in
theorem sib_even (r l i r' l' i' : Int) (h : okId r l i = true) (hl : l ≠ 0) (h2 : i % 2 = 0) (b : Bool)
    (hc : (b = false ∧ (r' == r) = false) ∨ (b = false ∧ (r' == r) = true ∧ (l' == l) = false) ∨ (b = false ∧ (r' == r) = true ∧ (l' == l) = true ∧ (i' == i + 1) = false) ∨ (b = true ∧ (r' == r) = true ∧ (l' == l) = true ∧ (i' == i + 1) = true)) (w : World) :
    Calls Try.prog 100 #[.agg #[.int .i64 r, .int .i64 l, .int .i64 i], .agg #[.int .i64 r', .int .i64 l', .int .i64 i']] w fun e w' => e = .returned (.bool b) ∧ w.grownBy w' none := by
  obtain ⟨q0, q1, q2, q3, q4, q5, -, -⟩ := bounds h
  rcases hc with ⟨rfl, e1⟩ | ⟨rfl, e1, e2⟩ | ⟨rfl, e1, e2, e3⟩ | ⟨rfl, e1, e2, e3⟩
  all_goals
    go_enter Try.func100, Try.ntmps100
    go_wp2_with fail
    refine (parent_yes r l i h hl _).mono ?_; rintro e w1 ⟨rfl, hg1⟩
    have LA := (((laid_new w 36 r l i).past _).on hg1).past (cellOf 36 r (l - 1) (i / 2))
    have LB := ((laid_new2 w _ _ r' l' i').on hg1).past (cellOf 36 r (l - 1) (i / 2))
    have LP := laid_new w1 36 r (l - 1) (i / 2)
    have hg : w.grownBy (w1.alloc (cellOf 36 r (l - 1) (i / 2))) none := g_alloc (grown_trans (g_alloc (g_alloc (grown_refl _) _) _) hg1) _
    have HA := Lib.hid LA; have HB := Lib.hid LB; have HP := Lib.hid LP; have HG := Lib.hid hg; clear LA LB LP hg hg1
    go_wp2_with fail
    obtain ⟨a0, a1, a2, -⟩ := HA.out; obtain ⟨b0, b1, b2, -⟩ := HB.out; obtain ⟨p0, p1, p2, -⟩ := HP.out
    have hg := HG.out
    clear HA HB HP HG
    generalize w1.alloc (cellOf 36 r (l - 1) (i / 2)) = w2 at *
    go_region_held3 (fun w' => w'.cell? ⟨w.heap.size, 0, none⟩ = some (.int .i64 r) ∧ w'.cell? ⟨w.heap.size, 1, none⟩ = some (.int .i64 l) ∧ w'.cell? ⟨w.heap.size, 2, none⟩ = some (.int .i64 i)
        ∧ w'.cell? ⟨w.heap.size + 1, 0, none⟩ = some (.int .i64 r') ∧ w'.cell? ⟨w.heap.size + 1, 1, none⟩ = some (.int .i64 l') ∧ w'.cell? ⟨w.heap.size + 1, 2, none⟩ = some (.int .i64 i')
        ∧ w'.cell? ⟨w1.heap.size, 0, none⟩ = some (.int .i64 r) ∧ w'.cell? ⟨w1.heap.size, 1, none⟩ = some (.int .i64 (l - 1)) ∧ w'.cell? ⟨w1.heap.size, 2, none⟩ = some (.int .i64 (i / 2)) ∧ w.grownBy w' none)
      ((go_split_ands; refine ⟨?_, ?_, ?_, ?_, ?_, ?_, ?_, ?_, ?_, ?_⟩ <;> first | assumption | exact hgc.cell (by assumption) (by simp) | exact grown_trans (by assumption) hgc | exact g_drew hg))
      (first
        | (go_at_call 126; ((with_reducible refine (down_to r (l - 1) (i / 2) 0 l (i) (by omega) (by omega) (by omega) (by omega) (by omega) (by omega) (by omega) (by omega) _).mono ?_); rintro e w'' ⟨rfl, hgc⟩))
        | (go_at_call 126; ((with_reducible refine (down_to r (l - 1) (i / 2) 1 l (i + 1) (by omega) (by omega) (by omega) (by omega) (by omega) (by omega) (by omega) (by omega) _).mono ?_); rintro e w'' ⟨rfl, hgc⟩)))
    go_split_ands
    go_wp2
    go_ret
    exact ⟨rfl, by assumption⟩
set_option maxHeartbeats 2000000 in
theorem sib_odd (r l i r' l' i' : Int) (h : okId r l i = true) (hl : l ≠ 0) (h2 : ¬ i % 2 = 0) (w : World) :
    Calls Try.prog 100 #[.agg #[.int .i64 r, .int .i64 l, .int .i64 i], .agg #[.int .i64 r', .int .i64 l', .int .i64 i']] w fun e w' => e = .returned (.bool false) ∧ w.grownBy w' none := by
  obtain ⟨q0, q1, q2, q3, q4, q5, -, -⟩ := bounds h
  obtain ⟨j, hj⟩ : ∃ j, 2 * (i / 2) + 0 = j := ⟨_, rfl⟩
  have e3 : (i == j) = false := by simp; omega
  go_enter Try.func100, Try.ntmps100
  go_wp2_with fail
  refine (parent_yes r l i h hl _).mono ?_; rintro e w1 ⟨rfl, hg1⟩
  have LA := (((laid_new w 36 r l i).past _).on hg1).past (cellOf 36 r (l - 1) (i / 2))
  have LB := ((laid_new2 w _ _ r' l' i').on hg1).past (cellOf 36 r (l - 1) (i / 2))
  have LP := laid_new w1 36 r (l - 1) (i / 2)
  have hg : w.grownBy (w1.alloc (cellOf 36 r (l - 1) (i / 2))) none := g_alloc (grown_trans (g_alloc (g_alloc (grown_refl _) _) _) hg1) _
  have HA := Lib.hid LA; have HB := Lib.hid LB; have HP := Lib.hid LP; have HG := Lib.hid hg; clear LA LB LP hg hg1
  go_wp2_with fail
  have LA := HA.out
  have hg := HG.out
  obtain ⟨a0, a1, a2, -⟩ := HA.out; obtain ⟨p0, p1, p2, -⟩ := HP.out
  clear HA HB HP HG
  generalize w1.alloc (cellOf 36 r (l - 1) (i / 2)) = w2 at *
  have HA := Lib.hid LA; have HG := Lib.hid hg; clear LA hg
  go_region_with (go_at_call 126; ((with_reducible refine (down_to r (l - 1) (i / 2) 0 l j (by omega) (by omega) (by omega) (by omega) (by omega) (by omega) (by omega) (by omega) _).mono ?_); rintro e w'' ⟨rfl, hgc⟩; obtain ⟨c0, c1, c2, -⟩ := (HA.out.on (by first | exact g_drew (grown_refl _) | exact grown_refl _)).on hgc; have hgd := grown_trans (by first | exact g_drew HG.out | exact HG.out) hgc; clear hgc; have HD := Lib.hid hgd; clear hgd))
  all_goals go_wp2
  all_goals go_ret
  all_goals exact ⟨rfl, HD.out⟩
theorem sib_none (r l i r' l' i' : Int) (h : parB r l i = false) (w : World) :
    Calls Try.prog 100 #[.agg #[.int .i64 r, .int .i64 l, .int .i64 i], .agg #[.int .i64 r', .int .i64 l', .int .i64 i']] w fun e w' => e = .returned (.bool false) ∧ w.grownBy w' none := by
  have hp : ∀ u : World, Calls Try.prog 127 #[.agg #[.int .i64 r, .int .i64 l, .int .i64 i]] u fun e w' => e = .returned (.tuple #[.agg #[.int .i64 0, .int .i64 0, .int .i64 0], .bool false]) ∧ u.grownBy w' none :=
    fun u => (par_is r l i u).mono fun _ _ ⟨he, hg⟩ => ⟨he.trans (par_no h).symm, hg⟩
  go_enter Try.func100, Try.ntmps100
  go_wp2_with fail
  refine (hp _).mono ?_; rintro e w1 ⟨rfl, hg1⟩
  clear hp
  have HG := Lib.hid hg1; clear hg1
  go_wp2_with fail
  go_quiet (fail)
  go_wp2
  go_ret
  exact ⟨rfl, g_drewN (g_alloc (grown_trans (g_alloc (g_alloc (grown_refl _) _) _) HG.out) _) _⟩
theorem ok_next {r l i : Int} (h : okId r l i = true) (hl : l ≠ 0) (h2 : i % 2 = 0) : okId r l (i + 1) = true := by
  obtain ⟨h0, h1, h3, h4, h5, h6⟩ := of_ok h
  apply ok_true
  rcases lvl h3 h4 with rfl | rfl | rfl | rfl | rfl
  · exact absurd rfl hl
  all_goals
    simp at h6 ⊢
    omega
theorem sib_is (r l i r' l' i' : Int) (w : World) :
    Calls Try.prog 100 #[.agg #[.int .i64 r, .int .i64 l, .int .i64 i], .agg #[.int .i64 r', .int .i64 l', .int .i64 i']] w fun e w' => e = .returned (.bool (sibB r l i r' l' i')) ∧ w.grownBy w' none := by
  by_cases h : okId r l i = true
  · by_cases hl : l = 0
    · subst hl
      have hs : sibB r 0 i r' l' i' = false := by
        by_cases h2 : okId r' l' i' = true
        · by_cases h3 : 0 = l'
          · subst h3
            have := (of_ok h).2.2.2.2
            have := (of_ok h2).2.2.2.2
            simp at *
            have h4 : ¬ i' = i + 1 := by omega
            simp [sibB, h4]
          · simp [sibB, h3]
        · rw [Bool.not_eq_true] at h2
          simp [sibB, h2]
      rw [hs]
      exact sib_none r 0 i r' l' i' (by simp [parB]) w
    · by_cases h2 : i % 2 = 0
      · apply sib_even r l i r' l' i' h hl h2
        by_cases h3 : r' = r
        · by_cases h4 : l' = l
          · by_cases h5 : i' = i + 1
            · subst h3 h4 h5
              exact .inr (.inr (.inr ⟨by simp [sibB, h, h2, ok_next h hl h2], by simp, by simp, by simp⟩))
            · exact .inr (.inr (.inl ⟨by simp [sibB, h5], by simp [h3], by simp [h4], by simp [h5]⟩))
          · exact .inr (.inl ⟨by simp [sibB, Ne.symm h4], by simp [h3], by simp [h4]⟩)
        · exact .inl ⟨by simp [sibB, Ne.symm h3], by simp [h3]⟩
      · have hs : sibB r l i r' l' i' = false := by simp [sibB, h2]
        rw [hs]
        exact sib_odd r l i r' l' i' h hl h2 w
  · rw [Bool.not_eq_true] at h
    have hs : sibB r l i r' l' i' = false := by simp [sibB, h]
    rw [hs]
    exact sib_none r l i r' l' i' (by simp [parB, h]) w
end Go.Proofs.Ytfoilfgiablleaa.Cell

namespace Go.Proofs.Ytfoilfgiablleaa.Mesh
open Go.ChangeShapes Go.WideShapes Go.ChangeAt Go.RowKit Go.Proofs.Ytfoilfgiablleaa.Cell

/-- A cell's parent. -/
def parOf (x : C3) : C3 := (x.1, x.2.1 - 1, x.2.2 / 2)
def sibOf (x y : C3) : Bool := sibB x.1 x.2.1 x.2.2 y.1 y.2.1 y.2.2
def lvAt (xs : List C3) (i : Nat) : Int := match xs[i]? with
  | some x => x.2.1
  | none => -1
theorem lvAt_of {xs : List C3} {i : Nat} {x : C3} (hx : xs[i]? = some x) : lvAt xs i = x.2.1 := by simp [lvAt, hx]
def sibAt (xs : List C3) (i : Nat) : Bool := match xs[i]?, xs[i + 1]? with
  | some x, some y => sibOf x y
  | _, _ => false
theorem sibAt_of {xs : List C3} {i : Nat} {x y : C3} (hx : xs[i]? = some x) (hy : xs[i + 1]? = some y) : sibAt xs i = sibOf x y := by simp [sibAt, hx, hy]
theorem sibAt_in {xs : List C3} {i : Nat} (h : sibAt xs i = true) : ∃ x y, xs[i]? = some x ∧ xs[i + 1]? = some y ∧ sibOf x y = true := by
  unfold sibAt at h
  split at h
  · exact ⟨_, _, by assumption, by assumption, h⟩
  · cases h
def mayRef (R : Int) (xs : List C3) (i : Int) : Bool := meshOk R xs && (decide (0 ≤ i) && (decide (i < xs.length) && decide (lvAt xs i.toNat < 4)))
def leftOk (xs : List C3) (k : Nat) : Bool := decide (k = 0) || decide (lvAt xs (k - 1) ≤ lvAt xs k)
def rightOk (xs : List C3) (k : Nat) : Bool := decide (xs.length ≤ k + 2) || decide (lvAt xs (k + 2) ≤ lvAt xs k)
def pairOk (xs : List C3) (k : Nat) : Bool := sibAt xs k && (leftOk xs k && rightOk xs k)
def mayCo (R : Int) (xs : List C3) (i : Int) : Bool := meshOk R xs && (decide (0 ≤ i) && (decide (i + 1 < xs.length) && pairOk xs i.toNat))
/-- Two leaves replaced by the parent of the first. -/
def merge2 (xs : List C3) (k : Nat) : List C3 := match xs[k]? with
  | some x => xs.take k ++ [parOf x] ++ xs.drop (k + 2)
  | none => xs
theorem merge2_of {xs : List C3} {k : Nat} {x : C3} (hx : xs[k]? = some x) : merge2 xs k = xs.take k ++ [parOf x] ++ xs.drop (k + 2) := by simp [merge2, hx]
def refOf (R : Int) (xs : List C3) (i : Int) : List C3 := if mayRef R xs i then split2 xs i.toNat else xs
def coOf (R : Int) (xs : List C3) (i : Int) : List C3 := if mayCo R xs i then merge2 xs i.toNat else xs

theorem mayRef_parts {R i : Int} {xs : List C3} (h : mayRef R xs i = true) : meshOk R xs = true ∧ ∃ (k : Nat) (x : C3), i = k ∧ xs[k]? = some x ∧ okOf x = true ∧ x.2.1 < 4 ∧ refOf R xs i = split2 xs k := by
  have hr : refOf R xs i = split2 xs i.toNat := if_pos h
  simp only [mayRef, Bool.and_eq_true, decide_eq_true_eq] at h
  obtain ⟨hm, h0, h1, h2⟩ := h
  obtain ⟨k, rfl⟩ : ∃ k : Nat, i = k := ⟨i.toNat, by omega⟩
  obtain ⟨r, l, j, hx⟩ := get_of_lt (xs := xs) (k := k) rfl (by omega)
  rw [Int.toNat_natCast] at hr h2
  rw [lvAt_of hx] at h2
  exact ⟨hm, k, _, rfl, hx, (mesh_parts hm).1 _ _ hx, h2, hr⟩
theorem mayCo_parts {R i : Int} {xs : List C3} (h : mayCo R xs i = true) : meshOk R xs = true ∧ ∃ (k : Nat) (x y : C3), i = k ∧ xs[k]? = some x ∧ xs[k + 1]? = some y ∧ sibOf x y = true ∧ leftOk xs k = true ∧ rightOk xs k = true ∧ coOf R xs i = merge2 xs k := by
  have hr : coOf R xs i = merge2 xs i.toNat := if_pos h
  simp only [mayCo, pairOk, Bool.and_eq_true, decide_eq_true_eq] at h
  obtain ⟨hm, h0, h1, h2, h3, h4⟩ := h
  obtain ⟨k, rfl⟩ : ∃ k : Nat, i = k := ⟨i.toNat, by omega⟩
  rw [Int.toNat_natCast] at *
  obtain ⟨x, y, hx, hy, hs⟩ := sibAt_in h2
  exact ⟨hm, k, x, y, rfl, hx, hy, hs, h3, h4, hr⟩

theorem sib_parts {x y : C3} (h : sibOf x y = true) : okOf x = true ∧ y = (x.1, x.2.1, x.2.2 + 1) ∧ x.2.2 % 2 = 0 := by
  obtain ⟨r, l, i⟩ := x
  obtain ⟨r', l', i'⟩ := y
  simp only [sibOf, sibB, Bool.and_eq_true, decide_eq_true_eq] at h
  obtain ⟨h1, -, h3, h4, h5, h6⟩ := h
  subst h3 h4 h6
  exact ⟨h1, rfl, h5⟩
/-- Two siblings are the children of one cell. -/
theorem sib_kids {x y : C3} (h : sibOf x y = true) : okOf (parOf x) = true ∧ (parOf x).2.1 < 4 ∧ x = kidOf (parOf x) 0 ∧ y = kidOf (parOf x) 1 ∧ 1 ≤ x.2.1 := by
  have hy := h
  obtain ⟨ho, rfl, h2⟩ := sib_parts h
  obtain ⟨r, l, i⟩ := x
  obtain ⟨h0, h1, h3, h4, h5, h6⟩ := of_ok (show okId r l i = true from ho)
  simp only [sibOf, sibB, Bool.and_eq_true, decide_eq_true_eq] at hy
  obtain ⟨g0, g1, g3, g4, g5, g6⟩ := of_ok hy.2.1
  dsimp only at h2 g6
  have hl : 1 ≤ l := by
    rcases lvl h3 h4 with rfl | rfl | rfl | rfl | rfl
    · simp at g6; omega
    all_goals omega
  refine ⟨?_, ?_, ?_, ?_, hl⟩
  · apply ok_true
    dsimp only [parOf]
    rcases (show l = 1 ∨ l = 2 ∨ l = 3 ∨ l = 4 by omega) with rfl | rfl | rfl | rfl
    all_goals
      simp at h6 ⊢
      omega
  · show l - 1 < 4; omega
  · show (r, l, i) = (r, l - 1 + 1, 2 * (i / 2) + 0)
    rw [show l - 1 + 1 = l by omega, show 2 * (i / 2) + 0 = i by omega]
  · show (r, l, i + 1) = (r, l - 1 + 1, 2 * (i / 2) + 1)
    rw [show l - 1 + 1 = l by omega, show 2 * (i / 2) + 1 = i + 1 by omega]
theorem kids_sib {x : C3} (h : okOf x = true) (hl : x.2.1 < 4) : sibOf (kidOf x 0) (kidOf x 1) = true ∧ parOf (kidOf x 0) = x := by
  obtain ⟨k0, -, -⟩ := kidOf_ok h hl (.inl rfl)
  obtain ⟨k1, -, -⟩ := kidOf_ok h hl (.inr rfl)
  obtain ⟨r, l, i⟩ := x
  refine ⟨?_, ?_⟩
  · simp only [sibOf, sibB, Bool.and_eq_true, decide_eq_true_eq]
    exact ⟨k0, k1, rfl, rfl, by show (2 * i + 0) % 2 = 0; omega, by show 2 * i + 1 = 2 * i + 0 + 1; omega⟩
  · show (r, l + 1 - 1, (2 * i + 0) / 2) = (r, l, i)
    rw [show l + 1 - 1 = l by omega, show (2 * i + 0) / 2 = i by omega]
/-- A leaf's place in the refined mesh. -/
theorem split_at {xs : List C3} {k : Nat} {x : C3} (hx : xs[k]? = some x) : (split2 xs k)[k]? = some (kidOf x 0) ∧ (split2 xs k)[k + 1]? = some (kidOf x 1) ∧ (∀ j, j < k → (split2 xs k)[j]? = xs[j]?) ∧ ∀ j, k < j → (split2 xs k)[j + 1]? = xs[j]? := by
  have hk := (List.getElem?_eq_some_iff.1 hx).1
  have hl : (xs.take k).length = k := by rw [List.length_take]; omega
  rw [split2_of hx, List.append_assoc]
  refine ⟨?_, ?_, fun j hj => ?_, fun j hj => ?_⟩
  · rw [List.getElem?_append_right (by omega), hl, Nat.sub_self]; rfl
  · rw [List.getElem?_append_right (by omega), hl, show k + 1 - k = 1 by omega]; rfl
  · rw [List.getElem?_append_left (by omega), List.getElem?_take_of_lt hj]
  · rw [List.getElem?_append_right (by omega), hl, List.getElem?_append_right (by simp; omega), List.getElem?_drop]
    congr 1
    simp
    omega
theorem merge_len {xs : List C3} {k : Nat} {x y : C3} (hx : xs[k]? = some x) (hy : xs[k + 1]? = some y) : (merge2 xs k).length + 1 = xs.length := by
  have hk := (List.getElem?_eq_some_iff.1 hy).1
  rw [merge2_of hx]
  simp
  omega
/-- A leaf's place in the coarsened mesh. -/
theorem merge_at {xs : List C3} {k : Nat} {x : C3} (hx : xs[k]? = some x) : (merge2 xs k)[k]? = some (parOf x) ∧ (∀ j, j < k → (merge2 xs k)[j]? = xs[j]?) ∧ ∀ j, k < j → (merge2 xs k)[j]? = xs[j + 1]? := by
  have hk := (List.getElem?_eq_some_iff.1 hx).1
  have hl : (xs.take k).length = k := by rw [List.length_take]; omega
  rw [merge2_of hx, List.append_assoc]
  refine ⟨?_, fun j hj => ?_, fun j hj => ?_⟩
  · rw [List.getElem?_append_right (by omega), hl, Nat.sub_self]; rfl
  · rw [List.getElem?_append_left (by omega), List.getElem?_take_of_lt hj]
  · rw [List.getElem?_append_right (by omega), hl, List.getElem?_append_right (by simp; omega), List.getElem?_drop]
    congr 1
    simp
    omega
theorem merge_split {xs : List C3} {k : Nat} {x : C3} (hx : xs[k]? = some x) (ho : okOf x = true) (hl : x.2.1 < 4) : merge2 (split2 xs k) k = xs := by
  obtain ⟨s0, s1, s2, s3⟩ := split_at hx
  obtain ⟨m0, m1, m2⟩ := merge_at s0
  apply List.ext_getElem?
  intro j
  rcases Nat.lt_trichotomy j k with h | rfl | h
  · rw [m1 j h, s2 j h]
  · rw [m0, (kids_sib ho hl).2, hx]
  · rw [m2 j h, s3 j h]
theorem split_merge {xs : List C3} {k : Nat} {x y : C3} (hx : xs[k]? = some x) (hy : xs[k + 1]? = some y) (h : sibOf x y = true) : split2 (merge2 xs k) k = xs := by
  obtain ⟨m0, m1, m2⟩ := merge_at hx
  obtain ⟨s0, s1, s2, s3⟩ := split_at m0
  obtain ⟨-, -, e0, e1, -⟩ := sib_kids h
  apply List.ext_getElem?
  intro j
  rcases Nat.lt_trichotomy j k with h | rfl | h
  · rw [s2 j h, m1 j h]
  · rw [s0, hx, ← e0]
  · by_cases h2 : j = k + 1
    · subst h2
      rw [s1, hy, ← e1]
    · obtain ⟨j, rfl⟩ : ∃ j', j = j' + 1 := ⟨j - 1, by omega⟩
      rw [s3 j (by omega), m2 j (by omega)]
theorem run_unsplit {xs : List C3} {k : Nat} {x : C3} {e : Int} (hx : xs[k]? = some x) (ho : okOf x = true) (hl : x.2.1 < 4) (hr : run (split2 xs k) = some e) : run xs = some e := by
  obtain ⟨-, s0, w0⟩ := kidOf_ok ho hl (.inl rfl)
  obtain ⟨-, s1, w1⟩ := kidOf_ok ho hl (.inr rfl)
  have hw : wdOf (kidOf x 0) = wdOf (kidOf x 1) := rfl
  rw [split2_of hx] at hr
  rw [cut_at hx]
  unfold run at hr ⊢
  rw [List.foldl_append, List.foldl_append] at hr ⊢
  rw [← hr]
  congr 1
  cases h : (xs.take k).foldl step (some 0) with
  | none => rfl
  | some e0 =>
    by_cases hs : stOf x = e0
    · rw [List.foldl_cons, List.foldl_cons, List.foldl_nil, List.foldl_cons, List.foldl_nil, step_yes hs, step_yes (show stOf (kidOf x 0) = e0 by omega), step_yes (show stOf (kidOf x 1) = e0 + wdOf (kidOf x 0) by omega)]
      congr 1
      omega
    · rw [h] at hr
      rw [List.foldl_cons, step_no (show stOf (kidOf x 0) ≠ e0 by omega), fold_none, fold_none] at hr
      cases hr
theorem meshOk_merge {R : Int} {xs : List C3} {k : Nat} {x y : C3} (hx : xs[k]? = some x) (hy : xs[k + 1]? = some y) (hs : sibOf x y = true) (h : meshOk R xs = true) : meshOk R (merge2 xs k) = true := by
  obtain ⟨h1, h2, h3⟩ : 1 ≤ R ∧ R ≤ 8 ∧ run xs = some (R * 16) := of_decide_eq_true h
  obtain ⟨ho, hl, -⟩ := sib_kids hs
  rw [← split_merge hx hy hs] at h3
  exact decide_eq_true ⟨h1, h2, run_unsplit (merge_at hx).1 ho hl h3⟩

/-- A balanced mesh: what that says of two leaves side by side. -/
theorem flat_of {xs : List C3} (h : firstGap xs < 0) {j : Nat} {x y : C3} (hx : xs[j]? = some x) (hy : xs[j + 1]? = some y) : -1 ≤ x.2.1 - y.2.1 ∧ x.2.1 - y.2.1 ≤ 1 := by
  rcases first_cases xs with ⟨-, hn⟩ | ⟨k, e, -⟩
  · have := hn j
    rw [gapAt_of hx hy] at this
    have := of_decide_eq_false this
    omega
  · omega
theorem flat_to {xs : List C3} (h : ∀ (j : Nat) (x y : C3), xs[j]? = some x → xs[j + 1]? = some y → -1 ≤ x.2.1 - y.2.1 ∧ x.2.1 - y.2.1 ≤ 1) : firstGap xs = -1 :=
  first_none fun j => by
    cases hg : gapAt xs j with
    | false => rfl
    | true =>
      obtain ⟨x, y, hx, hy, hgp⟩ := gapAt_in hg
      have := h j x y hx hy
      have hg' : 1 < x.2.1 - y.2.1 ∨ x.2.1 - y.2.1 < -1 := of_decide_eq_true hgp
      omega
theorem flat_merge {xs : List C3} {k : Nat} {x y : C3} (hx : xs[k]? = some x) (hy : xs[k + 1]? = some y) (hs : sibOf x y = true) (h : firstGap xs < 0) (hL : leftOk xs k = true) (hR : rightOk xs k = true) : firstGap (merge2 xs k) = -1 := by
  obtain ⟨m0, m1, m2⟩ := merge_at hx
  have hyl : y.2.1 = x.2.1 := by rw [(sib_parts hs).2.1]
  have hp : (parOf x).2.1 = x.2.1 - 1 := rfl
  refine flat_to fun j a b ha hb => ?_
  rcases Nat.lt_trichotomy (j + 1) k with h1 | h1 | h1
  · rw [m1 j (by omega)] at ha
    rw [m1 _ h1] at hb
    exact flat_of h ha hb
  · subst h1
    rw [m1 j (by omega)] at ha
    rw [m0] at hb
    cases hb
    have := flat_of h ha hx
    simp only [leftOk, Bool.or_eq_true, decide_eq_true_eq, show j + 1 - 1 = j by omega] at hL
    rw [lvAt_of ha, lvAt_of hx] at hL
    omega
  · by_cases h2 : j = k
    · subst h2
      rw [m0] at ha
      cases ha
      rw [m2 _ (by omega)] at hb
      have := flat_of h hy hb
      have hb2 := (List.getElem?_eq_some_iff.1 hb).1
      simp only [rightOk, Bool.or_eq_true, decide_eq_true_eq] at hR
      rw [lvAt_of (show xs[j + 2]? = some b from hb), lvAt_of hx] at hR
      omega
    · rw [m2 j (by omega)] at ha
      rw [m2 _ (by omega)] at hb
      exact flat_of h ha hb
/-- The children of a leaf of a balanced mesh may be coarsened. -/
theorem mayCo_split {R : Int} {xs : List C3} {k : Nat} {x : C3} (hx : xs[k]? = some x) (hm : meshOk R xs = true) (h : firstGap xs < 0) (hl : x.2.1 < 4) : mayCo R (split2 xs k) k = true ∧ coOf R (split2 xs k) k = xs := by
  obtain ⟨s0, s1, s2, s3⟩ := split_at hx
  have ho := (mesh_parts hm).1 _ _ hx
  have hlen := split2_len hx
  have hk := (List.getElem?_eq_some_iff.1 hx).1
  have hmc : mayCo R (split2 xs k) k = true := by
    simp only [mayCo, pairOk, leftOk, rightOk, Bool.and_eq_true, Bool.or_eq_true, decide_eq_true_eq, Int.toNat_natCast]
    refine ⟨meshOk_split hx hl hm, by omega, by omega, by rw [sibAt_of s0 s1]; exact (kids_sib ho hl).1, ?_, ?_⟩
    · by_cases h0 : k = 0
      · exact .inl h0
      · right
        obtain ⟨r, l, i, hy⟩ := get_of_lt (xs := xs) (k := k - 1) rfl (by omega)
        rw [lvAt_of s0, lvAt_of ((s2 (k - 1) (by omega)).trans hy)]
        have := flat_of h hy (by rw [show k - 1 + 1 = k by omega]; exact hx)
        show l ≤ x.2.1 + 1
        dsimp only at this
        omega
    · by_cases h0 : k + 1 < xs.length
      · right
        obtain ⟨r, l, i, hy⟩ := get_of_lt (xs := xs) (k := k + 1) rfl h0
        rw [lvAt_of s0, lvAt_of ((s3 (k + 1) (by omega)).trans hy)]
        have := flat_of h hx hy
        show l ≤ x.2.1 + 1
        dsimp only at this
        omega
      · left; omega
  refine ⟨hmc, ?_⟩
  rw [show coOf R (split2 xs k) k = merge2 (split2 xs k) (k : Int).toNat from if_pos hmc, Int.toNat_natCast]
  exact merge_split hx ho hl
theorem refOf_len {R i : Int} {xs : List C3} : (refOf R xs i).length ≤ xs.length + 1 := by
  cases h : mayRef R xs i with
  | true =>
    obtain ⟨-, k, x, -, hx, -, -, hr⟩ := mayRef_parts h
    rw [hr, split2_len hx]
    omega
  | false => rw [show refOf R xs i = xs by simp [refOf, h]]; omega
theorem coOf_len {R i : Int} {xs : List C3} : (coOf R xs i).length ≤ xs.length := by
  cases h : mayCo R xs i with
  | true =>
    obtain ⟨-, k, x, y, -, hx, hy, -, -, -, hr⟩ := mayCo_parts h
    have := merge_len hx hy
    rw [hr]
    omega
  | false => rw [show coOf R xs i = xs by simp [coOf, h]]; omega
theorem balanced_co {R i : Int} {xs : List C3} (hm : meshOk R xs = true) (h : firstGap xs < 0) : meshOk R (coOf R xs i) = true ∧ firstGap (coOf R xs i) < 0 := by
  cases hc : mayCo R xs i with
  | true =>
    obtain ⟨-, k, x, y, -, hx, hy, hs, hL, hR, hr⟩ := mayCo_parts hc
    rw [hr]
    exact ⟨meshOk_merge hx hy hs hm, by rw [flat_merge hx hy hs h hL hR]; omega⟩
  | false => rw [show coOf R xs i = xs by simp [coOf, hc]]; exact ⟨hm, h⟩
end Go.Proofs.Ytfoilfgiablleaa.Mesh

namespace Go.Proofs.Ytfoilfgiablleaa.Mesh
open Go.ChangeShapes Go.WideShapes Go.ChangeAt Go.RowKit Go.Proofs.Ytfoilfgiablleaa.Cell

theorem mayRef_bad {R i : Int} {xs : List C3} (h : meshOk R xs = false) : mayRef R xs i = false := by simp [mayRef, h]
theorem mayRef_low {R i : Int} {xs : List C3} (h : i < 0) : mayRef R xs i = false := by
  have : decide (0 ≤ i) = false := decide_eq_false (by omega)
  simp [mayRef, this]
theorem mayRef_high {R i : Int} {xs : List C3} (h : (xs.length : Int) ≤ i) : mayRef R xs i = false := by
  have : decide (i < (xs.length : Int)) = false := decide_eq_false (by omega)
  simp [mayRef, this]
theorem mayRef_in {R : Int} {xs : List C3} {k : Nat} {x : C3} (h : meshOk R xs = true) (hx : xs[k]? = some x) : mayRef R xs k = decide (x.2.1 < 4) := by
  have hk := (List.getElem?_eq_some_iff.1 hx).1
  have h2 : decide ((k : Int) < (xs.length : Int)) = true := decide_eq_true (by omega)
  simp [mayRef, h, hk, lvAt_of hx]
theorem mayCo_bad {R i : Int} {xs : List C3} (h : meshOk R xs = false) : mayCo R xs i = false := by simp [mayCo, h]
theorem mayCo_low {R i : Int} {xs : List C3} (h : i < 0) : mayCo R xs i = false := by
  have : decide (0 ≤ i) = false := decide_eq_false (by omega)
  simp [mayCo, this]
theorem mayCo_high {R i : Int} {xs : List C3} (h : (xs.length : Int) ≤ i + 1) : mayCo R xs i = false := by
  have : decide (i + 1 < (xs.length : Int)) = false := decide_eq_false (by omega)
  simp [mayCo, this]
theorem mayCo_in {R : Int} {xs : List C3} {k : Nat} (h : meshOk R xs = true) (hk : k + 1 < xs.length) : mayCo R xs k = pairOk xs k := by
  have h2 : decide ((k : Int) + 1 < (xs.length : Int)) = true := decide_eq_true (by omega)
  simp [mayCo, h, h2]
theorem mayCo_apart {R : Int} {xs : List C3} {k : Nat} {x y : C3} (hx : xs[k]? = some x) (hy : xs[k + 1]? = some y) (h : sibOf x y = false) : mayCo R xs k = false := by
  have : sibAt xs k = false := (sibAt_of hx hy).trans h
  simp [mayCo, pairOk, this]
theorem mayCo_pair {R : Int} {xs : List C3} {k : Nat} {x y : C3} (hm : meshOk R xs = true) (hx : xs[k]? = some x) (hy : xs[k + 1]? = some y) (h : sibOf x y = true) : mayCo R xs k = (leftOk xs k && rightOk xs k) := by
  rw [mayCo_in hm (List.getElem?_eq_some_iff.1 hy).1, pairOk, sibAt_of hx hy, h, Bool.true_and]
theorem left_first (xs : List C3) : leftOk xs 0 = true := rfl
theorem left_of {xs : List C3} {k : Nat} {x z : C3} (hk : 0 < k) (hz : xs[k - 1]? = some z) (hx : xs[k]? = some x) : leftOk xs k = decide (z.2.1 ≤ x.2.1) := by
  have : decide (k = 0) = false := decide_eq_false (by omega)
  rw [leftOk, this, lvAt_of hz, lvAt_of hx, Bool.false_or]
theorem right_last {xs : List C3} {k : Nat} (h : xs.length ≤ k + 2) : rightOk xs k = true := by
  rw [rightOk, decide_eq_true h, Bool.true_or]
theorem right_of {xs : List C3} {k : Nat} {x z : C3} (hz : xs[k + 2]? = some z) (hx : xs[k]? = some x) : rightOk xs k = decide (z.2.1 ≤ x.2.1) := by
  have hk := (List.getElem?_eq_some_iff.1 hz).1
  rw [rightOk, decide_eq_false (by omega), lvAt_of hz, lvAt_of hx, Bool.false_or]

set_option maxHeartbeats 2000000 in
theorem mayRef_is (R i : Int) (a : Option Addr) (n cap : Nat) (xs : List C3) (w : World) (hr : Reads w a n xs) (hn : n ≤ 1048576) :
    Calls Try.prog 49 #[.agg #[.int .i64 R, .slice a n cap], .int .i64 i] w fun e w' => e = .returned (.bool (mayRef R xs i)) ∧ w.grownBy w' none := by
  have hni : (n : Int) ≤ 1048576 := by omega
  have HN := Lib.hid hn; clear hn
  have HR := Lib.hid hr
  have hlen := hr.len
  clear hr
  have HB := Lib.hid (MBox.new w R (.slice a n cap))
  have hok : ∀ u, Reads u a n xs → Calls Try.prog 90 #[.agg #[.int .i64 R, .slice a n cap]] u fun e w' => e = .returned (.bool (meshOk R xs)) ∧ u.grownBy w' none := fun u h => meshOk_is R a n cap xs u h HN.out
  have HOK := Lib.hid hok; clear hok
  cases hm : meshOk R xs with
  | false =>
    rw [mayRef_bad hm]
    rw [hm] at HOK
    go_enter Try.func49, Try.ntmps49
    go_wp2_with (go_at_call 90; (with_reducible refine (HOK.out _ (HR.out.past _)).mono ?_); rintro e w1 ⟨rfl, hg⟩; have HG := Lib.hid hg; clear hg)
    go_ret
    exact ⟨rfl, grown_trans (g_alloc (grown_refl _) _) HG.out⟩
  | true =>
    have HM := Lib.hid hm
    rw [hm] at HOK
    clear hm
    by_cases h0 : i < 0
    · rw [mayRef_low h0]
      go_enter Try.func49, Try.ntmps49
      go_wp2_with (go_at_call 90; (with_reducible refine (HOK.out _ (HR.out.past _)).mono ?_); rintro e w1 ⟨rfl, hg⟩; have HG := Lib.hid hg; clear hg)
      go_ret
      exact ⟨rfl, grown_trans (g_alloc (grown_refl _) _) HG.out⟩
    by_cases h1 : (n : Int) ≤ i
    · rw [mayRef_high (by omega)]
      go_enter Try.func49, Try.ntmps49
      go_wp2_with (go_at_call 90; (with_reducible refine (HOK.out _ (HR.out.past _)).mono ?_); rintro e w1 ⟨rfl, hg⟩; have b1 := (HB.out.kept hg (by simp)).c1; have HG := Lib.hid hg; clear hg)
      go_ret
      exact ⟨rfl, grown_trans (g_alloc (grown_refl _) _) HG.out⟩
    obtain ⟨k, rfl⟩ : ∃ k : Nat, i = k := ⟨i.toNat, by omega⟩
    obtain ⟨r, l, j, hx⟩ := get_of_lt hlen (k := k) (by omega)
    rw [mayRef_in HM.out hx]
    obtain ⟨g, rfl, -⟩ := HR.out.at_ k _ hx
    have HX := Lib.hid hx; clear hx
    go_enter Try.func49, Try.ntmps49
    go_wp2_with (go_at_call 90; (with_reducible refine (HOK.out _ (HR.out.past _)).mono ?_); rintro e w1 ⟨rfl, hg⟩; have b1 := (HB.out.kept hg (by simp)).c1; obtain ⟨g', hg', -, d0, d1, d2⟩ := ((HR.out.past _).on hg).at_ k _ HX.out; cases hg'; dsimp only at d0 d1 d2; have HG := Lib.hid hg; clear hg)
    go_ret
    exact ⟨rfl, grown_trans (g_alloc (grown_refl _) _) HG.out⟩
end Go.Proofs.Ytfoilfgiablleaa.Mesh

namespace Go.Proofs.Ytfoilfgiablleaa.Mesh
open Go.ChangeShapes Go.WideShapes Go.ChangeAt Go.RowKit Go.Proofs.Ytfoilfgiablleaa.Cell

variable {P : Program} {ops : Array Oper} {Q : Exit → Act → World → Prop} {md : Region.Mode} {S : World → Prop}
/-- An operation that is not wanted is taken first. -/
theorem skipH {i d : Nat} {oi : Oper} {fuel : Nat} {listed : Array Bool} {a : Act} {w : World} (hi : ops[i]? = some oi) (hd : oi.dst = some d)
    (hs : Region.noSelect ops = true) (hf : Region.free md ops listed i = true) (hr : (Region.ready md ops listed).contains i = true)
    (hQ : ∀ c a w, Q (.panic c) (a.put oi.dst undef) w → Q (.panic c) a w) (hw : Region.wanted oi (yielded ops a.tmps) = false) (hS : S w)
    (h : wpAnyH P md ops Q S fuel (listed.setIfInBounds i true) ⟨a.tmps.setIfInBounds d undef, a.defers⟩ w) : wpAnyH P md ops Q S (fuel + 1) listed a w :=
  wpAnyH_take hi hs hf hr hQ (Or.inr ⟨hw, rfl⟩) hS (by rw [hd]; exact h)
/-- An operation that is wanted, and yields the same in every world that is held, is taken first. -/
theorem takeH {i d : Nat} {oi : Oper} {v : Value} {fuel : Nat} {listed : Array Bool} {a : Act} {w : World} (hi : ops[i]? = some oi) (hd : oi.dst = some d)
    (hs : Region.noSelect ops = true) (hf : Region.free md ops listed i = true) (hr : (Region.ready md ops listed).contains i = true)
    (hQ : ∀ c a w, Q (.panic c) (a.put oi.dst v) w → Q (.panic c) a w) (hw : Region.wanted oi (yielded ops a.tmps) = true) (hy : ∀ w, S w → (execOp a.eval oi).run P w = .ok (.value v) w) (hS : S w)
    (h : wpAnyH P md ops Q S fuel (listed.setIfInBounds i true) ⟨a.tmps.setIfInBounds d v, a.defers⟩ w) : wpAnyH P md ops Q S (fuel + 1) listed a w :=
  wpAnyH_take hi hs hf hr hQ (Or.inl ⟨hw, hy⟩) hS (by rw [hd]; exact h)

set_option maxHeartbeats 4000000 in
theorem mayCo_bad_is (R i : Int) (a : Option Addr) (n cap : Nat) (xs : List C3) (w : World) (hr : Reads w a n xs) (hn : n ≤ 1048576) (hm : meshOk R xs = false) :
    Calls Try.prog 57 #[.agg #[.int .i64 R, .slice a n cap], .int .i64 i] w fun e w' => e = .returned (.bool false) ∧ w.grownBy w' none := by
  have hni : (n : Int) ≤ 1048576 := by omega
  have HN := Lib.hid hn; clear hn
  have HR := Lib.hid hr
  have hlen := hr.len
  clear hr
  have HB := Lib.hid (MBox.new w R (.slice a n cap))
  have HG0 := Lib.hid (g_alloc (grown_refl w) (.cells #[.int .i64 R, .slice a n cap] 26))
  have hok : ∀ u, Reads u a n xs → Calls Try.prog 90 #[.agg #[.int .i64 R, .slice a n cap]] u fun e w' => e = .returned (.bool (meshOk R xs)) ∧ u.grownBy w' none := fun u h => meshOk_is R a n cap xs u h HN.out
  rw [hm] at hok
  have HOK := Lib.hid hok; clear hok
  go_enter Try.func57, Try.ntmps57
  go_upto_region 1 with fail
  have b0 := HB.out.c0
  have b1 := HB.out.c1
  have hg := HG0.out
  generalize w.alloc (.cells #[.int .i64 R, .slice a n cap] 26) = W0 at *
  refine wp_region_held_drew (S := fun w' => w'.cell? ⟨w.heap.size, 0, none⟩ = some (.int .i64 R) ∧ w'.cell? ⟨w.heap.size, 1, none⟩ = some (.slice a n cap) ∧ w.grownBy w' none) (by kernel_rfl) ⟨b0, b1, Cell.g_drew hg⟩ (fun hHeld => ?_)
  first
    | (refine skipH (i := 0) rfl rfl (by kernel_rfl) (by kernel_rfl) (by kernel_rfl) (fun _ _ _ h => h) (by rfl) (by assumption) ?_)
    | (refine takeH (i := 0) rfl rfl (by kernel_rfl) (by kernel_rfl) (by kernel_rfl) (fun _ _ _ h => h) (by rfl) (by intro w hSw; (try dsimp only at hSw); go_simp; first | done | with_reducible rfl) (by assumption) ?_)
  simp only [List.setIfInBounds_toArray, List.set_cons_zero, List.set_cons_succ]
  refine wpAnyH_ready (rs := [1]) (by kernel_rfl) (by simp) ?_
  refine AllReadyH.cons rfl (fun K hK => ?_) AllReadyH.nil
  go_simp
  refine (HOK.out _ (HR.out.on (Cell.g_drew HG0.out))).mono ?_
  rintro e w1 ⟨rfl, hgc⟩
  have hx := HB.out.kept (grown_trans (Cell.g_drew (grown_refl W0)) hgc) (by simp)
  refine hK.out _ _ ⟨hx.c0, hx.c1, grown_trans (Cell.g_drew hg) hgc⟩ (fun hHeld => ?_)
  clear hK K hx hgc
  try simp only [Act.put, List.setIfInBounds_toArray, List.set_cons_zero, List.set_cons_succ]
  first
    | (refine skipH (i := 2) rfl rfl (by kernel_rfl) (by kernel_rfl) (by kernel_rfl) (fun _ _ _ h => h) (by rfl) (by assumption) ?_)
    | (refine takeH (i := 2) rfl rfl (by kernel_rfl) (by kernel_rfl) (by kernel_rfl) (fun _ _ _ h => h) (by rfl) (by intro w hSw; (try dsimp only at hSw); go_simp; first | done | with_reducible rfl) (by assumption) ?_)
  simp only [List.setIfInBounds_toArray, List.set_cons_zero, List.set_cons_succ]
  first
    | (refine skipH (i := 3) rfl rfl (by kernel_rfl) (by kernel_rfl) (by kernel_rfl) (fun _ _ _ h => h) (by rfl) (by assumption) ?_)
    | (refine takeH (i := 3) rfl rfl (by kernel_rfl) (by kernel_rfl) (by kernel_rfl) (fun _ _ _ h => h) (by rfl) (by intro w hSw; (try dsimp only at hSw); go_simp; first | done | with_reducible rfl) (by assumption) ?_)
  simp only [List.setIfInBounds_toArray, List.set_cons_zero, List.set_cons_succ]
  first
    | (refine skipH (i := 4) rfl rfl (by kernel_rfl) (by kernel_rfl) (by kernel_rfl) (fun _ _ _ h => h) (by rfl) (by assumption) ?_)
    | (refine takeH (i := 4) rfl rfl (by kernel_rfl) (by kernel_rfl) (by kernel_rfl) (fun _ _ _ h => h) (by rfl) (by intro w hSw; (try dsimp only at hSw); go_simp; first | done | with_reducible rfl) (by assumption) ?_)
  simp only [List.setIfInBounds_toArray, List.set_cons_zero, List.set_cons_succ]
  first
    | (refine skipH (i := 5) rfl rfl (by kernel_rfl) (by kernel_rfl) (by kernel_rfl) (fun _ _ _ h => h) (by rfl) (by assumption) ?_)
    | (refine takeH (i := 5) rfl rfl (by kernel_rfl) (by kernel_rfl) (by kernel_rfl) (fun _ _ _ h => h) (by rfl) (by intro w hSw; (try dsimp only at hSw); go_simp; first | done | with_reducible rfl) (by assumption) ?_)
  simp only [List.setIfInBounds_toArray, List.set_cons_zero, List.set_cons_succ]
  first
    | (refine skipH (i := 6) rfl rfl (by kernel_rfl) (by kernel_rfl) (by kernel_rfl) (fun _ _ _ h => h) (by rfl) (by assumption) ?_)
    | (refine takeH (i := 6) rfl rfl (by kernel_rfl) (by kernel_rfl) (by kernel_rfl) (fun _ _ _ h => h) (by rfl) (by intro w hSw; (try dsimp only at hSw); go_simp; first | done | with_reducible rfl) (by assumption) ?_)
  simp only [List.setIfInBounds_toArray, List.set_cons_zero, List.set_cons_succ]
  first
    | (refine skipH (i := 7) rfl rfl (by kernel_rfl) (by kernel_rfl) (by kernel_rfl) (fun _ _ _ h => h) (by rfl) (by assumption) ?_)
    | (refine takeH (i := 7) rfl rfl (by kernel_rfl) (by kernel_rfl) (by kernel_rfl) (fun _ _ _ h => h) (by rfl) (by intro w hSw; (try dsimp only at hSw); go_simp; first | done | with_reducible rfl) (by assumption) ?_)
  simp only [List.setIfInBounds_toArray, List.set_cons_zero, List.set_cons_succ]
  first
    | (refine skipH (i := 8) rfl rfl (by kernel_rfl) (by kernel_rfl) (by kernel_rfl) (fun _ _ _ h => h) (by rfl) (by assumption) ?_)
    | (refine takeH (i := 8) rfl rfl (by kernel_rfl) (by kernel_rfl) (by kernel_rfl) (fun _ _ _ h => h) (by rfl) (by intro w hSw; (try dsimp only at hSw); go_simp; first | done | with_reducible rfl) (by assumption) ?_)
  simp only [List.setIfInBounds_toArray, List.set_cons_zero, List.set_cons_succ]
  first
    | (refine skipH (i := 9) rfl rfl (by kernel_rfl) (by kernel_rfl) (by kernel_rfl) (fun _ _ _ h => h) (by rfl) (by assumption) ?_)
    | (refine takeH (i := 9) rfl rfl (by kernel_rfl) (by kernel_rfl) (by kernel_rfl) (fun _ _ _ h => h) (by rfl) (by intro w hSw; (try dsimp only at hSw); go_simp; first | done | with_reducible rfl) (by assumption) ?_)
  simp only [List.setIfInBounds_toArray, List.set_cons_zero, List.set_cons_succ]
  first
    | (refine skipH (i := 10) rfl rfl (by kernel_rfl) (by kernel_rfl) (by kernel_rfl) (fun _ _ _ h => h) (by rfl) (by assumption) ?_)
    | (refine takeH (i := 10) rfl rfl (by kernel_rfl) (by kernel_rfl) (by kernel_rfl) (fun _ _ _ h => h) (by rfl) (by intro w hSw; (try dsimp only at hSw); go_simp; first | done | with_reducible rfl) (by assumption) ?_)
  simp only [List.setIfInBounds_toArray, List.set_cons_zero, List.set_cons_succ]
  first
    | (refine skipH (i := 11) rfl rfl (by kernel_rfl) (by kernel_rfl) (by kernel_rfl) (fun _ _ _ h => h) (by rfl) (by assumption) ?_)
    | (refine takeH (i := 11) rfl rfl (by kernel_rfl) (by kernel_rfl) (by kernel_rfl) (fun _ _ _ h => h) (by rfl) (by intro w hSw; (try dsimp only at hSw); go_simp; first | done | with_reducible rfl) (by assumption) ?_)
  simp only [List.setIfInBounds_toArray, List.set_cons_zero, List.set_cons_succ]
  first
    | (refine skipH (i := 12) rfl rfl (by kernel_rfl) (by kernel_rfl) (by kernel_rfl) (fun _ _ _ h => h) (by rfl) (by assumption) ?_)
    | (refine takeH (i := 12) rfl rfl (by kernel_rfl) (by kernel_rfl) (by kernel_rfl) (fun _ _ _ h => h) (by rfl) (by intro w hSw; (try dsimp only at hSw); go_simp; first | done | with_reducible rfl) (by assumption) ?_)
  simp only [List.setIfInBounds_toArray, List.set_cons_zero, List.set_cons_succ]
  first
    | (refine skipH (i := 13) rfl rfl (by kernel_rfl) (by kernel_rfl) (by kernel_rfl) (fun _ _ _ h => h) (by rfl) (by assumption) ?_)
    | (refine takeH (i := 13) rfl rfl (by kernel_rfl) (by kernel_rfl) (by kernel_rfl) (fun _ _ _ h => h) (by rfl) (by intro w hSw; (try dsimp only at hSw); go_simp; first | done | with_reducible rfl) (by assumption) ?_)
  simp only [List.setIfInBounds_toArray, List.set_cons_zero, List.set_cons_succ]
  first
    | (refine skipH (i := 14) rfl rfl (by kernel_rfl) (by kernel_rfl) (by kernel_rfl) (fun _ _ _ h => h) (by rfl) (by assumption) ?_)
    | (refine takeH (i := 14) rfl rfl (by kernel_rfl) (by kernel_rfl) (by kernel_rfl) (fun _ _ _ h => h) (by rfl) (by intro w hSw; (try dsimp only at hSw); go_simp; first | done | with_reducible rfl) (by assumption) ?_)
  simp only [List.setIfInBounds_toArray, List.set_cons_zero, List.set_cons_succ]
  first
    | (refine skipH (i := 15) rfl rfl (by kernel_rfl) (by kernel_rfl) (by kernel_rfl) (fun _ _ _ h => h) (by rfl) (by assumption) ?_)
    | (refine takeH (i := 15) rfl rfl (by kernel_rfl) (by kernel_rfl) (by kernel_rfl) (fun _ _ _ h => h) (by rfl) (by intro w hSw; (try dsimp only at hSw); go_simp; first | done | with_reducible rfl) (by assumption) ?_)
  simp only [List.setIfInBounds_toArray, List.set_cons_zero, List.set_cons_succ]
  first
    | (refine skipH (i := 16) rfl rfl (by kernel_rfl) (by kernel_rfl) (by kernel_rfl) (fun _ _ _ h => h) (by rfl) (by assumption) ?_)
    | (refine takeH (i := 16) rfl rfl (by kernel_rfl) (by kernel_rfl) (by kernel_rfl) (fun _ _ _ h => h) (by rfl) (by intro w hSw; (try dsimp only at hSw); go_simp; first | done | with_reducible rfl) (by assumption) ?_)
  simp only [List.setIfInBounds_toArray, List.set_cons_zero, List.set_cons_succ]
  first
    | (refine skipH (i := 17) rfl rfl (by kernel_rfl) (by kernel_rfl) (by kernel_rfl) (fun _ _ _ h => h) (by rfl) (by assumption) ?_)
    | (refine takeH (i := 17) rfl rfl (by kernel_rfl) (by kernel_rfl) (by kernel_rfl) (fun _ _ _ h => h) (by rfl) (by intro w hSw; (try dsimp only at hSw); go_simp; first | done | with_reducible rfl) (by assumption) ?_)
  simp only [List.setIfInBounds_toArray, List.set_cons_zero, List.set_cons_succ]
  first
    | (refine skipH (i := 18) rfl rfl (by kernel_rfl) (by kernel_rfl) (by kernel_rfl) (fun _ _ _ h => h) (by rfl) (by assumption) ?_)
    | (refine takeH (i := 18) rfl rfl (by kernel_rfl) (by kernel_rfl) (by kernel_rfl) (fun _ _ _ h => h) (by rfl) (by intro w hSw; (try dsimp only at hSw); go_simp; first | done | with_reducible rfl) (by assumption) ?_)
  simp only [List.setIfInBounds_toArray, List.set_cons_zero, List.set_cons_succ]
  first
    | (refine skipH (i := 19) rfl rfl (by kernel_rfl) (by kernel_rfl) (by kernel_rfl) (fun _ _ _ h => h) (by rfl) (by assumption) ?_)
    | (refine takeH (i := 19) rfl rfl (by kernel_rfl) (by kernel_rfl) (by kernel_rfl) (fun _ _ _ h => h) (by rfl) (by intro w hSw; (try dsimp only at hSw); go_simp; first | done | with_reducible rfl) (by assumption) ?_)
  simp only [List.setIfInBounds_toArray, List.set_cons_zero, List.set_cons_succ]
  first
    | (refine skipH (i := 20) rfl rfl (by kernel_rfl) (by kernel_rfl) (by kernel_rfl) (fun _ _ _ h => h) (by rfl) (by assumption) ?_)
    | (refine takeH (i := 20) rfl rfl (by kernel_rfl) (by kernel_rfl) (by kernel_rfl) (fun _ _ _ h => h) (by rfl) (by intro w hSw; (try dsimp only at hSw); go_simp; first | done | with_reducible rfl) (by assumption) ?_)
  simp only [List.setIfInBounds_toArray, List.set_cons_zero, List.set_cons_succ]
  first
    | (refine skipH (i := 21) rfl rfl (by kernel_rfl) (by kernel_rfl) (by kernel_rfl) (fun _ _ _ h => h) (by rfl) (by assumption) ?_)
    | (refine takeH (i := 21) rfl rfl (by kernel_rfl) (by kernel_rfl) (by kernel_rfl) (fun _ _ _ h => h) (by rfl) (by intro w hSw; (try dsimp only at hSw); go_simp; first | done | with_reducible rfl) (by assumption) ?_)
  simp only [List.setIfInBounds_toArray, List.set_cons_zero, List.set_cons_succ]
  first
    | (refine skipH (i := 22) rfl rfl (by kernel_rfl) (by kernel_rfl) (by kernel_rfl) (fun _ _ _ h => h) (by rfl) (by assumption) ?_)
    | (refine takeH (i := 22) rfl rfl (by kernel_rfl) (by kernel_rfl) (by kernel_rfl) (fun _ _ _ h => h) (by rfl) (by intro w hSw; (try dsimp only at hSw); go_simp; first | done | with_reducible rfl) (by assumption) ?_)
  simp only [List.setIfInBounds_toArray, List.set_cons_zero, List.set_cons_succ]
  first
    | (refine skipH (i := 23) rfl rfl (by kernel_rfl) (by kernel_rfl) (by kernel_rfl) (fun _ _ _ h => h) (by rfl) (by assumption) ?_)
    | (refine takeH (i := 23) rfl rfl (by kernel_rfl) (by kernel_rfl) (by kernel_rfl) (fun _ _ _ h => h) (by rfl) (by intro w hSw; (try dsimp only at hSw); go_simp; first | done | with_reducible rfl) (by assumption) ?_)
  simp only [List.setIfInBounds_toArray, List.set_cons_zero, List.set_cons_succ]
  first
    | (refine skipH (i := 24) rfl rfl (by kernel_rfl) (by kernel_rfl) (by kernel_rfl) (fun _ _ _ h => h) (by rfl) (by assumption) ?_)
    | (refine takeH (i := 24) rfl rfl (by kernel_rfl) (by kernel_rfl) (by kernel_rfl) (fun _ _ _ h => h) (by rfl) (by intro w hSw; (try dsimp only at hSw); go_simp; first | done | with_reducible rfl) (by assumption) ?_)
  simp only [List.setIfInBounds_toArray, List.set_cons_zero, List.set_cons_succ]
  first
    | (refine skipH (i := 25) rfl rfl (by kernel_rfl) (by kernel_rfl) (by kernel_rfl) (fun _ _ _ h => h) (by rfl) (by assumption) ?_)
    | (refine takeH (i := 25) rfl rfl (by kernel_rfl) (by kernel_rfl) (by kernel_rfl) (fun _ _ _ h => h) (by rfl) (by intro w hSw; (try dsimp only at hSw); go_simp; first | done | with_reducible rfl) (by assumption) ?_)
  simp only [List.setIfInBounds_toArray, List.set_cons_zero, List.set_cons_succ]
  first
    | (refine skipH (i := 26) rfl rfl (by kernel_rfl) (by kernel_rfl) (by kernel_rfl) (fun _ _ _ h => h) (by rfl) (by assumption) ?_)
    | (refine takeH (i := 26) rfl rfl (by kernel_rfl) (by kernel_rfl) (by kernel_rfl) (fun _ _ _ h => h) (by rfl) (by intro w hSw; (try dsimp only at hSw); go_simp; first | done | with_reducible rfl) (by assumption) ?_)
  simp only [List.setIfInBounds_toArray, List.set_cons_zero, List.set_cons_succ]
  first
    | (refine skipH (i := 27) rfl rfl (by kernel_rfl) (by kernel_rfl) (by kernel_rfl) (fun _ _ _ h => h) (by rfl) (by assumption) ?_)
    | (refine takeH (i := 27) rfl rfl (by kernel_rfl) (by kernel_rfl) (by kernel_rfl) (fun _ _ _ h => h) (by rfl) (by intro w hSw; (try dsimp only at hSw); go_simp; first | done | with_reducible rfl) (by assumption) ?_)
  simp only [List.setIfInBounds_toArray, List.set_cons_zero, List.set_cons_succ]
  first
    | (refine skipH (i := 28) rfl rfl (by kernel_rfl) (by kernel_rfl) (by kernel_rfl) (fun _ _ _ h => h) (by rfl) (by assumption) ?_)
    | (refine takeH (i := 28) rfl rfl (by kernel_rfl) (by kernel_rfl) (by kernel_rfl) (fun _ _ _ h => h) (by rfl) (by intro w hSw; (try dsimp only at hSw); go_simp; first | done | with_reducible rfl) (by assumption) ?_)
  simp only [List.setIfInBounds_toArray, List.set_cons_zero, List.set_cons_succ]
  first
    | (refine skipH (i := 29) rfl rfl (by kernel_rfl) (by kernel_rfl) (by kernel_rfl) (fun _ _ _ h => h) (by rfl) (by assumption) ?_)
    | (refine takeH (i := 29) rfl rfl (by kernel_rfl) (by kernel_rfl) (by kernel_rfl) (fun _ _ _ h => h) (by rfl) (by intro w hSw; (try dsimp only at hSw); go_simp; first | done | with_reducible rfl) (by assumption) ?_)
  simp only [List.setIfInBounds_toArray, List.set_cons_zero, List.set_cons_succ]
  refine wpAnyH_done (by kernel_rfl) ?_ _
  go_split_ands
  go_wp2_with fail
  go_ret
  exact ⟨rfl, by assumption⟩

set_option maxHeartbeats 4000000 in
theorem mayCo_low_is (R i : Int) (a : Option Addr) (n cap : Nat) (xs : List C3) (w : World) (hr : Reads w a n xs) (hn : n ≤ 1048576) (hm : meshOk R xs = true) (h0 : i < 0) :
    Calls Try.prog 57 #[.agg #[.int .i64 R, .slice a n cap], .int .i64 i] w fun e w' => e = .returned (.bool false) ∧ w.grownBy w' none := by
  have hni : (n : Int) ≤ 1048576 := by omega
  have HN := Lib.hid hn; clear hn
  have HR := Lib.hid hr
  have hlen := hr.len
  clear hr
  have HB := Lib.hid (MBox.new w R (.slice a n cap))
  have HG0 := Lib.hid (g_alloc (grown_refl w) (.cells #[.int .i64 R, .slice a n cap] 26))
  have hok : ∀ u, Reads u a n xs → Calls Try.prog 90 #[.agg #[.int .i64 R, .slice a n cap]] u fun e w' => e = .returned (.bool (meshOk R xs)) ∧ u.grownBy w' none := fun u h => meshOk_is R a n cap xs u h HN.out
  rw [hm] at hok
  have HOK := Lib.hid hok; clear hok
  go_enter Try.func57, Try.ntmps57
  go_upto_region 1 with fail
  have b0 := HB.out.c0
  have b1 := HB.out.c1
  have hg := HG0.out
  generalize w.alloc (.cells #[.int .i64 R, .slice a n cap] 26) = W0 at *
  refine wp_region_held_drew (S := fun w' => w'.cell? ⟨w.heap.size, 0, none⟩ = some (.int .i64 R) ∧ w'.cell? ⟨w.heap.size, 1, none⟩ = some (.slice a n cap) ∧ w.grownBy w' none) (by kernel_rfl) ⟨b0, b1, Cell.g_drew hg⟩ (fun hHeld => ?_)
  first
    | (refine skipH (i := 0) rfl rfl (by kernel_rfl) (by kernel_rfl) (by kernel_rfl) (fun _ _ _ h => h) (by rfl) (by assumption) ?_)
    | (refine takeH (i := 0) rfl rfl (by kernel_rfl) (by kernel_rfl) (by kernel_rfl) (fun _ _ _ h => h) (by rfl) (by intro w hSw; (try dsimp only at hSw); go_simp; first | done | with_reducible rfl) (by assumption) ?_)
  simp only [List.setIfInBounds_toArray, List.set_cons_zero, List.set_cons_succ]
  refine wpAnyH_ready (rs := [1]) (by kernel_rfl) (by simp) ?_
  refine AllReadyH.cons rfl (fun K hK => ?_) AllReadyH.nil
  go_simp
  refine (HOK.out _ (HR.out.on (Cell.g_drew HG0.out))).mono ?_
  rintro e w1 ⟨rfl, hgc⟩
  have hx := HB.out.kept (grown_trans (Cell.g_drew (grown_refl W0)) hgc) (by simp)
  refine hK.out _ _ ⟨hx.c0, hx.c1, grown_trans (Cell.g_drew hg) hgc⟩ (fun hHeld => ?_)
  clear hK K hx hgc
  try simp only [Act.put, List.setIfInBounds_toArray, List.set_cons_zero, List.set_cons_succ]
  first
    | (refine skipH (i := 2) rfl rfl (by kernel_rfl) (by kernel_rfl) (by kernel_rfl) (fun _ _ _ h => h) (by rfl) (by assumption) ?_)
    | (refine takeH (i := 2) rfl rfl (by kernel_rfl) (by kernel_rfl) (by kernel_rfl) (fun _ _ _ h => h) (by rfl) (by intro w hSw; (try dsimp only at hSw); go_simp; first | done | with_reducible rfl) (by assumption) ?_)
  simp only [List.setIfInBounds_toArray, List.set_cons_zero, List.set_cons_succ]
  first
    | (refine skipH (i := 3) rfl rfl (by kernel_rfl) (by kernel_rfl) (by kernel_rfl) (fun _ _ _ h => h) (by rfl) (by assumption) ?_)
    | (refine takeH (i := 3) rfl rfl (by kernel_rfl) (by kernel_rfl) (by kernel_rfl) (fun _ _ _ h => h) (by rfl) (by intro w hSw; (try dsimp only at hSw); go_simp; first | done | with_reducible rfl) (by assumption) ?_)
  simp only [List.setIfInBounds_toArray, List.set_cons_zero, List.set_cons_succ]
  first
    | (refine skipH (i := 4) rfl rfl (by kernel_rfl) (by kernel_rfl) (by kernel_rfl) (fun _ _ _ h => h) (by rfl) (by assumption) ?_)
    | (refine takeH (i := 4) rfl rfl (by kernel_rfl) (by kernel_rfl) (by kernel_rfl) (fun _ _ _ h => h) (by rfl) (by intro w hSw; (try dsimp only at hSw); go_simp; first | done | with_reducible rfl) (by assumption) ?_)
  simp only [List.setIfInBounds_toArray, List.set_cons_zero, List.set_cons_succ]
  first
    | (refine skipH (i := 5) rfl rfl (by kernel_rfl) (by kernel_rfl) (by kernel_rfl) (fun _ _ _ h => h) (by rfl) (by assumption) ?_)
    | (refine takeH (i := 5) rfl rfl (by kernel_rfl) (by kernel_rfl) (by kernel_rfl) (fun _ _ _ h => h) (by rfl) (by intro w hSw; (try dsimp only at hSw); go_simp; first | done | with_reducible rfl) (by assumption) ?_)
  simp only [List.setIfInBounds_toArray, List.set_cons_zero, List.set_cons_succ]
  first
    | (refine skipH (i := 6) rfl rfl (by kernel_rfl) (by kernel_rfl) (by kernel_rfl) (fun _ _ _ h => h) (by rfl) (by assumption) ?_)
    | (refine takeH (i := 6) rfl rfl (by kernel_rfl) (by kernel_rfl) (by kernel_rfl) (fun _ _ _ h => h) (by rfl) (by intro w hSw; (try dsimp only at hSw); go_simp; first | done | with_reducible rfl) (by assumption) ?_)
  simp only [List.setIfInBounds_toArray, List.set_cons_zero, List.set_cons_succ]
  first
    | (refine skipH (i := 7) rfl rfl (by kernel_rfl) (by kernel_rfl) (by kernel_rfl) (fun _ _ _ h => h) (by rfl) (by assumption) ?_)
    | (refine takeH (i := 7) rfl rfl (by kernel_rfl) (by kernel_rfl) (by kernel_rfl) (fun _ _ _ h => h) (by rfl) (by intro w hSw; (try dsimp only at hSw); go_simp; first | done | with_reducible rfl) (by assumption) ?_)
  simp only [List.setIfInBounds_toArray, List.set_cons_zero, List.set_cons_succ]
  first
    | (refine skipH (i := 8) rfl rfl (by kernel_rfl) (by kernel_rfl) (by kernel_rfl) (fun _ _ _ h => h) (by rfl) (by assumption) ?_)
    | (refine takeH (i := 8) rfl rfl (by kernel_rfl) (by kernel_rfl) (by kernel_rfl) (fun _ _ _ h => h) (by rfl) (by intro w hSw; (try dsimp only at hSw); go_simp; first | done | with_reducible rfl) (by assumption) ?_)
  simp only [List.setIfInBounds_toArray, List.set_cons_zero, List.set_cons_succ]
  first
    | (refine skipH (i := 9) rfl rfl (by kernel_rfl) (by kernel_rfl) (by kernel_rfl) (fun _ _ _ h => h) (by rfl) (by assumption) ?_)
    | (refine takeH (i := 9) rfl rfl (by kernel_rfl) (by kernel_rfl) (by kernel_rfl) (fun _ _ _ h => h) (by rfl) (by intro w hSw; (try dsimp only at hSw); go_simp; first | done | with_reducible rfl) (by assumption) ?_)
  simp only [List.setIfInBounds_toArray, List.set_cons_zero, List.set_cons_succ]
  first
    | (refine skipH (i := 10) rfl rfl (by kernel_rfl) (by kernel_rfl) (by kernel_rfl) (fun _ _ _ h => h) (by rfl) (by assumption) ?_)
    | (refine takeH (i := 10) rfl rfl (by kernel_rfl) (by kernel_rfl) (by kernel_rfl) (fun _ _ _ h => h) (by rfl) (by intro w hSw; (try dsimp only at hSw); go_simp; first | done | with_reducible rfl) (by assumption) ?_)
  simp only [List.setIfInBounds_toArray, List.set_cons_zero, List.set_cons_succ]
  first
    | (refine skipH (i := 11) rfl rfl (by kernel_rfl) (by kernel_rfl) (by kernel_rfl) (fun _ _ _ h => h) (by rfl) (by assumption) ?_)
    | (refine takeH (i := 11) rfl rfl (by kernel_rfl) (by kernel_rfl) (by kernel_rfl) (fun _ _ _ h => h) (by rfl) (by intro w hSw; (try dsimp only at hSw); go_simp; first | done | with_reducible rfl) (by assumption) ?_)
  simp only [List.setIfInBounds_toArray, List.set_cons_zero, List.set_cons_succ]
  first
    | (refine skipH (i := 12) rfl rfl (by kernel_rfl) (by kernel_rfl) (by kernel_rfl) (fun _ _ _ h => h) (by rfl) (by assumption) ?_)
    | (refine takeH (i := 12) rfl rfl (by kernel_rfl) (by kernel_rfl) (by kernel_rfl) (fun _ _ _ h => h) (by rfl) (by intro w hSw; (try dsimp only at hSw); go_simp; first | done | with_reducible rfl) (by assumption) ?_)
  simp only [List.setIfInBounds_toArray, List.set_cons_zero, List.set_cons_succ]
  first
    | (refine skipH (i := 13) rfl rfl (by kernel_rfl) (by kernel_rfl) (by kernel_rfl) (fun _ _ _ h => h) (by rfl) (by assumption) ?_)
    | (refine takeH (i := 13) rfl rfl (by kernel_rfl) (by kernel_rfl) (by kernel_rfl) (fun _ _ _ h => h) (by rfl) (by intro w hSw; (try dsimp only at hSw); go_simp; first | done | with_reducible rfl) (by assumption) ?_)
  simp only [List.setIfInBounds_toArray, List.set_cons_zero, List.set_cons_succ]
  first
    | (refine skipH (i := 14) rfl rfl (by kernel_rfl) (by kernel_rfl) (by kernel_rfl) (fun _ _ _ h => h) (by rfl) (by assumption) ?_)
    | (refine takeH (i := 14) rfl rfl (by kernel_rfl) (by kernel_rfl) (by kernel_rfl) (fun _ _ _ h => h) (by rfl) (by intro w hSw; (try dsimp only at hSw); go_simp; first | done | with_reducible rfl) (by assumption) ?_)
  simp only [List.setIfInBounds_toArray, List.set_cons_zero, List.set_cons_succ]
  first
    | (refine skipH (i := 15) rfl rfl (by kernel_rfl) (by kernel_rfl) (by kernel_rfl) (fun _ _ _ h => h) (by rfl) (by assumption) ?_)
    | (refine takeH (i := 15) rfl rfl (by kernel_rfl) (by kernel_rfl) (by kernel_rfl) (fun _ _ _ h => h) (by rfl) (by intro w hSw; (try dsimp only at hSw); go_simp; first | done | with_reducible rfl) (by assumption) ?_)
  simp only [List.setIfInBounds_toArray, List.set_cons_zero, List.set_cons_succ]
  first
    | (refine skipH (i := 16) rfl rfl (by kernel_rfl) (by kernel_rfl) (by kernel_rfl) (fun _ _ _ h => h) (by rfl) (by assumption) ?_)
    | (refine takeH (i := 16) rfl rfl (by kernel_rfl) (by kernel_rfl) (by kernel_rfl) (fun _ _ _ h => h) (by rfl) (by intro w hSw; (try dsimp only at hSw); go_simp; first | done | with_reducible rfl) (by assumption) ?_)
  simp only [List.setIfInBounds_toArray, List.set_cons_zero, List.set_cons_succ]
  first
    | (refine skipH (i := 17) rfl rfl (by kernel_rfl) (by kernel_rfl) (by kernel_rfl) (fun _ _ _ h => h) (by rfl) (by assumption) ?_)
    | (refine takeH (i := 17) rfl rfl (by kernel_rfl) (by kernel_rfl) (by kernel_rfl) (fun _ _ _ h => h) (by rfl) (by intro w hSw; (try dsimp only at hSw); go_simp; first | done | with_reducible rfl) (by assumption) ?_)
  simp only [List.setIfInBounds_toArray, List.set_cons_zero, List.set_cons_succ]
  first
    | (refine skipH (i := 18) rfl rfl (by kernel_rfl) (by kernel_rfl) (by kernel_rfl) (fun _ _ _ h => h) (by rfl) (by assumption) ?_)
    | (refine takeH (i := 18) rfl rfl (by kernel_rfl) (by kernel_rfl) (by kernel_rfl) (fun _ _ _ h => h) (by rfl) (by intro w hSw; (try dsimp only at hSw); go_simp; first | done | with_reducible rfl) (by assumption) ?_)
  simp only [List.setIfInBounds_toArray, List.set_cons_zero, List.set_cons_succ]
  first
    | (refine skipH (i := 19) rfl rfl (by kernel_rfl) (by kernel_rfl) (by kernel_rfl) (fun _ _ _ h => h) (by rfl) (by assumption) ?_)
    | (refine takeH (i := 19) rfl rfl (by kernel_rfl) (by kernel_rfl) (by kernel_rfl) (fun _ _ _ h => h) (by rfl) (by intro w hSw; (try dsimp only at hSw); go_simp; first | done | with_reducible rfl) (by assumption) ?_)
  simp only [List.setIfInBounds_toArray, List.set_cons_zero, List.set_cons_succ]
  first
    | (refine skipH (i := 20) rfl rfl (by kernel_rfl) (by kernel_rfl) (by kernel_rfl) (fun _ _ _ h => h) (by rfl) (by assumption) ?_)
    | (refine takeH (i := 20) rfl rfl (by kernel_rfl) (by kernel_rfl) (by kernel_rfl) (fun _ _ _ h => h) (by rfl) (by intro w hSw; (try dsimp only at hSw); go_simp; first | done | with_reducible rfl) (by assumption) ?_)
  simp only [List.setIfInBounds_toArray, List.set_cons_zero, List.set_cons_succ]
  first
    | (refine skipH (i := 21) rfl rfl (by kernel_rfl) (by kernel_rfl) (by kernel_rfl) (fun _ _ _ h => h) (by rfl) (by assumption) ?_)
    | (refine takeH (i := 21) rfl rfl (by kernel_rfl) (by kernel_rfl) (by kernel_rfl) (fun _ _ _ h => h) (by rfl) (by intro w hSw; (try dsimp only at hSw); go_simp; first | done | with_reducible rfl) (by assumption) ?_)
  simp only [List.setIfInBounds_toArray, List.set_cons_zero, List.set_cons_succ]
  first
    | (refine skipH (i := 22) rfl rfl (by kernel_rfl) (by kernel_rfl) (by kernel_rfl) (fun _ _ _ h => h) (by rfl) (by assumption) ?_)
    | (refine takeH (i := 22) rfl rfl (by kernel_rfl) (by kernel_rfl) (by kernel_rfl) (fun _ _ _ h => h) (by rfl) (by intro w hSw; (try dsimp only at hSw); go_simp; first | done | with_reducible rfl) (by assumption) ?_)
  simp only [List.setIfInBounds_toArray, List.set_cons_zero, List.set_cons_succ]
  first
    | (refine skipH (i := 23) rfl rfl (by kernel_rfl) (by kernel_rfl) (by kernel_rfl) (fun _ _ _ h => h) (by rfl) (by assumption) ?_)
    | (refine takeH (i := 23) rfl rfl (by kernel_rfl) (by kernel_rfl) (by kernel_rfl) (fun _ _ _ h => h) (by rfl) (by intro w hSw; (try dsimp only at hSw); go_simp; first | done | with_reducible rfl) (by assumption) ?_)
  simp only [List.setIfInBounds_toArray, List.set_cons_zero, List.set_cons_succ]
  first
    | (refine skipH (i := 24) rfl rfl (by kernel_rfl) (by kernel_rfl) (by kernel_rfl) (fun _ _ _ h => h) (by rfl) (by assumption) ?_)
    | (refine takeH (i := 24) rfl rfl (by kernel_rfl) (by kernel_rfl) (by kernel_rfl) (fun _ _ _ h => h) (by rfl) (by intro w hSw; (try dsimp only at hSw); go_simp; first | done | with_reducible rfl) (by assumption) ?_)
  simp only [List.setIfInBounds_toArray, List.set_cons_zero, List.set_cons_succ]
  first
    | (refine skipH (i := 25) rfl rfl (by kernel_rfl) (by kernel_rfl) (by kernel_rfl) (fun _ _ _ h => h) (by rfl) (by assumption) ?_)
    | (refine takeH (i := 25) rfl rfl (by kernel_rfl) (by kernel_rfl) (by kernel_rfl) (fun _ _ _ h => h) (by rfl) (by intro w hSw; (try dsimp only at hSw); go_simp; first | done | with_reducible rfl) (by assumption) ?_)
  simp only [List.setIfInBounds_toArray, List.set_cons_zero, List.set_cons_succ]
  first
    | (refine skipH (i := 26) rfl rfl (by kernel_rfl) (by kernel_rfl) (by kernel_rfl) (fun _ _ _ h => h) (by rfl) (by assumption) ?_)
    | (refine takeH (i := 26) rfl rfl (by kernel_rfl) (by kernel_rfl) (by kernel_rfl) (fun _ _ _ h => h) (by rfl) (by intro w hSw; (try dsimp only at hSw); go_simp; first | done | with_reducible rfl) (by assumption) ?_)
  simp only [List.setIfInBounds_toArray, List.set_cons_zero, List.set_cons_succ]
  first
    | (refine skipH (i := 27) rfl rfl (by kernel_rfl) (by kernel_rfl) (by kernel_rfl) (fun _ _ _ h => h) (by rfl) (by assumption) ?_)
    | (refine takeH (i := 27) rfl rfl (by kernel_rfl) (by kernel_rfl) (by kernel_rfl) (fun _ _ _ h => h) (by rfl) (by intro w hSw; (try dsimp only at hSw); go_simp; first | done | with_reducible rfl) (by assumption) ?_)
  simp only [List.setIfInBounds_toArray, List.set_cons_zero, List.set_cons_succ]
  first
    | (refine skipH (i := 28) rfl rfl (by kernel_rfl) (by kernel_rfl) (by kernel_rfl) (fun _ _ _ h => h) (by rfl) (by assumption) ?_)
    | (refine takeH (i := 28) rfl rfl (by kernel_rfl) (by kernel_rfl) (by kernel_rfl) (fun _ _ _ h => h) (by rfl) (by intro w hSw; (try dsimp only at hSw); go_simp; first | done | with_reducible rfl) (by assumption) ?_)
  simp only [List.setIfInBounds_toArray, List.set_cons_zero, List.set_cons_succ]
  first
    | (refine skipH (i := 29) rfl rfl (by kernel_rfl) (by kernel_rfl) (by kernel_rfl) (fun _ _ _ h => h) (by rfl) (by assumption) ?_)
    | (refine takeH (i := 29) rfl rfl (by kernel_rfl) (by kernel_rfl) (by kernel_rfl) (fun _ _ _ h => h) (by rfl) (by intro w hSw; (try dsimp only at hSw); go_simp; first | done | with_reducible rfl) (by assumption) ?_)
  simp only [List.setIfInBounds_toArray, List.set_cons_zero, List.set_cons_succ]
  refine wpAnyH_done (by kernel_rfl) ?_ _
  go_split_ands
  go_wp2_with fail
  go_ret
  exact ⟨rfl, by assumption⟩

set_option maxHeartbeats 4000000 in
theorem mayCo_high_is (R i : Int) (a : Option Addr) (n cap : Nat) (xs : List C3) (w : World) (hr : Reads w a n xs) (hn : n ≤ 1048576) (hm : meshOk R xs = true) (h0 : 0 ≤ i) (h1 : (n : Int) ≤ i + 1) :
    Calls Try.prog 57 #[.agg #[.int .i64 R, .slice a n cap], .int .i64 i] w fun e w' => e = .returned (.bool false) ∧ w.grownBy w' none := by
  have hni : (n : Int) ≤ 1048576 := by omega
  have HN := Lib.hid hn; clear hn
  have HR := Lib.hid hr
  have hlen := hr.len
  clear hr
  have HB := Lib.hid (MBox.new w R (.slice a n cap))
  have HG0 := Lib.hid (g_alloc (grown_refl w) (.cells #[.int .i64 R, .slice a n cap] 26))
  have hok : ∀ u, Reads u a n xs → Calls Try.prog 90 #[.agg #[.int .i64 R, .slice a n cap]] u fun e w' => e = .returned (.bool (meshOk R xs)) ∧ u.grownBy w' none := fun u h => meshOk_is R a n cap xs u h HN.out
  rw [hm] at hok
  have HOK := Lib.hid hok; clear hok
  have hw : IntKind.i64.wrap ((n : Int) - 1) = (n : Int) - 1 := IntWalk.i64_in _ (by omega)
  have hd : ((n : Int) - 1 ≤ i) = True := eq_true (by omega)
  have h3 : ¬ i < 0 := by omega
  go_enter Try.func57, Try.ntmps57
  go_upto_region 1 with fail
  have b0 := HB.out.c0
  have b1 := HB.out.c1
  have hg := HG0.out
  generalize w.alloc (.cells #[.int .i64 R, .slice a n cap] 26) = W0 at *
  refine wp_region_held_drew (S := fun w' => w'.cell? ⟨w.heap.size, 0, none⟩ = some (.int .i64 R) ∧ w'.cell? ⟨w.heap.size, 1, none⟩ = some (.slice a n cap) ∧ w.grownBy w' none) (by kernel_rfl) ⟨b0, b1, Cell.g_drew hg⟩ (fun hHeld => ?_)
  first
    | (refine skipH (i := 0) rfl rfl (by kernel_rfl) (by kernel_rfl) (by kernel_rfl) (fun _ _ _ h => h) (by rfl) (by assumption) ?_)
    | (refine takeH (i := 0) rfl rfl (by kernel_rfl) (by kernel_rfl) (by kernel_rfl) (fun _ _ _ h => h) (by rfl) (by intro w hSw; (try dsimp only at hSw); go_simp; first | done | with_reducible rfl) (by assumption) ?_)
  simp only [List.setIfInBounds_toArray, List.set_cons_zero, List.set_cons_succ]
  refine wpAnyH_ready (rs := [1]) (by kernel_rfl) (by simp) ?_
  refine AllReadyH.cons rfl (fun K hK => ?_) AllReadyH.nil
  go_simp
  refine (HOK.out _ (HR.out.on (Cell.g_drew HG0.out))).mono ?_
  rintro e w1 ⟨rfl, hgc⟩
  have hx := HB.out.kept (grown_trans (Cell.g_drew (grown_refl W0)) hgc) (by simp)
  refine hK.out _ _ ⟨hx.c0, hx.c1, grown_trans (Cell.g_drew hg) hgc⟩ (fun hHeld => ?_)
  clear hK K hx hgc
  try simp only [Act.put, List.setIfInBounds_toArray, List.set_cons_zero, List.set_cons_succ]
  first
    | (refine skipH (i := 2) rfl rfl (by kernel_rfl) (by kernel_rfl) (by kernel_rfl) (fun _ _ _ h => h) (by rfl) (by assumption) ?_)
    | (refine takeH (i := 2) rfl rfl (by kernel_rfl) (by kernel_rfl) (by kernel_rfl) (fun _ _ _ h => h) (by rfl) (by intro w hSw; (try dsimp only at hSw); go_simp; first | done | with_reducible rfl) (by assumption) ?_)
  simp only [List.setIfInBounds_toArray, List.set_cons_zero, List.set_cons_succ]
  first
    | (refine skipH (i := 3) rfl rfl (by kernel_rfl) (by kernel_rfl) (by kernel_rfl) (fun _ _ _ h => h) (by rfl) (by assumption) ?_)
    | (refine takeH (i := 3) rfl rfl (by kernel_rfl) (by kernel_rfl) (by kernel_rfl) (fun _ _ _ h => h) (by rfl) (by intro w hSw; (try dsimp only at hSw); go_simp; first | done | with_reducible rfl) (by assumption) ?_)
  simp only [List.setIfInBounds_toArray, List.set_cons_zero, List.set_cons_succ]
  first
    | (refine skipH (i := 4) rfl rfl (by kernel_rfl) (by kernel_rfl) (by kernel_rfl) (fun _ _ _ h => h) (by rfl) (by assumption) ?_)
    | (refine takeH (i := 4) rfl rfl (by kernel_rfl) (by kernel_rfl) (by kernel_rfl) (fun _ _ _ h => h) (by rfl) (by intro w hSw; (try dsimp only at hSw); go_simp; first | done | with_reducible rfl) (by assumption) ?_)
  simp only [List.setIfInBounds_toArray, List.set_cons_zero, List.set_cons_succ]
  first
    | (refine skipH (i := 5) rfl rfl (by kernel_rfl) (by kernel_rfl) (by kernel_rfl) (fun _ _ _ h => h) (by rfl) (by assumption) ?_)
    | (refine takeH (i := 5) rfl rfl (by kernel_rfl) (by kernel_rfl) (by kernel_rfl) (fun _ _ _ h => h) (by rfl) (by intro w hSw; (try dsimp only at hSw); go_simp; first | done | with_reducible rfl) (by assumption) ?_)
  simp only [List.setIfInBounds_toArray, List.set_cons_zero, List.set_cons_succ]
  first
    | (refine skipH (i := 6) rfl rfl (by kernel_rfl) (by kernel_rfl) (by kernel_rfl) (fun _ _ _ h => h) (by rfl) (by assumption) ?_)
    | (refine takeH (i := 6) rfl rfl (by kernel_rfl) (by kernel_rfl) (by kernel_rfl) (fun _ _ _ h => h) (by rfl) (by intro w hSw; (try dsimp only at hSw); go_simp; first | done | with_reducible rfl) (by assumption) ?_)
  simp only [List.setIfInBounds_toArray, List.set_cons_zero, List.set_cons_succ]
  first
    | (refine skipH (i := 7) rfl rfl (by kernel_rfl) (by kernel_rfl) (by kernel_rfl) (fun _ _ _ h => h) (by rfl) (by assumption) ?_)
    | (refine takeH (i := 7) rfl rfl (by kernel_rfl) (by kernel_rfl) (by kernel_rfl) (fun _ _ _ h => h) (by rfl) (by intro w hSw; (try dsimp only at hSw); go_simp; first | done | with_reducible rfl) (by assumption) ?_)
  simp only [List.setIfInBounds_toArray, List.set_cons_zero, List.set_cons_succ]
  first
    | (refine skipH (i := 8) rfl rfl (by kernel_rfl) (by kernel_rfl) (by kernel_rfl) (fun _ _ _ h => h) (by rfl) (by assumption) ?_)
    | (refine takeH (i := 8) rfl rfl (by kernel_rfl) (by kernel_rfl) (by kernel_rfl) (fun _ _ _ h => h) (by rfl) (by intro w hSw; (try dsimp only at hSw); go_simp; first | done | with_reducible rfl) (by assumption) ?_)
  simp only [List.setIfInBounds_toArray, List.set_cons_zero, List.set_cons_succ]
  first
    | (refine skipH (i := 9) rfl rfl (by kernel_rfl) (by kernel_rfl) (by kernel_rfl) (fun _ _ _ h => h) (by rfl) (by assumption) ?_)
    | (refine takeH (i := 9) rfl rfl (by kernel_rfl) (by kernel_rfl) (by kernel_rfl) (fun _ _ _ h => h) (by rfl) (by intro w hSw; (try dsimp only at hSw); go_simp; first | done | with_reducible rfl) (by assumption) ?_)
  simp only [List.setIfInBounds_toArray, List.set_cons_zero, List.set_cons_succ]
  first
    | (refine skipH (i := 10) rfl rfl (by kernel_rfl) (by kernel_rfl) (by kernel_rfl) (fun _ _ _ h => h) (by rfl) (by assumption) ?_)
    | (refine takeH (i := 10) rfl rfl (by kernel_rfl) (by kernel_rfl) (by kernel_rfl) (fun _ _ _ h => h) (by rfl) (by intro w hSw; (try dsimp only at hSw); go_simp; first | done | with_reducible rfl) (by assumption) ?_)
  simp only [List.setIfInBounds_toArray, List.set_cons_zero, List.set_cons_succ]
  first
    | (refine skipH (i := 11) rfl rfl (by kernel_rfl) (by kernel_rfl) (by kernel_rfl) (fun _ _ _ h => h) (by rfl) (by assumption) ?_)
    | (refine takeH (i := 11) rfl rfl (by kernel_rfl) (by kernel_rfl) (by kernel_rfl) (fun _ _ _ h => h) (by rfl) (by intro w hSw; (try dsimp only at hSw); go_simp; first | done | with_reducible rfl) (by assumption) ?_)
  simp only [List.setIfInBounds_toArray, List.set_cons_zero, List.set_cons_succ]
  first
    | (refine skipH (i := 12) rfl rfl (by kernel_rfl) (by kernel_rfl) (by kernel_rfl) (fun _ _ _ h => h) (by rfl) (by assumption) ?_)
    | (refine takeH (i := 12) rfl rfl (by kernel_rfl) (by kernel_rfl) (by kernel_rfl) (fun _ _ _ h => h) (by rfl) (by intro w hSw; (try dsimp only at hSw); go_simp; first | done | with_reducible rfl) (by assumption) ?_)
  simp only [List.setIfInBounds_toArray, List.set_cons_zero, List.set_cons_succ]
  first
    | (refine skipH (i := 13) rfl rfl (by kernel_rfl) (by kernel_rfl) (by kernel_rfl) (fun _ _ _ h => h) (by rfl) (by assumption) ?_)
    | (refine takeH (i := 13) rfl rfl (by kernel_rfl) (by kernel_rfl) (by kernel_rfl) (fun _ _ _ h => h) (by rfl) (by intro w hSw; (try dsimp only at hSw); go_simp; first | done | with_reducible rfl) (by assumption) ?_)
  simp only [List.setIfInBounds_toArray, List.set_cons_zero, List.set_cons_succ]
  try simp only [hw, hd, decide_true]
  first
    | (refine skipH (i := 14) rfl rfl (by kernel_rfl) (by kernel_rfl) (by kernel_rfl) (fun _ _ _ h => h) (by rfl) (by assumption) ?_)
    | (refine takeH (i := 14) rfl rfl (by kernel_rfl) (by kernel_rfl) (by kernel_rfl) (fun _ _ _ h => h) (by rfl) (by intro w hSw; (try dsimp only at hSw); go_simp; first | done | with_reducible rfl) (by assumption) ?_)
  simp only [List.setIfInBounds_toArray, List.set_cons_zero, List.set_cons_succ]
  first
    | (refine skipH (i := 15) rfl rfl (by kernel_rfl) (by kernel_rfl) (by kernel_rfl) (fun _ _ _ h => h) (by rfl) (by assumption) ?_)
    | (refine takeH (i := 15) rfl rfl (by kernel_rfl) (by kernel_rfl) (by kernel_rfl) (fun _ _ _ h => h) (by rfl) (by intro w hSw; (try dsimp only at hSw); go_simp; first | done | with_reducible rfl) (by assumption) ?_)
  simp only [List.setIfInBounds_toArray, List.set_cons_zero, List.set_cons_succ]
  first
    | (refine skipH (i := 16) rfl rfl (by kernel_rfl) (by kernel_rfl) (by kernel_rfl) (fun _ _ _ h => h) (by rfl) (by assumption) ?_)
    | (refine takeH (i := 16) rfl rfl (by kernel_rfl) (by kernel_rfl) (by kernel_rfl) (fun _ _ _ h => h) (by rfl) (by intro w hSw; (try dsimp only at hSw); go_simp; first | done | with_reducible rfl) (by assumption) ?_)
  simp only [List.setIfInBounds_toArray, List.set_cons_zero, List.set_cons_succ]
  first
    | (refine skipH (i := 17) rfl rfl (by kernel_rfl) (by kernel_rfl) (by kernel_rfl) (fun _ _ _ h => h) (by rfl) (by assumption) ?_)
    | (refine takeH (i := 17) rfl rfl (by kernel_rfl) (by kernel_rfl) (by kernel_rfl) (fun _ _ _ h => h) (by rfl) (by intro w hSw; (try dsimp only at hSw); go_simp; first | done | with_reducible rfl) (by assumption) ?_)
  simp only [List.setIfInBounds_toArray, List.set_cons_zero, List.set_cons_succ]
  first
    | (refine skipH (i := 18) rfl rfl (by kernel_rfl) (by kernel_rfl) (by kernel_rfl) (fun _ _ _ h => h) (by rfl) (by assumption) ?_)
    | (refine takeH (i := 18) rfl rfl (by kernel_rfl) (by kernel_rfl) (by kernel_rfl) (fun _ _ _ h => h) (by rfl) (by intro w hSw; (try dsimp only at hSw); go_simp; first | done | with_reducible rfl) (by assumption) ?_)
  simp only [List.setIfInBounds_toArray, List.set_cons_zero, List.set_cons_succ]
  first
    | (refine skipH (i := 19) rfl rfl (by kernel_rfl) (by kernel_rfl) (by kernel_rfl) (fun _ _ _ h => h) (by rfl) (by assumption) ?_)
    | (refine takeH (i := 19) rfl rfl (by kernel_rfl) (by kernel_rfl) (by kernel_rfl) (fun _ _ _ h => h) (by rfl) (by intro w hSw; (try dsimp only at hSw); go_simp; first | done | with_reducible rfl) (by assumption) ?_)
  simp only [List.setIfInBounds_toArray, List.set_cons_zero, List.set_cons_succ]
  first
    | (refine skipH (i := 20) rfl rfl (by kernel_rfl) (by kernel_rfl) (by kernel_rfl) (fun _ _ _ h => h) (by rfl) (by assumption) ?_)
    | (refine takeH (i := 20) rfl rfl (by kernel_rfl) (by kernel_rfl) (by kernel_rfl) (fun _ _ _ h => h) (by rfl) (by intro w hSw; (try dsimp only at hSw); go_simp; first | done | with_reducible rfl) (by assumption) ?_)
  simp only [List.setIfInBounds_toArray, List.set_cons_zero, List.set_cons_succ]
  first
    | (refine skipH (i := 21) rfl rfl (by kernel_rfl) (by kernel_rfl) (by kernel_rfl) (fun _ _ _ h => h) (by rfl) (by assumption) ?_)
    | (refine takeH (i := 21) rfl rfl (by kernel_rfl) (by kernel_rfl) (by kernel_rfl) (fun _ _ _ h => h) (by rfl) (by intro w hSw; (try dsimp only at hSw); go_simp; first | done | with_reducible rfl) (by assumption) ?_)
  simp only [List.setIfInBounds_toArray, List.set_cons_zero, List.set_cons_succ]
  first
    | (refine skipH (i := 22) rfl rfl (by kernel_rfl) (by kernel_rfl) (by kernel_rfl) (fun _ _ _ h => h) (by rfl) (by assumption) ?_)
    | (refine takeH (i := 22) rfl rfl (by kernel_rfl) (by kernel_rfl) (by kernel_rfl) (fun _ _ _ h => h) (by rfl) (by intro w hSw; (try dsimp only at hSw); go_simp; first | done | with_reducible rfl) (by assumption) ?_)
  simp only [List.setIfInBounds_toArray, List.set_cons_zero, List.set_cons_succ]
  first
    | (refine skipH (i := 23) rfl rfl (by kernel_rfl) (by kernel_rfl) (by kernel_rfl) (fun _ _ _ h => h) (by rfl) (by assumption) ?_)
    | (refine takeH (i := 23) rfl rfl (by kernel_rfl) (by kernel_rfl) (by kernel_rfl) (fun _ _ _ h => h) (by rfl) (by intro w hSw; (try dsimp only at hSw); go_simp; first | done | with_reducible rfl) (by assumption) ?_)
  simp only [List.setIfInBounds_toArray, List.set_cons_zero, List.set_cons_succ]
  first
    | (refine skipH (i := 24) rfl rfl (by kernel_rfl) (by kernel_rfl) (by kernel_rfl) (fun _ _ _ h => h) (by rfl) (by assumption) ?_)
    | (refine takeH (i := 24) rfl rfl (by kernel_rfl) (by kernel_rfl) (by kernel_rfl) (fun _ _ _ h => h) (by rfl) (by intro w hSw; (try dsimp only at hSw); go_simp; first | done | with_reducible rfl) (by assumption) ?_)
  simp only [List.setIfInBounds_toArray, List.set_cons_zero, List.set_cons_succ]
  first
    | (refine skipH (i := 25) rfl rfl (by kernel_rfl) (by kernel_rfl) (by kernel_rfl) (fun _ _ _ h => h) (by rfl) (by assumption) ?_)
    | (refine takeH (i := 25) rfl rfl (by kernel_rfl) (by kernel_rfl) (by kernel_rfl) (fun _ _ _ h => h) (by rfl) (by intro w hSw; (try dsimp only at hSw); go_simp; first | done | with_reducible rfl) (by assumption) ?_)
  simp only [List.setIfInBounds_toArray, List.set_cons_zero, List.set_cons_succ]
  first
    | (refine skipH (i := 26) rfl rfl (by kernel_rfl) (by kernel_rfl) (by kernel_rfl) (fun _ _ _ h => h) (by rfl) (by assumption) ?_)
    | (refine takeH (i := 26) rfl rfl (by kernel_rfl) (by kernel_rfl) (by kernel_rfl) (fun _ _ _ h => h) (by rfl) (by intro w hSw; (try dsimp only at hSw); go_simp; first | done | with_reducible rfl) (by assumption) ?_)
  simp only [List.setIfInBounds_toArray, List.set_cons_zero, List.set_cons_succ]
  first
    | (refine skipH (i := 27) rfl rfl (by kernel_rfl) (by kernel_rfl) (by kernel_rfl) (fun _ _ _ h => h) (by rfl) (by assumption) ?_)
    | (refine takeH (i := 27) rfl rfl (by kernel_rfl) (by kernel_rfl) (by kernel_rfl) (fun _ _ _ h => h) (by rfl) (by intro w hSw; (try dsimp only at hSw); go_simp; first | done | with_reducible rfl) (by assumption) ?_)
  simp only [List.setIfInBounds_toArray, List.set_cons_zero, List.set_cons_succ]
  first
    | (refine skipH (i := 28) rfl rfl (by kernel_rfl) (by kernel_rfl) (by kernel_rfl) (fun _ _ _ h => h) (by rfl) (by assumption) ?_)
    | (refine takeH (i := 28) rfl rfl (by kernel_rfl) (by kernel_rfl) (by kernel_rfl) (fun _ _ _ h => h) (by rfl) (by intro w hSw; (try dsimp only at hSw); go_simp; first | done | with_reducible rfl) (by assumption) ?_)
  simp only [List.setIfInBounds_toArray, List.set_cons_zero, List.set_cons_succ]
  first
    | (refine skipH (i := 29) rfl rfl (by kernel_rfl) (by kernel_rfl) (by kernel_rfl) (fun _ _ _ h => h) (by rfl) (by assumption) ?_)
    | (refine takeH (i := 29) rfl rfl (by kernel_rfl) (by kernel_rfl) (by kernel_rfl) (fun _ _ _ h => h) (by rfl) (by intro w hSw; (try dsimp only at hSw); go_simp; first | done | with_reducible rfl) (by assumption) ?_)
  simp only [List.setIfInBounds_toArray, List.set_cons_zero, List.set_cons_succ]
  refine wpAnyH_done (by kernel_rfl) ?_ _
  go_split_ands
  go_wp2_with fail
  go_ret
  exact ⟨rfl, by assumption⟩
end Go.Proofs.Ytfoilfgiablleaa.Mesh

namespace Go.Proofs.Ytfoilfgiablleaa.Mesh
open Go.ChangeShapes Go.WideShapes Go.ChangeAt Go.RowKit Go.Proofs.Ytfoilfgiablleaa.Cell

theorem sibC_is (x y : C3) (w : World) :
    Calls Try.prog 100 #[.agg #[.int .i64 x.1, .int .i64 x.2.1, .int .i64 x.2.2], .agg #[.int .i64 y.1, .int .i64 y.2.1, .int .i64 y.2.2]] w fun e w' => e = .returned (.bool (sibOf x y)) ∧ w.grownBy w' none :=
  sib_is _ _ _ _ _ _ w

set_option maxHeartbeats 4000000 in
theorem mayCo_two (R : Int) (k : Nat) (a : Option Addr) (n cap : Nat) (xs : List C3) (x y : C3) (w : World) (hr : Reads w a n xs) (hn : n ≤ 1048576) (hm : meshOk R xs = true) (hx : xs[k]? = some x) (hy : xs[k + 1]? = some y) (s : Bool) (hs : sibOf x y = s) :
    Calls Try.prog 57 #[.agg #[.int .i64 R, .slice a n cap], .int .i64 k] w fun e w' => e = .returned (.bool (s && (leftOk xs k && rightOk xs k))) ∧ w.grownBy w' none := by
  have hni : (n : Int) ≤ 1048576 := by omega
  have HN := Lib.hid hn; clear hn
  have HR := Lib.hid hr
  have hlen := hr.len
  clear hr
  have HB := Lib.hid (MBox.new w R (.slice a n cap))
  have HG0 := Lib.hid (g_alloc (grown_refl w) (.cells #[.int .i64 R, .slice a n cap] 26))
  have hok : ∀ u, Reads u a n xs → Calls Try.prog 90 #[.agg #[.int .i64 R, .slice a n cap]] u fun e w' => e = .returned (.bool (meshOk R xs)) ∧ u.grownBy w' none := fun u h => meshOk_is R a n cap xs u h HN.out
  rw [hm] at hok
  have HOK := Lib.hid hok; clear hok hm
  have hsc := sibC_is x y
  rw [hs] at hsc
  have HS := Lib.hid hsc
  clear hsc hs
  obtain ⟨r, l, j⟩ := x
  obtain ⟨r', l', j'⟩ := y
  have hk2 := (List.getElem?_eq_some_iff.1 hy).1
  obtain ⟨g, rfl, -, d0, d1, d2⟩ := (HR.out.on HG0.out).at_ k _ hx
  obtain ⟨g_, hg_, -, e0, e1, e2⟩ := (HR.out.on HG0.out).at_ (k + 1) _ hy
  cases hg_
  dsimp only at d0 d1 d2 e0 e1 e2
  have HX := Lib.hid hx
  have hwk : IntKind.i64.wrap ((k : Int) + 1) = (k : Int) + 1 := IntWalk.i64_in _ (by omega)
  have hwn : IntKind.i64.wrap ((n : Int) - 1) = (n : Int) - 1 := IntWalk.i64_in _ (by omega)
  have k0 : ¬ (k : Int) < 0 := by omega
  have k1 : (k : Int) < n := by omega
  have k2 : (k : Int) + 1 < n := by omega
  have k3 : (0 : Int) ≤ (k : Int) + 1 := by omega
  have k4 : ¬ (n : Int) - 1 ≤ k := by omega
  have k5 : ((k : Int) + 1).toNat = k + 1 := by omega
  clear hx hy
  go_enter Try.func57, Try.ntmps57
  go_upto_region 1 with fail
  have b0 := HB.out.c0
  have b1 := HB.out.c1
  have hg := HG0.out
  generalize w.alloc (.cells #[.int .i64 R, .slice (some ⟨g, 0, none⟩) n cap] 26) = W0 at *
  have hS : ∀ u, W0.grownBy u none → (fun w' => w'.cell? ⟨w.heap.size, 0, none⟩ = some (.int .i64 R) ∧ w'.cell? ⟨w.heap.size, 1, none⟩ = some (.slice (some ⟨g, 0, none⟩) n cap)
      ∧ w'.cell? ⟨g, k * 3, none⟩ = some (.int .i64 r) ∧ w'.cell? ⟨g, k * 3 + 1, none⟩ = some (.int .i64 l) ∧ w'.cell? ⟨g, k * 3 + 2, none⟩ = some (.int .i64 j)
      ∧ w'.cell? ⟨g, (k + 1) * 3, none⟩ = some (.int .i64 r') ∧ w'.cell? ⟨g, (k + 1) * 3 + 1, none⟩ = some (.int .i64 l') ∧ w'.cell? ⟨g, (k + 1) * 3 + 2, none⟩ = some (.int .i64 j') ∧ w.grownBy w' none) u := fun u h => ⟨(HB.out.kept h (by simp)).c0, (HB.out.kept h (by simp)).c1, h.cell d0 (by simp), h.cell d1 (by simp), h.cell d2 (by simp), h.cell e0 (by simp), h.cell e1 (by simp), h.cell e2 (by simp), grown_trans hg h⟩
  have HSS := Lib.hid hS
  clear hS d0 d1 d2 e0 e1 e2 b0 b1 hg
  refine wp_region_held_drew (S := (fun w' => w'.cell? ⟨w.heap.size, 0, none⟩ = some (.int .i64 R) ∧ w'.cell? ⟨w.heap.size, 1, none⟩ = some (.slice (some ⟨g, 0, none⟩) n cap)
      ∧ w'.cell? ⟨g, k * 3, none⟩ = some (.int .i64 r) ∧ w'.cell? ⟨g, k * 3 + 1, none⟩ = some (.int .i64 l) ∧ w'.cell? ⟨g, k * 3 + 2, none⟩ = some (.int .i64 j)
      ∧ w'.cell? ⟨g, (k + 1) * 3, none⟩ = some (.int .i64 r') ∧ w'.cell? ⟨g, (k + 1) * 3 + 1, none⟩ = some (.int .i64 l') ∧ w'.cell? ⟨g, (k + 1) * 3 + 2, none⟩ = some (.int .i64 j') ∧ w.grownBy w' none)) (by kernel_rfl) (HSS.out _ (Cell.g_drew (grown_refl W0))) (fun hHeld => ?_)
  refine takeH (i := 0) rfl rfl (by kernel_rfl) (by kernel_rfl) (by kernel_rfl) (fun _ _ _ h => h) (by rfl) (by intro w hSw; (try dsimp only at hSw); go_simp; first | done | with_reducible rfl) (by assumption) ?_
  simp only [List.setIfInBounds_toArray, List.set_cons_zero, List.set_cons_succ]
  refine wpAnyH_ready (rs := [1]) (by kernel_rfl) (by simp) ?_
  refine AllReadyH.cons rfl (fun K hK => ?_) AllReadyH.nil
  go_simp
  refine (HOK.out _ (HR.out.on (Cell.g_drew HG0.out))).mono ?_
  rintro e w1 ⟨rfl, hgc⟩
  have HG1 := Lib.hid (grown_trans (Cell.g_drew (grown_refl W0)) hgc)
  clear hgc
  refine hK.out _ _ (HSS.out _ HG1.out) (fun hHeld => ?_)
  clear hK K
  try simp only [Act.put, List.setIfInBounds_toArray, List.set_cons_zero, List.set_cons_succ]
  refine takeH (i := 2) rfl rfl (by kernel_rfl) (by kernel_rfl) (by kernel_rfl) (fun _ _ _ h => h) (by rfl) (by intro w hSw; (try dsimp only at hSw); go_simp; first | done | with_reducible rfl) (by assumption) ?_
  simp only [List.setIfInBounds_toArray, List.set_cons_zero, List.set_cons_succ]
  refine takeH (i := 3) rfl rfl (by kernel_rfl) (by kernel_rfl) (by kernel_rfl) (fun _ _ _ h => h) (by rfl) (by intro w hSw; (try dsimp only at hSw); go_simp; first | done | with_reducible rfl) (by assumption) ?_
  simp only [List.setIfInBounds_toArray, List.set_cons_zero, List.set_cons_succ]
  refine takeH (i := 4) rfl rfl (by kernel_rfl) (by kernel_rfl) (by kernel_rfl) (fun _ _ _ h => h) (by rfl) (by intro w hSw; (try dsimp only at hSw); go_simp; first | done | with_reducible rfl) (by assumption) ?_
  simp only [List.setIfInBounds_toArray, List.set_cons_zero, List.set_cons_succ]
  refine takeH (i := 5) rfl rfl (by kernel_rfl) (by kernel_rfl) (by kernel_rfl) (fun _ _ _ h => h) (by rfl) (by intro w hSw; (try dsimp only at hSw); go_simp; first | done | with_reducible rfl) (by assumption) ?_
  simp only [List.setIfInBounds_toArray, List.set_cons_zero, List.set_cons_succ]
  refine takeH (i := 6) rfl rfl (by kernel_rfl) (by kernel_rfl) (by kernel_rfl) (fun _ _ _ h => h) (by rfl) (by intro w hSw; (try dsimp only at hSw); go_simp; first | done | with_reducible rfl) (by assumption) ?_
  simp only [List.setIfInBounds_toArray, List.set_cons_zero, List.set_cons_succ]
  refine takeH (i := 7) rfl rfl (by kernel_rfl) (by kernel_rfl) (by kernel_rfl) (fun _ _ _ h => h) (by rfl) (by intro w hSw; (try dsimp only at hSw); go_simp; first | done | with_reducible rfl) (by assumption) ?_
  simp only [List.setIfInBounds_toArray, List.set_cons_zero, List.set_cons_succ]
  refine takeH (i := 8) rfl rfl (by kernel_rfl) (by kernel_rfl) (by kernel_rfl) (fun _ _ _ h => h) (by rfl) (by intro w hSw; (try dsimp only at hSw); go_simp; first | done | with_reducible rfl) (by assumption) ?_
  simp only [List.setIfInBounds_toArray, List.set_cons_zero, List.set_cons_succ]
  refine takeH (i := 9) rfl rfl (by kernel_rfl) (by kernel_rfl) (by kernel_rfl) (fun _ _ _ h => h) (by rfl) (by intro w hSw; (try dsimp only at hSw); go_simp; first | done | with_reducible rfl) (by assumption) ?_
  simp only [List.setIfInBounds_toArray, List.set_cons_zero, List.set_cons_succ]
  refine takeH (i := 10) rfl rfl (by kernel_rfl) (by kernel_rfl) (by kernel_rfl) (fun _ _ _ h => h) (by rfl) (by intro w hSw; (try dsimp only at hSw); go_simp; first | done | with_reducible rfl) (by assumption) ?_
  simp only [List.setIfInBounds_toArray, List.set_cons_zero, List.set_cons_succ]
  refine takeH (i := 11) rfl rfl (by kernel_rfl) (by kernel_rfl) (by kernel_rfl) (fun _ _ _ h => h) (by rfl) (by intro w hSw; (try dsimp only at hSw); go_simp; first | done | with_reducible rfl) (by assumption) ?_
  simp only [List.setIfInBounds_toArray, List.set_cons_zero, List.set_cons_succ]
  refine takeH (i := 12) rfl rfl (by kernel_rfl) (by kernel_rfl) (by kernel_rfl) (fun _ _ _ h => h) (by rfl) (by intro w hSw; (try dsimp only at hSw); go_simp; first | done | with_reducible rfl) (by assumption) ?_
  simp only [List.setIfInBounds_toArray, List.set_cons_zero, List.set_cons_succ]
  refine takeH (i := 13) rfl rfl (by kernel_rfl) (by kernel_rfl) (by kernel_rfl) (fun _ _ _ h => h) (by rfl) (by intro w hSw; (try dsimp only at hSw); go_simp; first | done | with_reducible rfl) (by assumption) ?_
  simp only [List.setIfInBounds_toArray, List.set_cons_zero, List.set_cons_succ]
  refine takeH (i := 14) rfl rfl (by kernel_rfl) (by kernel_rfl) (by kernel_rfl) (fun _ _ _ h => h) (by rfl) (by intro w hSw; (try dsimp only at hSw); go_simp; first | done | with_reducible rfl) (by assumption) ?_
  simp only [List.setIfInBounds_toArray, List.set_cons_zero, List.set_cons_succ]
  refine takeH (i := 15) rfl rfl (by kernel_rfl) (by kernel_rfl) (by kernel_rfl) (fun _ _ _ h => h) (by rfl) (by intro w hSw; (try dsimp only at hSw); go_simp; first | done | with_reducible rfl) (by assumption) ?_
  simp only [List.setIfInBounds_toArray, List.set_cons_zero, List.set_cons_succ]
  refine takeH (i := 16) rfl rfl (by kernel_rfl) (by kernel_rfl) (by kernel_rfl) (fun _ _ _ h => h) (by rfl) (by intro w hSw; (try dsimp only at hSw); go_simp; first | done | with_reducible rfl) (by assumption) ?_
  simp only [List.setIfInBounds_toArray, List.set_cons_zero, List.set_cons_succ]
  refine takeH (i := 17) rfl rfl (by kernel_rfl) (by kernel_rfl) (by kernel_rfl) (fun _ _ _ h => h) (by rfl) (by intro w hSw; (try dsimp only at hSw); go_simp; first | done | with_reducible rfl) (by assumption) ?_
  simp only [List.setIfInBounds_toArray, List.set_cons_zero, List.set_cons_succ]
  refine takeH (i := 18) rfl rfl (by kernel_rfl) (by kernel_rfl) (by kernel_rfl) (fun _ _ _ h => h) (by rfl) (by intro w hSw; (try dsimp only at hSw); go_simp; first | done | with_reducible rfl) (by assumption) ?_
  simp only [List.setIfInBounds_toArray, List.set_cons_zero, List.set_cons_succ]
  refine takeH (i := 19) rfl rfl (by kernel_rfl) (by kernel_rfl) (by kernel_rfl) (fun _ _ _ h => h) (by rfl) (by intro w hSw; (try dsimp only at hSw); go_simp; first | done | with_reducible rfl) (by assumption) ?_
  simp only [List.setIfInBounds_toArray, List.set_cons_zero, List.set_cons_succ]
  refine takeH (i := 20) rfl rfl (by kernel_rfl) (by kernel_rfl) (by kernel_rfl) (fun _ _ _ h => h) (by rfl) (by intro w hSw; (try dsimp only at hSw); go_simp; first | done | with_reducible rfl) (by assumption) ?_
  simp only [List.setIfInBounds_toArray, List.set_cons_zero, List.set_cons_succ]
  refine takeH (i := 21) rfl rfl (by kernel_rfl) (by kernel_rfl) (by kernel_rfl) (fun _ _ _ h => h) (by rfl) (by intro w hSw; (try dsimp only at hSw); go_simp; first | done | with_reducible rfl) (by assumption) ?_
  simp only [List.setIfInBounds_toArray, List.set_cons_zero, List.set_cons_succ]
  refine takeH (i := 22) rfl rfl (by kernel_rfl) (by kernel_rfl) (by kernel_rfl) (fun _ _ _ h => h) (by rfl) (by intro w hSw; (try dsimp only at hSw); go_simp; first | done | with_reducible rfl) (by assumption) ?_
  simp only [List.setIfInBounds_toArray, List.set_cons_zero, List.set_cons_succ]
  refine takeH (i := 23) rfl rfl (by kernel_rfl) (by kernel_rfl) (by kernel_rfl) (fun _ _ _ h => h) (by rfl) (by intro w hSw; (try dsimp only at hSw); go_simp; first | done | with_reducible rfl) (by assumption) ?_
  simp only [List.setIfInBounds_toArray, List.set_cons_zero, List.set_cons_succ]
  refine takeH (i := 24) rfl rfl (by kernel_rfl) (by kernel_rfl) (by kernel_rfl) (fun _ _ _ h => h) (by rfl) (by intro w hSw; (try dsimp only at hSw); go_simp; first | done | with_reducible rfl) (by assumption) ?_
  simp only [List.setIfInBounds_toArray, List.set_cons_zero, List.set_cons_succ]
  refine takeH (i := 25) rfl rfl (by kernel_rfl) (by kernel_rfl) (by kernel_rfl) (fun _ _ _ h => h) (by rfl) (by intro w hSw; (try dsimp only at hSw); go_simp; first | done | with_reducible rfl) (by assumption) ?_
  simp only [List.setIfInBounds_toArray, List.set_cons_zero, List.set_cons_succ]
  refine takeH (i := 26) rfl rfl (by kernel_rfl) (by kernel_rfl) (by kernel_rfl) (fun _ _ _ h => h) (by rfl) (by intro w hSw; (try dsimp only at hSw); go_simp; first | done | with_reducible rfl) (by assumption) ?_
  simp only [List.setIfInBounds_toArray, List.set_cons_zero, List.set_cons_succ]
  refine wpAnyH_ready (rs := [27]) (by kernel_rfl) (by simp) ?_
  refine AllReadyH.cons rfl (fun K hK => ?_) AllReadyH.nil
  go_simp
  refine (HS.out _).mono ?_
  rintro e w2 ⟨rfl, hgc⟩
  have HG2 := Lib.hid (grown_trans HG1.out hgc)
  clear hgc
  refine hK.out _ _ (HSS.out _ HG2.out) (fun hHeld => ?_)
  clear hK K
  try simp only [Act.put, List.setIfInBounds_toArray, List.set_cons_zero, List.set_cons_succ]
  refine takeH (i := 28) rfl rfl (by kernel_rfl) (by kernel_rfl) (by kernel_rfl) (fun _ _ _ h => h) (by rfl) (by intro w hSw; (try dsimp only at hSw); go_simp; first | done | with_reducible rfl) (by assumption) ?_
  simp only [List.setIfInBounds_toArray, List.set_cons_zero, List.set_cons_succ]
  refine takeH (i := 29) rfl rfl (by kernel_rfl) (by kernel_rfl) (by kernel_rfl) (fun _ _ _ h => h) (by rfl) (by intro w hSw; (try dsimp only at hSw); go_simp; first | done | with_reducible rfl) (by assumption) ?_
  simp only [List.setIfInBounds_toArray, List.set_cons_zero, List.set_cons_succ]
  refine wpAnyH_done (by kernel_rfl) ?_ _
  go_split_ands
  clear HB HG0 HOK HS HSS HG1 HG2
  rename_i hgw
  cases s with
  | false =>
    go_wp2_with fail
    go_ret
    exact ⟨rfl, hgw⟩
  | true =>
    by_cases hk : k = 0
    · subst hk
      by_cases hl : n ≤ 0 + 2
      · have HZ := Lib.hid (right_last (xs := xs) (k := 0) (by omega))
        go_wp2_with fail
        go_ret
        exact ⟨by rw [left_first, HZ.out]; rfl, hgw⟩
      · obtain ⟨rz, lz, jz, hz⟩ := get_of_lt hlen (k := 0 + 2) (by omega)
        obtain ⟨g_, hg_, -, z0, z1, z2⟩ := (HR.out.on hgw).at_ (0 + 2) _ hz
        cases hg_
        dsimp only at z0 z1 z2
        have HZ := Lib.hid (right_of hz HX.out)
        have HD := Lib.hid (show decide ((n : Int) ≤ 2) = false from decide_eq_false (by omega))
        go_wp2_with fail
        go_ret
        refine ⟨?_, hgw⟩
        rw [left_first, HZ.out]
        show Ending.returned (.bool (decide ((n : Int) ≤ 2) || decide (lz ≤ l))) = Ending.returned (.bool (true && (true && decide (lz ≤ l))))
        rw [HD.out]
        rfl
    · obtain ⟨rq, lq, jq, hq⟩ := get_of_lt hlen (k := k - 1) (by omega)
      obtain ⟨g_, hg_, -, q0, q1, q2⟩ := (HR.out.on hgw).at_ (k - 1) _ hq
      cases hg_
      dsimp only at q0 q1 q2
      have HL := Lib.hid (left_of (by omega) hq HX.out)
      have hkm : IntKind.i64.wrap ((k : Int) - 1) = (k : Int) - 1 := IntWalk.i64_in _ (by omega)
      have hkn : ((k : Int) - 1).toNat = k - 1 := by omega
      have k6 : (0 : Int) ≤ (k : Int) - 1 := by omega
      have k7 : (k : Int) - 1 < n := by omega
      by_cases hle : lq ≤ l
      · have HLE := Lib.hid (decide_eq_true hle)
        by_cases hl : n ≤ k + 2
        · have HZ := Lib.hid (right_last (xs := xs) (k := k) (by omega))
          go_wp2_with fail
          go_ret
          exact ⟨by rw [HL.out, HZ.out]; dsimp only; rw [HLE.out]; rfl, hgw⟩
        · obtain ⟨rz, lz, jz, hz⟩ := get_of_lt hlen (k := k + 2) (by omega)
          obtain ⟨g_, hg_, -, z0, z1, z2⟩ := (HR.out.on hgw).at_ (k + 2) _ hz
          cases hg_
          dsimp only at z0 z1 z2
          have HZ := Lib.hid (right_of hz HX.out)
          have HD := Lib.hid (show decide ((n : Int) ≤ (k : Int) + 2) = false from decide_eq_false (by omega))
          go_wp2_with fail
          go_ret
          refine ⟨?_, hgw⟩
          rw [HL.out, HZ.out]
          show Ending.returned (.bool (decide ((n : Int) ≤ (k : Int) + 2) || decide (lz ≤ l))) = Ending.returned (.bool (true && (decide (lq ≤ l) && decide (lz ≤ l))))
          rw [HD.out, HLE.out]
          rfl
      · have HLE := Lib.hid (decide_eq_false hle)
        go_wp2_with fail
        go_ret
        exact ⟨by rw [HL.out]; dsimp only; rw [HLE.out]; rfl, hgw⟩

theorem mayCo_is (R i : Int) (a : Option Addr) (n cap : Nat) (xs : List C3) (w : World) (hr : Reads w a n xs) (hn : n ≤ 1048576) :
    Calls Try.prog 57 #[.agg #[.int .i64 R, .slice a n cap], .int .i64 i] w fun e w' => e = .returned (.bool (mayCo R xs i)) ∧ w.grownBy w' none := by
  have hlen := hr.len
  by_cases hm : meshOk R xs = true
  · by_cases h0 : i < 0
    · rw [mayCo_low h0]
      exact mayCo_low_is R i a n cap xs w hr hn hm h0
    · by_cases h1 : (n : Int) ≤ i + 1
      · rw [mayCo_high (by omega)]
        exact mayCo_high_is R i a n cap xs w hr hn hm (by omega) h1
      · obtain ⟨k, rfl⟩ : ∃ k : Nat, i = k := ⟨i.toNat, by omega⟩
        obtain ⟨r, l, j, hx⟩ := get_of_lt hlen (k := k) (by omega)
        obtain ⟨r', l', j', hy⟩ := get_of_lt hlen (k := k + 1) (by omega)
        rw [mayCo_in hm (by omega), pairOk, sibAt_of hx hy]
        exact mayCo_two R k a n cap xs _ _ w hr hn hm hx hy _ rfl
  · rw [Bool.not_eq_true] at hm
    rw [mayCo_bad hm]
    exact mayCo_bad_is R i a n cap xs w hr hn hm
end Go.Proofs.Ytfoilfgiablleaa.Mesh

namespace Go.Proofs.Ytfoilfgiablleaa.Mesh
open Go.ChangeShapes Go.WideShapes Go.ChangeAt Go.RowKit Go.Proofs.Ytfoilfgiablleaa.Cell

theorem in_is (x lo hi : Int) (w : World) :
    Calls Try.prog 55 #[.int .i64 x, .int .i64 lo, .int .i64 hi] w fun e w' => e = .returned (.bool (decide (lo ≤ x ∧ x ≤ hi))) ∧ w' = w := by
  by_cases h1 : lo ≤ x
  · by_cases h2 : x ≤ hi
    · rw [decide_eq_true (by omega : lo ≤ x ∧ x ≤ hi)]
      go_enter Try.func55, Try.ntmps55
      go_wp2
      go_ret
      exact ⟨rfl, rfl⟩
    · rw [decide_eq_false (by omega : ¬ (lo ≤ x ∧ x ≤ hi))]
      go_enter Try.func55, Try.ntmps55
      go_wp2
      go_ret
      exact ⟨rfl, rfl⟩
  · rw [decide_eq_false (by omega : ¬ (lo ≤ x ∧ x ≤ hi))]
    go_enter Try.func55, Try.ntmps55
    go_wp2
    go_ret
    exact ⟨rfl, rfl⟩
theorem in_to (x lo hi : Int) (b : Bool) (h : decide (lo ≤ x ∧ x ≤ hi) = b) (w : World) :
    Calls Try.prog 55 #[.int .i64 x, .int .i64 lo, .int .i64 hi] w fun e w' => e = .returned (.bool b) ∧ w' = w := h ▸ in_is x lo hi w
theorem specSibC_is (x y : C3) (w : World) :
    Calls Try.prog 106 #[.agg #[.int .i64 x.1, .int .i64 x.2.1, .int .i64 x.2.2], .agg #[.int .i64 y.1, .int .i64 y.2.1, .int .i64 y.2.2]] w fun e w' => e = .returned (.bool (sibOf x y)) ∧ w.grownBy w' none :=
  specSib_is _ _ _ _ _ _ w

set_option maxHeartbeats 2000000 in
theorem specMayRef_is (R i : Int) (a : Option Addr) (n cap : Nat) (xs : List C3) (w : World) (hr : Reads w a n xs) (hn : n ≤ 1048576) :
    Calls Try.prog 64 #[.agg #[.int .i64 R, .slice a n cap], .int .i64 i] w fun e w' => e = .returned (.bool (mayRef R xs i)) ∧ w.grownBy w' none := by
  have hni : (n : Int) ≤ 1048576 := by omega
  have HN := Lib.hid hn; clear hn
  have HR := Lib.hid hr
  have hlen := hr.len
  clear hr
  have HB := Lib.hid (MBox.new w R (.slice a n cap))
  have hok : ∀ u, Reads u a n xs → Calls Try.prog 59 #[.agg #[.int .i64 R, .slice a n cap]] u fun e w' => e = .returned (.bool (meshOk R xs)) ∧ u.grownBy w' none := fun u h => specMeshOk_is R a n cap xs u h HN.out
  have HOK := Lib.hid hok; clear hok
  have hwn : IntKind.i64.wrap ((n : Int) - 1) = (n : Int) - 1 := IntWalk.i64_in _ (by omega)
  cases hm : meshOk R xs with
  | false =>
    rw [mayRef_bad hm]
    rw [hm] at HOK
    go_enter Try.func64, Try.ntmps64
    go_wp2_with (go_at_call 59; (with_reducible refine (HOK.out _ (HR.out.past _)).mono ?_); rintro e w1 ⟨rfl, hg⟩; have HG := Lib.hid hg; clear hg)
    go_ret
    exact ⟨rfl, grown_trans (g_alloc (grown_refl _) _) HG.out⟩
  | true =>
    have HM := Lib.hid hm
    rw [hm] at HOK
    clear hm
    by_cases h0 : ¬ (0 ≤ i ∧ i ≤ (n : Int) - 1)
    · have hf : mayRef R xs i = false := by
        by_cases h1 : i < 0
        · exact mayRef_low h1
        · exact mayRef_high (by omega)
      rw [hf]
      have HI := Lib.hid (in_to i 0 ((n : Int) - 1) false (decide_eq_false h0))
      go_enter Try.func64, Try.ntmps64
      go_wp2_with (first
        | (go_at_call 59; (with_reducible refine (HOK.out _ (HR.out.past _)).mono ?_); rintro e w1 ⟨rfl, hg⟩; have b1 := (HB.out.kept hg (by simp)).c1; have HG := Lib.hid hg; clear hg)
        | (go_at_call 55; (with_reducible refine (HI.out _).mono ?_); rintro e w2 ⟨rfl, rfl⟩))
      go_ret
      exact ⟨rfl, grown_trans (g_alloc (grown_refl _) _) HG.out⟩
    rw [Decidable.not_not] at h0
    have HI := Lib.hid (in_to i 0 ((n : Int) - 1) true (decide_eq_true h0))
    obtain ⟨k, rfl⟩ : ∃ k : Nat, i = k := ⟨i.toNat, by omega⟩
    obtain ⟨r, l, j, hx⟩ := get_of_lt hlen (k := k) (by omega)
    rw [mayRef_in HM.out hx]
    obtain ⟨g, rfl, -⟩ := HR.out.at_ k _ hx
    have HX := Lib.hid hx
    have k1 : (k : Int) < n := by omega
    clear hx h0
    go_enter Try.func64, Try.ntmps64
    go_wp2_with (first
      | (go_at_call 59; (with_reducible refine (HOK.out _ (HR.out.past _)).mono ?_); rintro e w1 ⟨rfl, hg⟩; have b1 := (HB.out.kept hg (by simp)).c1; obtain ⟨g', hg', -, d0, d1, d2⟩ := ((HR.out.past _).on hg).at_ k _ HX.out; cases hg'; dsimp only at d0 d1 d2; have HG := Lib.hid hg; clear hg)
      | (go_at_call 55; (with_reducible refine (HI.out _).mono ?_); rintro e w2 ⟨rfl, rfl⟩))
    go_ret
    exact ⟨rfl, grown_trans (g_alloc (grown_refl _) _) HG.out⟩

set_option maxHeartbeats 4000000 in
theorem pair_is (R : Int) (k : Nat) (a : Option Addr) (n cap : Nat) (xs : List C3) (x y : C3) (w : World) (hr : Reads w a n xs) (hn : n ≤ 1048576) (hx : xs[k]? = some x) (hy : xs[k + 1]? = some y) (s : Bool) (hs : sibOf x y = s) :
    Calls Try.prog 60 #[.agg #[.int .i64 R, .slice a n cap], .int .i64 k] w fun e w' => e = .returned (.bool (s && (leftOk xs k && rightOk xs k))) ∧ w.grownBy w' none := by
  have hni : (n : Int) ≤ 1048576 := by omega
  have HR := Lib.hid hr
  have hlen := hr.len
  clear hr
  have HB := Lib.hid (MBox.new w R (.slice a n cap))
  have HG0 := Lib.hid (g_alloc (grown_refl w) (.cells #[.int .i64 R, .slice a n cap] 26))
  have hsc := specSibC_is x y
  rw [hs] at hsc
  have HS := Lib.hid hsc
  clear hsc hs
  obtain ⟨r, l, j⟩ := x
  obtain ⟨r', l', j'⟩ := y
  have hk2 := (List.getElem?_eq_some_iff.1 hy).1
  obtain ⟨g, rfl, -, d0, d1, d2⟩ := (HR.out.on HG0.out).at_ k _ hx
  obtain ⟨g_, hg_, -, e0, e1, e2⟩ := (HR.out.on HG0.out).at_ (k + 1) _ hy
  cases hg_
  dsimp only at d0 d1 d2 e0 e1 e2
  have HX := Lib.hid hx
  have hwk : IntKind.i64.wrap ((k : Int) + 1) = (k : Int) + 1 := IntWalk.i64_in _ (by omega)
  have k1 : (k : Int) < n := by omega
  have k2 : (k : Int) + 1 < n := by omega
  have k3 : (0 : Int) ≤ (k : Int) + 1 := by omega
  have k5 : ((k : Int) + 1).toNat = k + 1 := by omega
  clear hx hy
  go_enter Try.func60, Try.ntmps60
  have b0 := HB.out.c0
  have b1 := HB.out.c1
  go_upto_region 2 with fail
  have hg := HG0.out
  generalize w.alloc (.cells #[.int .i64 R, .slice (some ⟨g, 0, none⟩) n cap] 26) = W0 at *
  have hS : ∀ u, W0.grownBy u none → (fun w' => w'.cell? ⟨w.heap.size, 0, none⟩ = some (.int .i64 R) ∧ w'.cell? ⟨w.heap.size, 1, none⟩ = some (.slice (some ⟨g, 0, none⟩) n cap)
      ∧ w'.cell? ⟨g, k * 3, none⟩ = some (.int .i64 r) ∧ w'.cell? ⟨g, k * 3 + 1, none⟩ = some (.int .i64 l) ∧ w'.cell? ⟨g, k * 3 + 2, none⟩ = some (.int .i64 j)
      ∧ w'.cell? ⟨g, (k + 1) * 3, none⟩ = some (.int .i64 r') ∧ w'.cell? ⟨g, (k + 1) * 3 + 1, none⟩ = some (.int .i64 l') ∧ w'.cell? ⟨g, (k + 1) * 3 + 2, none⟩ = some (.int .i64 j') ∧ w.grownBy w' none) u := fun u h => ⟨(HB.out.kept h (by simp)).c0, (HB.out.kept h (by simp)).c1, h.cell d0 (by simp), h.cell d1 (by simp), h.cell d2 (by simp), h.cell e0 (by simp), h.cell e1 (by simp), h.cell e2 (by simp), grown_trans hg h⟩
  have HSS := Lib.hid hS
  clear hS d0 d1 d2 e0 e1 e2 b0 b1 hg
  refine wp_region_held_drew (S := (fun w' => w'.cell? ⟨w.heap.size, 0, none⟩ = some (.int .i64 R) ∧ w'.cell? ⟨w.heap.size, 1, none⟩ = some (.slice (some ⟨g, 0, none⟩) n cap)
      ∧ w'.cell? ⟨g, k * 3, none⟩ = some (.int .i64 r) ∧ w'.cell? ⟨g, k * 3 + 1, none⟩ = some (.int .i64 l) ∧ w'.cell? ⟨g, k * 3 + 2, none⟩ = some (.int .i64 j)
      ∧ w'.cell? ⟨g, (k + 1) * 3, none⟩ = some (.int .i64 r') ∧ w'.cell? ⟨g, (k + 1) * 3 + 1, none⟩ = some (.int .i64 l') ∧ w'.cell? ⟨g, (k + 1) * 3 + 2, none⟩ = some (.int .i64 j') ∧ w.grownBy w' none)) (by kernel_rfl) (HSS.out _ (Cell.g_drew (grown_refl W0))) (fun hHeld => ?_)
  refine takeH (i := 0) rfl rfl (by kernel_rfl) (by kernel_rfl) (by kernel_rfl) (fun _ _ _ h => h) (by rfl) (by intro w hSw; (try dsimp only at hSw); go_simp; first | done | with_reducible rfl) (by assumption) ?_
  simp only [List.setIfInBounds_toArray, List.set_cons_zero, List.set_cons_succ]
  refine takeH (i := 1) rfl rfl (by kernel_rfl) (by kernel_rfl) (by kernel_rfl) (fun _ _ _ h => h) (by rfl) (by intro w hSw; (try dsimp only at hSw); go_simp; first | done | with_reducible rfl) (by assumption) ?_
  simp only [List.setIfInBounds_toArray, List.set_cons_zero, List.set_cons_succ]
  refine takeH (i := 2) rfl rfl (by kernel_rfl) (by kernel_rfl) (by kernel_rfl) (fun _ _ _ h => h) (by rfl) (by intro w hSw; (try dsimp only at hSw); go_simp; first | done | with_reducible rfl) (by assumption) ?_
  simp only [List.setIfInBounds_toArray, List.set_cons_zero, List.set_cons_succ]
  refine takeH (i := 3) rfl rfl (by kernel_rfl) (by kernel_rfl) (by kernel_rfl) (fun _ _ _ h => h) (by rfl) (by intro w hSw; (try dsimp only at hSw); go_simp; first | done | with_reducible rfl) (by assumption) ?_
  simp only [List.setIfInBounds_toArray, List.set_cons_zero, List.set_cons_succ]
  refine takeH (i := 4) rfl rfl (by kernel_rfl) (by kernel_rfl) (by kernel_rfl) (fun _ _ _ h => h) (by rfl) (by intro w hSw; (try dsimp only at hSw); go_simp; first | done | with_reducible rfl) (by assumption) ?_
  simp only [List.setIfInBounds_toArray, List.set_cons_zero, List.set_cons_succ]
  refine takeH (i := 5) rfl rfl (by kernel_rfl) (by kernel_rfl) (by kernel_rfl) (fun _ _ _ h => h) (by rfl) (by intro w hSw; (try dsimp only at hSw); go_simp; first | done | with_reducible rfl) (by assumption) ?_
  simp only [List.setIfInBounds_toArray, List.set_cons_zero, List.set_cons_succ]
  refine takeH (i := 6) rfl rfl (by kernel_rfl) (by kernel_rfl) (by kernel_rfl) (fun _ _ _ h => h) (by rfl) (by intro w hSw; (try dsimp only at hSw); go_simp; first | done | with_reducible rfl) (by assumption) ?_
  simp only [List.setIfInBounds_toArray, List.set_cons_zero, List.set_cons_succ]
  refine takeH (i := 7) rfl rfl (by kernel_rfl) (by kernel_rfl) (by kernel_rfl) (fun _ _ _ h => h) (by rfl) (by intro w hSw; (try dsimp only at hSw); go_simp; first | done | with_reducible rfl) (by assumption) ?_
  simp only [List.setIfInBounds_toArray, List.set_cons_zero, List.set_cons_succ]
  refine takeH (i := 8) rfl rfl (by kernel_rfl) (by kernel_rfl) (by kernel_rfl) (fun _ _ _ h => h) (by rfl) (by intro w hSw; (try dsimp only at hSw); go_simp; first | done | with_reducible rfl) (by assumption) ?_
  simp only [List.setIfInBounds_toArray, List.set_cons_zero, List.set_cons_succ]
  refine takeH (i := 9) rfl rfl (by kernel_rfl) (by kernel_rfl) (by kernel_rfl) (fun _ _ _ h => h) (by rfl) (by intro w hSw; (try dsimp only at hSw); go_simp; first | done | with_reducible rfl) (by assumption) ?_
  simp only [List.setIfInBounds_toArray, List.set_cons_zero, List.set_cons_succ]
  refine takeH (i := 10) rfl rfl (by kernel_rfl) (by kernel_rfl) (by kernel_rfl) (fun _ _ _ h => h) (by rfl) (by intro w hSw; (try dsimp only at hSw); go_simp; first | done | with_reducible rfl) (by assumption) ?_
  simp only [List.setIfInBounds_toArray, List.set_cons_zero, List.set_cons_succ]
  refine wpAnyH_ready (rs := [11]) (by kernel_rfl) (by simp) ?_
  refine AllReadyH.cons rfl (fun K hK => ?_) AllReadyH.nil
  go_simp
  refine (HS.out _).mono ?_
  rintro e w2 ⟨rfl, hgc⟩
  have HG2 := Lib.hid (grown_trans (Cell.g_drew (grown_refl W0)) hgc)
  clear hgc
  refine hK.out _ _ (HSS.out _ HG2.out) (fun hHeld => ?_)
  clear hK K
  try simp only [Act.put, List.setIfInBounds_toArray, List.set_cons_zero, List.set_cons_succ]
  refine takeH (i := 12) rfl rfl (by kernel_rfl) (by kernel_rfl) (by kernel_rfl) (fun _ _ _ h => h) (by rfl) (by intro w hSw; (try dsimp only at hSw); go_simp; first | done | with_reducible rfl) (by assumption) ?_
  simp only [List.setIfInBounds_toArray, List.set_cons_zero, List.set_cons_succ]
  refine wpAnyH_done (by kernel_rfl) ?_ _
  go_split_ands
  clear HB HG0 HS HSS HG2
  rename_i hgw
  cases s with
  | false =>
    go_wp2_with fail
    go_ret
    exact ⟨rfl, hgw⟩
  | true =>
    by_cases hk : k = 0
    · subst hk
      by_cases hl : n ≤ 0 + 2
      · have HZ := Lib.hid (right_last (xs := xs) (k := 0) (by omega))
        go_wp2_with fail
        go_ret
        exact ⟨by rw [left_first, HZ.out]; rfl, hgw⟩
      · obtain ⟨rz, lz, jz, hz⟩ := get_of_lt hlen (k := 0 + 2) (by omega)
        obtain ⟨g_, hg_, -, z0, z1, z2⟩ := (HR.out.on hgw).at_ (0 + 2) _ hz
        cases hg_
        dsimp only at z0 z1 z2
        have HZ := Lib.hid (right_of hz HX.out)
        have HD := Lib.hid (show decide ((n : Int) ≤ 2) = false from decide_eq_false (by omega))
        go_wp2_with fail
        go_ret
        refine ⟨?_, hgw⟩
        rw [left_first, HZ.out]
        show Ending.returned (.bool (decide ((n : Int) ≤ 2) || decide (lz ≤ l))) = Ending.returned (.bool (true && (true && decide (lz ≤ l))))
        rw [HD.out]
        rfl
    · obtain ⟨rq, lq, jq, hq⟩ := get_of_lt hlen (k := k - 1) (by omega)
      obtain ⟨g_, hg_, -, q0, q1, q2⟩ := (HR.out.on hgw).at_ (k - 1) _ hq
      cases hg_
      dsimp only at q0 q1 q2
      have HL := Lib.hid (left_of (by omega) hq HX.out)
      have hkm : IntKind.i64.wrap ((k : Int) - 1) = (k : Int) - 1 := IntWalk.i64_in _ (by omega)
      have hkn : ((k : Int) - 1).toNat = k - 1 := by omega
      have k6 : (0 : Int) ≤ (k : Int) - 1 := by omega
      have k7 : (k : Int) - 1 < n := by omega
      by_cases hle : lq ≤ l
      · have HLE := Lib.hid (decide_eq_true hle)
        by_cases hl : n ≤ k + 2
        · have HZ := Lib.hid (right_last (xs := xs) (k := k) (by omega))
          go_wp2_with fail
          go_ret
          exact ⟨by rw [HL.out, HZ.out]; dsimp only; rw [HLE.out]; rfl, hgw⟩
        · obtain ⟨rz, lz, jz, hz⟩ := get_of_lt hlen (k := k + 2) (by omega)
          obtain ⟨g_, hg_, -, z0, z1, z2⟩ := (HR.out.on hgw).at_ (k + 2) _ hz
          cases hg_
          dsimp only at z0 z1 z2
          have HZ := Lib.hid (right_of hz HX.out)
          have HD := Lib.hid (show decide ((n : Int) ≤ (k : Int) + 2) = false from decide_eq_false (by omega))
          go_wp2_with fail
          go_ret
          refine ⟨?_, hgw⟩
          rw [HL.out, HZ.out]
          show Ending.returned (.bool (decide ((n : Int) ≤ (k : Int) + 2) || decide (lz ≤ l))) = Ending.returned (.bool (true && (decide (lq ≤ l) && decide (lz ≤ l))))
          rw [HD.out, HLE.out]
          rfl
      · have HLE := Lib.hid (decide_eq_false hle)
        go_wp2_with fail
        go_ret
        exact ⟨by rw [HL.out]; dsimp only; rw [HLE.out]; rfl, hgw⟩


set_option maxHeartbeats 2000000 in
theorem specMayCo_is (R i : Int) (a : Option Addr) (n cap : Nat) (xs : List C3) (w : World) (hr : Reads w a n xs) (hn : n ≤ 1048576) :
    Calls Try.prog 23 #[.agg #[.int .i64 R, .slice a n cap], .int .i64 i] w fun e w' => e = .returned (.bool (mayCo R xs i)) ∧ w.grownBy w' none := by
  have hni : (n : Int) ≤ 1048576 := by omega
  have HN := Lib.hid hn; clear hn
  have HR := Lib.hid hr
  have hlen := hr.len
  clear hr
  have HB := Lib.hid (MBox.new w R (.slice a n cap))
  have hok : ∀ u, Reads u a n xs → Calls Try.prog 59 #[.agg #[.int .i64 R, .slice a n cap]] u fun e w' => e = .returned (.bool (meshOk R xs)) ∧ u.grownBy w' none := fun u h => specMeshOk_is R a n cap xs u h HN.out
  have HOK := Lib.hid hok; clear hok
  have hwn : IntKind.i64.wrap ((n : Int) - 2) = (n : Int) - 2 := IntWalk.i64_in _ (by omega)
  cases hm : meshOk R xs with
  | false =>
    rw [mayCo_bad hm]
    rw [hm] at HOK
    go_enter Try.func23, Try.ntmps23
    go_wp2_with (go_at_call 59; (with_reducible refine (HOK.out _ (HR.out.past _)).mono ?_); rintro e w1 ⟨rfl, hg⟩; have HG := Lib.hid hg; clear hg)
    go_ret
    exact ⟨rfl, grown_trans (g_alloc (grown_refl _) _) HG.out⟩
  | true =>
    have HM := Lib.hid hm
    rw [hm] at HOK
    clear hm
    by_cases h0 : ¬ (0 ≤ i ∧ i ≤ (n : Int) - 2)
    · have hf : mayCo R xs i = false := by
        by_cases h1 : i < 0
        · exact mayCo_low h1
        · exact mayCo_high (by omega)
      rw [hf]
      have HI := Lib.hid (in_to i 0 ((n : Int) - 2) false (decide_eq_false h0))
      go_enter Try.func23, Try.ntmps23
      go_wp2_with (first
        | (go_at_call 59; (with_reducible refine (HOK.out _ (HR.out.past _)).mono ?_); rintro e w1 ⟨rfl, hg⟩; have b1 := (HB.out.kept hg (by simp)).c1; have HG := Lib.hid hg; clear hg)
        | (go_at_call 55; (with_reducible refine (HI.out _).mono ?_); rintro e w2 ⟨rfl, rfl⟩))
      go_ret
      exact ⟨rfl, grown_trans (g_alloc (grown_refl _) _) HG.out⟩
    rw [Decidable.not_not] at h0
    have HI := Lib.hid (in_to i 0 ((n : Int) - 2) true (decide_eq_true h0))
    obtain ⟨k, rfl⟩ : ∃ k : Nat, i = k := ⟨i.toNat, by omega⟩
    obtain ⟨r, l, j, hx⟩ := get_of_lt hlen (k := k) (by omega)
    obtain ⟨r', l', j', hy⟩ := get_of_lt hlen (k := k + 1) (by omega)
    rw [mayCo_in HM.out (by omega), pairOk, sibAt_of hx hy]
    have HP := Lib.hid (fun u h => pair_is R k a n cap xs _ _ u h HN.out hx hy _ rfl)
    clear hx hy h0
    go_enter Try.func23, Try.ntmps23
    go_wp2_with (first
      | (go_at_call 59; (with_reducible refine (HOK.out _ (HR.out.past _)).mono ?_); rintro e w1 ⟨rfl, hg⟩; have hb := HB.out.kept hg (by simp); have b0 := hb.c0; have b1 := hb.c1; have HG := Lib.hid hg; clear hg hb)
      | (go_at_call 55; (with_reducible refine (HI.out _).mono ?_); rintro e w2 ⟨rfl, rfl⟩)
      | (go_at_call 60; (with_reducible refine (HP.out _ ((HR.out.past _).on HG.out)).mono ?_); rintro e w3 ⟨rfl, hg⟩; have HG3 := Lib.hid hg; clear hg))
    go_ret
    exact ⟨rfl, grown_trans (grown_trans (g_alloc (grown_refl _) _) HG.out) HG3.out⟩
end Go.Proofs.Ytfoilfgiablleaa.Mesh

namespace Go.Proofs.Ytfoilfgiablleaa.Mesh
open Go.ChangeShapes Go.WideShapes Go.ChangeAt Go.RowKit Go.Proofs.Ytfoilfgiablleaa.Cell

/-- append to a slice with no room, of whoever it is. -/
theorem step_append_full {w : World} {ops : Array Oper} {o : Oper} {a : Act} {K : Act → World → Prop} {Q : Exit → Act → World → Prop} {E : Prop} (hgd : o.guard = none) (s x : Operand)
    (ho : o.op = .call { callee := .builtin .append, args := #[s, x], argTypes := #[24, 24] })
    (b : Addr) (k : Nat) (olds : List Value) (hs : a.eval s = .slice (some b) k k) (hlo : olds.length = k * 3) (holds : ∀ j u, olds[j]? = some u → w.cell? (b.add j) = some u)
    (ad : Addr) (m c : Nat) (news : List Value) (hx : a.eval x = .slice (some ad) m c) (hl : news.length = m * 3) (hnews : ∀ j u, news[j]? = some u → w.cell? (ad.add j) = some u) (hm : 0 < m)
    (hbig : k + m ≤ 1048577)
    (h : ∀ v' w', w'.ownsRow w.heap.size 36 3 v' (k + m) (olds ++ news) → w.grownBy w' none → K (a.put o.dst v') w') :
    if Region.wanted o (yielded ops a.tmps) = true then Oper.wp Try.prog o a w K Q else E := by
  have hw : Region.wanted o (yielded ops a.tmps) = true := by simp [Region.wanted, hgd]
  rw [if_pos hw]
  obtain ⟨i0, hi0, hz0, hz1, hz2⟩ := info_parts infoIdR
  obtain ⟨v', w', hrun, r1, r2⟩ := run_append_arg_grows (P := Try.prog) w 24 o.type 36 i0 (.agg #[.int .i64 0, .int .i64 0, .int .i64 0]) 3 24 Try.underlying24 hi0 hz0 hz1 hz2 rfl (by decide) b k k olds hlo holds ad m c news hl hnews (by omega) (by unfold maxLen; omega) (by omega)
  unfold Oper.wp
  simp [execOp, ho, resolve, invoke, builtin, hs, hx, hrun, Result.andThen]
  exact h v' w' r1 r2
theorem up_to (x p : C3) (h : okOf x = true) (hl : 1 ≤ x.2.1) (hp : parOf x = p) (w : World) :
    Calls Try.prog 128 #[.agg #[.int .i64 x.1, .int .i64 x.2.1, .int .i64 x.2.2]] w fun e w' => e = .returned (.agg #[.int .i64 p.1, .int .i64 p.2.1, .int .i64 p.2.2]) ∧ w.grownBy w' none := by
  subst hp
  obtain ⟨r, l, i⟩ := x
  obtain ⟨h0, h1, h2, h3, h4, h5, -, -⟩ := bounds (show okId r l i = true from h)
  exact (up_is r l i hl (by omega) (by omega) (by omega) w).mono fun _ _ ⟨he, hw⟩ => ⟨he, hw ▸ g_alloc (g_alloc (grown_refl _) _) _⟩
theorem one_new (w : World) (p : C3) : (w.alloc (.cells #[.int .i64 p.1, .int .i64 p.2.1, .int .i64 p.2.2] 36)).heap[w.heap.size]? = some (.cells (flatC [p]).toArray 36 (0, 0)) := heap_alloc_new w _

set_option maxHeartbeats 4000000 in
theorem join_is (g n cap k : Nat) (xs : List C3) (x : C3) (w : World) (hr : Reads w (some ⟨g, 0, none⟩) n xs) (hn : n ≤ 1000) (hcap : n ≤ cap) (hx : xs[k]? = some x) (ho : okOf x = true) (hl : 1 ≤ x.2.1) (hk2 : k + 2 ≤ n) :
    Calls Try.prog 101 #[.slice (some ⟨g, 0, none⟩) n cap, .int .i64 k] w fun e w' => ∃ v, e = .returned v ∧ w'.ownsRow w.heap.size 36 3 v (k + 1 + (n - (k + 2))) (flatC (merge2 xs k)) ∧ w.grownBy w' none := by
  obtain ⟨i0, hi0, hz0, hz1, hz2⟩ := info_parts infoIdR
  have HS := Lib.hid (merge2_of hx)
  obtain ⟨p, hp⟩ : ∃ p, parOf x = p := ⟨_, rfl⟩
  rw [hp] at HS
  have HP := Lib.hid (up_to x p ho hl hp)
  obtain ⟨r, l, i⟩ := x
  have hki : (k : Int) < n := by omega
  have hni : (n : Int) ≤ 1000 := by omega
  have hnc : (n : Int) ≤ cap := by omega
  have hkc : (k : Int) ≤ cap := by omega
  have HR := Lib.hid hr
  have HLN := Lib.hid hr.len
  obtain ⟨g_, hg_, -, d0, d1, d2⟩ := hr.at_ k _ hx
  cases hg_
  dsimp only at d0 d1 d2
  clear hx ho hl hp hr
  have HLA := Lib.hid (show (flatC (xs.take k)).length = k * 3 by rw [flatC_len, List.length_take, HLN.out]; omega)
  go_enter Try.func101, Try.ntmps101
  go_upto_region 1 with fail
  go_cut [5] from 6 to 17 (fun v wx => ∃ a3 cap3, v = .slice a3 (k + 1) cap3 ∧ Hid (wx.ownsRow w.heap.size 36 3 (.slice a3 (k + 1) cap3) (k + 1) (flatC (xs.take k) ++ flatC [p])) ∧ Hid (w.grownBy wx none))
  case first =>
    go_region_law (first
      | (go_simp; go_at_call 128; ((with_reducible refine (HP.out _).mono ?_); rintro e w1 ⟨rfl, hg⟩; dsimp only; have HG1 := Lib.hid (grown_trans (show w.grownBy _ none by first | exact gr_drew (grown_refl w) | exact grown_refl w) hg); clear hg))
      | (refine step_append_full rfl _ _ rfl ⟨g, 0, none⟩ k (flatC (xs.take k)) (by simp [Act.eval]) HLA.out (reads_take (HR.out.on (g_alloc HG1.out _)) k) ⟨w1.heap.size, 0, none⟩ 1 1 (flatC [p]) (by simp [Act.eval]) rfl (World.news_of_block (cs := (flatC [p]).toArray) (t := 36) (fr := (0, 0)) (one_new w1 p)) (by omega) (by omega) ?_; intro v' w2 hown' hgrow; obtain ⟨a3, cap3, rfl⟩ := own_shape hown'; have HO := Lib.hid hown'; have HG2 := Lib.hid (grown_trans (g_alloc HG1.out _) hgrow); clear hown' hgrow))
    all_goals
      go_wp2_with fail
      go_meet
      exact ⟨_, _, rfl, Lib.hid (own_down HO.out (by have := HG1.out.size; simp; omega)), HG2⟩
  case rest =>
    obtain ⟨a3, cap3, rfl, HO, HG⟩ := hcut
    have f1 : IntKind.i64.wrap ((k : Int) + 2) = (k : Int) + 2 := IntWalk.i64_in _ (by omega)
    have f2 : (0 : Int) ≤ (k : Int) + 2 := by omega
    have f3 : (k : Int) + 2 ≤ (n : Int) := by omega
    have f4 : ((k : Int) + 2).toNat = k + 2 := by omega
    have HLD := Lib.hid (show (flatC (xs.drop (k + 2))).length = (n - (k + 2)) * 3 by rw [flatC_len, List.length_drop, HLN.out])
    by_cases hc : cap = k + 2
    · have h0 : flatC (xs.drop (k + 2)) = [] := by rw [List.drop_of_length_le (by rw [HLN.out]; omega)]; rfl
      have H0 := Lib.hid h0; clear h0
      go_wp2_with (at_builtin; refine wpList_append_own _ rfl _ _ 24 rfl w.heap.size 36 i0 (.agg #[.int .i64 0, .int .i64 0, .int .i64 0]) 3 24 Try.underlying24 hi0 hz0 hz1 hz2 rfl (by decide) _ _ _ rfl HO.out ⟨g, 0, none⟩ (n - (k + 2)) 0 (flatC (xs.drop (k + 2))) rfl HLD.out (fun j u hj => by rw [H0.out] at hj; simp at hj) (flatC_one _) (by unfold maxLen; omega) (by omega) (by exact HG.out.size) ?_; intro v' w5 hown' hgrow hnil; clear hnil; have HOW := Lib.hid hown'; have HGR := Lib.hid (show World.grownBy _ w5 (Value.ownBlock (.slice a3 (k + 1) cap3)) from hgrow); clear hown' hgrow)
      go_ret
      have ho := HOW.out
      rw [show flatC (xs.take k) ++ flatC [p] ++ flatC (xs.drop (k + 2)) = flatC (merge2 xs k) by rw [HS.out, ← flatC_append, ← flatC_append]] at ho
      exact ⟨_, rfl, ho, grown_row HG.out HGR.out HO.out⟩
    · have HND := Lib.hid (reads_drop (HR.out.on HG.out) (k + 2))
      go_wp2_with (at_builtin; refine wpList_append_own _ rfl _ _ 24 rfl w.heap.size 36 i0 (.agg #[.int .i64 0, .int .i64 0, .int .i64 0]) 3 24 Try.underlying24 hi0 hz0 hz1 hz2 rfl (by decide) _ _ _ rfl HO.out ⟨g, (k + 2) * 3, none⟩ (n - (k + 2)) (cap - (k + 2)) (flatC (xs.drop (k + 2))) rfl HLD.out HND.out (flatC_one _) (by unfold maxLen; omega) (by omega) (by exact HG.out.size) ?_; intro v' w5 hown' hgrow hnil; clear hnil; have HOW := Lib.hid hown'; have HGR := Lib.hid (show World.grownBy _ w5 (Value.ownBlock (.slice a3 (k + 1) cap3)) from hgrow); clear hown' hgrow)
      go_ret
      have ho := HOW.out
      rw [show flatC (xs.take k) ++ flatC [p] ++ flatC (xs.drop (k + 2)) = flatC (merge2 xs k) by rw [HS.out, ← flatC_append, ← flatC_append]] at ho
      exact ⟨_, rfl, ho, grown_row HG.out HGR.out HO.out⟩
end Go.Proofs.Ytfoilfgiablleaa.Mesh

namespace Go.Proofs.Ytfoilfgiablleaa.Mesh
open Go.ChangeShapes Go.WideShapes Go.ChangeAt Go.RowKit Go.Proofs.Ytfoilfgiablleaa.Cell

/-- A mesh in memory of the call's own, and a bool. -/
def GivesB (R : Int) (b : Bool) (zs : List C3) (w : World) (e : Ending) (w' : World) : Prop :=
  ∃ v, e = .returned (.tuple #[.agg #[.int .i64 R, v], .bool b]) ∧ w'.ownsRow w.heap.size 36 3 v zs.length (flatC zs) ∧ w.grownBy w' none

end Go.Proofs.Ytfoilfgiablleaa.Mesh

namespace Go.Proofs.Ytfoilfgiablleaa.Mesh
open Go.ChangeShapes Go.WideShapes Go.ChangeAt Go.RowKit Go.Proofs.Ytfoilfgiablleaa.Cell

end Go.Proofs.Ytfoilfgiablleaa.Mesh

namespace Go.Proofs.Ytfoilfgiablleaa.Mesh
open Go.ChangeShapes Go.WideShapes Go.ChangeAt Go.RowKit Go.Proofs.Ytfoilfgiablleaa.Cell

/-- Are the two meshes one. -/
def sameB (R : Int) (xs : List C3) (R' : Int) (ys : List C3) : Bool := decide (R = R' ∧ xs = ys)
theorem same_roots {R R' : Int} {xs ys : List C3} (h : R ≠ R') : sameB R xs R' ys = false := decide_eq_false (fun h' => h h'.1)
theorem same_len {R R' : Int} {xs ys : List C3} (h : xs.length ≠ ys.length) : sameB R xs R' ys = false := decide_eq_false (fun h' => h (by rw [h'.2]))
theorem list_len {xs ys : List C3} (h : xs.length ≠ ys.length) : decide (xs = ys) = false := decide_eq_false (fun h' => h (by rw [h']))
theorem list_at {xs ys : List C3} {k : Nat} {x y : C3} (hx : xs[k]? = some x) (hy : ys[k]? = some y) (h : x ≠ y) : decide (xs = ys) = false :=
  decide_eq_false (fun h' => h (by rw [h', hy] at hx; cases hx; rfl))
theorem same_at {R R' : Int} {xs ys : List C3} {k : Nat} {x y : C3} (hx : xs[k]? = some x) (hy : ys[k]? = some y) (h : x ≠ y) : sameB R xs R' ys = false :=
  decide_eq_false (fun h' => of_decide_eq_false (list_at hx hy h) h'.2)
theorem list_all {xs ys : List C3} {k : Nat} (h : ∀ j, j < k → xs[j]? = ys[j]?) (hx : xs.length ≤ k) (hy : ys.length ≤ k) : xs = ys :=
  List.ext_getElem? fun j => by
    by_cases hj : j < k
    · exact h j hj
    · rw [List.getElem?_eq_none (by omega), List.getElem?_eq_none (by omega)]
theorem same_more {xs ys : List C3} {k : Nat} {x y : C3} (h : ∀ j, j < k → xs[j]? = ys[j]?) (hx : xs[k]? = some x) (hy : ys[k]? = some y) (he : x = y) : ∀ j, j < k + 1 → xs[j]? = ys[j]? := fun j hj => by
  by_cases h' : j < k
  · exact h j h'
  · obtain rfl : j = k := by omega
    rw [hx, hy, he]

set_option maxHeartbeats 4000000 in
theorem specSame_is (R R' : Int) (a b : Option Addr) (n m c1 c2 : Nat) (xs ys : List C3) (w : World) (hx : Reads w a n xs) (hy : Reads w b m ys) (hn : n ≤ 1048576) (hm : m ≤ 1048576) :
    Calls Try.prog 62 #[.agg #[.int .i64 R, .slice a n c1], .agg #[.int .i64 R', .slice b m c2]] w fun e w' => e = .returned (.bool (sameB R xs R' ys)) ∧ w.grownBy w' none := by
  have hni : (n : Int) ≤ 1048576 := by omega
  have hmi : (m : Int) ≤ 1048576 := by omega
  have hlx := hx.len; have hly := hy.len
  clear hn hm
  by_cases hR : ¬ R = R'
  · rw [same_roots hR]
    go_enter Try.func62, Try.ntmps62
    go_wp2_with fail
    go_ret
    exact ⟨rfl, g_alloc (g_alloc (grown_refl _) _) _⟩
  rw [Decidable.not_not] at hR
  subst hR
  by_cases hlen : ¬ n = m
  · rw [same_len (show xs.length ≠ ys.length by omega)]
    have hli : ¬ (n : Int) = m := by omega
    go_enter Try.func62, Try.ntmps62
    go_wp2_with fail
    go_ret
    exact ⟨rfl, g_alloc (g_alloc (grown_refl _) _) _⟩
  rw [Decidable.not_not] at hlen
  subst hlen
  have hb1 := (boxM_new w 26 R (.slice a n c1)).on (World.grownBy_alloc _ (.cells #[.int .i64 R, .slice b n c2] 26) none)
  have hb2 := boxM_new (w.alloc (.cells #[.int .i64 R, .slice a n c1] 26)) 26 R (.slice b n c2)
  simp only [World.size_alloc] at hb2
  have hg : w.grownBy ((w.alloc (.cells #[.int .i64 R, .slice a n c1] 26)).alloc (.cells #[.int .i64 R, .slice b n c2] 26)) none := g_alloc (g_alloc (grown_refl _) _) _
  have HX := Lib.hid (hx.on hg); have HY := Lib.hid (hy.on hg); have HB1 := Lib.hid hb1; have HB2 := Lib.hid hb2; have HG := Lib.hid hg
  clear hx hy hb1 hb2 hg
  obtain ⟨W0, hW0⟩ : ∃ W0, W0 = (w.alloc (.cells #[.int .i64 R, .slice a n c1] 26)).alloc (.cells #[.int .i64 R, .slice b n c2] 26) := ⟨_, rfl⟩
  rw [← hW0] at HX HY HB1 HB2 HG
  go_enter Try.func62, Try.ntmps62
  go_wp2_with fail
  rw [← hW0]
  clear hW0
  go_loopw [5] (fun i wr => ∃ k : Nat, (k : Int) ≤ n ∧ i = .int .i64 k ∧ Hid (∀ j, j < k → xs[j]? = ys[j]?) ∧ Hid (W0.grownBy wr none)) (fun i _ => n - (intOf i).toNat)
  case atStart => exact ⟨0, by omega, rfl, Lib.hid (fun j hj => by omega), Lib.hid (grown_refl _)⟩
  case round =>
    obtain ⟨k, hk, rfl, HF, HW⟩ := hrel
    have e1 := (HB1.out.on HW.out).c1
    have e2 := (HB2.out.on HW.out).c1
    by_cases hlt : (k : Int) < n
    · obtain ⟨r, l, i, hx⟩ := get_of_lt HX.out.len (k := k) (by omega)
      obtain ⟨r', l', i', hy⟩ := get_of_lt HY.out.len (k := k) (by omega)
      obtain ⟨g1, rfl, -, d0, d1, d2⟩ := (HX.out.on HW.out).at_ k _ hx
      obtain ⟨g2, rfl, -, f0, f1, f2⟩ := (HY.out.on HW.out).at_ k _ hy
      have HA := Lib.hid hx; have HB := Lib.hid hy
      clear hx hy
      dsimp only at d0 d1 d2 f0 f1 f2
      rcases cases3 r l i r' l' i' with ⟨he, q0, q1, q2⟩ | ⟨hne, hq⟩
      · have HI := Lib.hid he; clear he
        go_wp2_with fail
        go_quiet (fail)
        go_wp2_with fail
        exact ⟨⟨k + 1, by omega, by go_num, Lib.hid (same_more HF.out HA.out HB.out HI.out), Lib.hid (g_drewN HW.out _)⟩, by simp [intOf]; omega⟩
      · have HI := Lib.hid (same_at (R := R) (R' := R) HA.out HB.out hne); clear hne
        rcases hq with q0 | ⟨q0, q1⟩ | ⟨q0, q1, q2⟩
        all_goals
          go_wp2_with fail
          go_quiet (fail)
          go_wp2_with fail
          go_ret
          exact ⟨by rw [HI.out]; rfl, grown_trans HG.out (g_drewN HW.out _)⟩
    · have HE := Lib.hid (show sameB R xs R ys = true from decide_eq_true ⟨rfl, list_all HF.out (by omega) (by omega)⟩)
      go_wp2_with fail
      go_ret
      exact ⟨by rw [HE.out]; rfl, grown_trans HG.out HW.out⟩
end Go.Proofs.Ytfoilfgiablleaa.Mesh
