/- Cells: ParentOf and ChildOf, each by one contract whose answer is a function of the arguments; eqId of two equal cells.
   Conditions: none. -/
import Derived.Test.YthecidagejagmaaCellDown
namespace Go.Proofs.Ythecidagejagmaa.Cell
open Go.ChangeShapes Go.WideShapes Go.ChangeAt Go.RowKit

/-- Is there a parent; its three fields. -/
def parB (r l i : Int) : Bool := okId r l i && decide (l ≠ 0)
def parR (r l i : Int) : Int := if parB r l i then r else 0
def parL (r l i : Int) : Int := if parB r l i then l - 1 else 0
def parI (r l i : Int) : Int := if parB r l i then i / 2 else 0
/-- Is there a child; its three fields. -/
def chB (r l i s : Int) : Bool := okId r l i && (decide (l ≠ 4) && decide (s = 0 ∨ s = 1))
def chR (r l i s : Int) : Int := if chB r l i s then r else 0
def chL (r l i s : Int) : Int := if chB r l i s then l + 1 else 0
def chI (r l i s : Int) : Int := if chB r l i s then 2 * i + s else 0

/-- A pair of a cell and a bool. -/
abbrev pairOf (r l i : Int) (b : Bool) : Value := .tuple #[.agg #[.int .i64 r, .int .i64 l, .int .i64 i], .bool b]

theorem par_no {r l i : Int} (h : parB r l i = false) : Ending.returned (.tuple #[.agg #[.int .i64 0, .int .i64 0, .int .i64 0], .bool false]) = .returned (pairOf (parR r l i) (parL r l i) (parI r l i) (parB r l i)) := by
  simp [parR, parL, parI, h]
theorem par_yes {r l i : Int} (h : parB r l i = true) : Ending.returned (.tuple #[.agg #[.int .i64 r, .int .i64 (l - 1), .int .i64 (i / 2)], .bool true]) = .returned (pairOf (parR r l i) (parL r l i) (parI r l i) (parB r l i)) := by
  simp [parR, parL, parI, h]
theorem ch_no {r l i s : Int} (h : chB r l i s = false) : Ending.returned (.tuple #[.agg #[.int .i64 0, .int .i64 0, .int .i64 0], .bool false]) = .returned (pairOf (chR r l i s) (chL r l i s) (chI r l i s) (chB r l i s)) := by
  simp [chR, chL, chI, h]
theorem ch_yes {r l i s : Int} (h : chB r l i s = true) : Ending.returned (.tuple #[.agg #[.int .i64 r, .int .i64 (l + 1), .int .i64 (2 * i + s)], .bool true]) = .returned (pairOf (chR r l i s) (chL r l i s) (chI r l i s) (chB r l i s)) := by
  simp [chR, chL, chI, h]

theorem par_is (r l i : Int) (w : World) :
    Calls Try.prog 17 #[.agg #[.int .i64 r, .int .i64 l, .int .i64 i]] w fun e w' => e = .returned (pairOf (parR r l i) (parL r l i) (parI r l i) (parB r l i)) ∧ w.grownBy w' none := by
  by_cases h : okId r l i = true
  · by_cases h0 : l = 0
    · subst h0
      exact (parent_root r i h w).mono fun _ _ ⟨he, hg⟩ => ⟨he.trans (par_no (by simp [parB])), hg⟩
    · exact (parent_yes r l i h h0 w).mono fun _ _ ⟨he, hg⟩ => ⟨he.trans (par_yes (by simp [parB, h, h0])), hg⟩
  · rw [Bool.not_eq_true] at h
    exact (parent_bad r l i h w).mono fun _ _ ⟨he, hg⟩ => ⟨he.trans (par_no (by simp [parB, h])), hg⟩
theorem specPar_is (r l i : Int) (w : World) :
    Calls Try.prog 26 #[.agg #[.int .i64 r, .int .i64 l, .int .i64 i]] w fun e w' => e = .returned (pairOf (parR r l i) (parL r l i) (parI r l i) (parB r l i)) ∧ w.grownBy w' none := by
  by_cases h : okId r l i = true
  · by_cases h0 : l = 0
    · subst h0
      exact (specParent_root r i h w).mono fun _ _ ⟨he, hg⟩ => ⟨he.trans (par_no (by simp [parB])), hg⟩
    · exact (specParent_yes r l i h h0 w).mono fun _ _ ⟨he, hg⟩ => ⟨he.trans (par_yes (by simp [parB, h, h0])), hg⟩
  · rw [Bool.not_eq_true] at h
    exact (specParent_bad r l i h w).mono fun _ _ ⟨he, hg⟩ => ⟨he.trans (par_no (by simp [parB, h])), hg⟩
theorem ch_is (r l i s : Int) (w : World) :
    Calls Try.prog 14 #[.agg #[.int .i64 r, .int .i64 l, .int .i64 i], .int .i64 s] w fun e w' => e = .returned (pairOf (chR r l i s) (chL r l i s) (chI r l i s) (chB r l i s)) ∧ w.grownBy w' none := by
  by_cases h : okId r l i = true
  · by_cases h0 : l = 4
    · subst h0
      exact (child_deep r i s h w).mono fun _ _ ⟨he, hg⟩ => ⟨he.trans (ch_no (by simp [chB])), hg⟩
    · by_cases h1 : s = 0 ∨ s = 1
      · exact (child_yes r l i s h h0 h1 w).mono fun _ _ ⟨he, hg⟩ => ⟨he.trans (ch_yes (by simp [chB, h, h0, h1])), hg⟩
      · exact (child_side r l i s h h0 (by omega) (by omega) w).mono fun _ _ ⟨he, hg⟩ => ⟨he.trans (ch_no (by rw [chB, decide_eq_false h1]; simp)), hg⟩
  · rw [Bool.not_eq_true] at h
    exact (child_bad r l i s h w).mono fun _ _ ⟨he, hg⟩ => ⟨he.trans (ch_no (by simp [chB, h])), hg⟩
theorem specCh_is (r l i s : Int) (w : World) :
    Calls Try.prog 28 #[.agg #[.int .i64 r, .int .i64 l, .int .i64 i], .int .i64 s] w fun e w' => e = .returned (pairOf (chR r l i s) (chL r l i s) (chI r l i s) (chB r l i s)) ∧ w.grownBy w' none := by
  by_cases h : okId r l i = true
  · by_cases h0 : l = 4
    · subst h0
      exact (specChild_deep r i s h w).mono fun _ _ ⟨he, hg⟩ => ⟨he.trans (ch_no (by simp [chB])), hg⟩
    · by_cases h1 : s = 0 ∨ s = 1
      · exact (specChild_yes r l i s h h0 h1 w).mono fun _ _ ⟨he, hg⟩ => ⟨he.trans (ch_yes (by simp [chB, h, h0, h1])), hg⟩
      · exact (specChild_side r l i s h h0 (by omega) (by omega) w).mono fun _ _ ⟨he, hg⟩ => ⟨he.trans (ch_no (by rw [chB, decide_eq_false h1]; simp)), hg⟩
  · rw [Bool.not_eq_true] at h
    exact (specChild_bad r l i s h w).mono fun _ _ ⟨he, hg⟩ => ⟨he.trans (ch_no (by simp [chB, h])), hg⟩

theorem eq_same (r l i : Int) (w : World) :
    Calls Try.prog 27 #[.agg #[.int .i64 r, .int .i64 l, .int .i64 i], .agg #[.int .i64 r, .int .i64 l, .int .i64 i]] w fun e w' => e = .returned (.bool true) ∧ w.grownBy w' none :=
  (eq_g r l i r l i w).mono fun _ _ ⟨he, hg⟩ => ⟨by simpa using he, hg⟩
end Go.Proofs.Ythecidagejagmaa.Cell
