/- Cells: a cell and its two children: their places, widths, parents; the contracts of ChildOf, ParentOf and IsSibling, the answer by name.
   Conditions: none. -/
import Derived.Test.YthecidagejagmaaCellIn
namespace Go.Proofs.Ythecidagejagmaa.Cell
open Go.ChangeShapes Go.WideShapes Go.ChangeAt Go.RowKit

theorem ok_child {r l i : Int} (s : Int) (h : okId r l i = true) (hl : l ≠ 4) (h0 : 0 ≤ s) (h1 : s ≤ 1) : okId r (l + 1) (2 * i + s) = true := by
  obtain ⟨q0, q1, q2, q3, q4, q5⟩ := of_ok h
  apply ok_true
  rcases lvl q2 q3 with rfl | rfl | rfl | rfl | rfl
  all_goals first | exact absurd rfl hl | (simp at q5 ⊢; omega)
theorem width_child {r l i : Int} (h : okId r l i = true) (hl : l ≠ 4) : widthOf l = 2 * widthOf (l + 1) := by
  obtain ⟨q0, q1, q2, q3, q4, q5⟩ := of_ok h
  rcases lvl q2 q3 with rfl | rfl | rfl | rfl | rfl
  all_goals first | exact absurd rfl hl | simp [widthOf]
theorem start_child {r l i : Int} (s : Int) (h : okId r l i = true) (hl : l ≠ 4) (h0 : 0 ≤ s) (h1 : s ≤ 1) : startOf r (l + 1) (2 * i + s) = startOf r l i + s * widthOf (l + 1) := by
  have e1 : startOf r l i = r * 16 + i * widthOf l := if_pos h
  have e2 : startOf r (l + 1) (2 * i + s) = r * 16 + (2 * i + s) * widthOf (l + 1) := if_pos (ok_child s h hl h0 h1)
  rw [e1, e2, width_child h hl, Int.add_mul, ← Int.mul_assoc, Int.mul_comm 2 i, Int.add_assoc]

theorem child_at (r l i s l1 j : Int) (h : okId r l i = true) (hl : l ≠ 4) (hs : s = 0 ∨ s = 1) (h1 : l + 1 = l1) (h2 : 2 * i + s = j) (w : World) :
    Calls Try.prog 14 #[.agg #[.int .i64 r, .int .i64 l, .int .i64 i], .int .i64 s] w fun e w' => e = .returned (.tuple #[.agg #[.int .i64 r, .int .i64 l1, .int .i64 j], .bool true]) ∧ w.grownBy w' none := by
  subst h1 h2
  exact child_yes r l i s h hl hs w
theorem par_at (r l i l1 j : Int) (h : okId r l1 j = true) (hl : l1 ≠ 0) (h1 : l1 - 1 = l) (h2 : j / 2 = i) (w : World) :
    Calls Try.prog 17 #[.agg #[.int .i64 r, .int .i64 l1, .int .i64 j]] w fun e w' => e = .returned (.tuple #[.agg #[.int .i64 r, .int .i64 l, .int .i64 i], .bool true]) ∧ w.grownBy w' none := by
  subst h1 h2
  exact parent_yes r l1 j h hl w
theorem sib_eq (r l i r' l' i' : Int) (b : Bool) (h : sibB r l i r' l' i' = b) (w : World) :
    Calls Try.prog 18 #[.agg #[.int .i64 r, .int .i64 l, .int .i64 i], .agg #[.int .i64 r', .int .i64 l', .int .i64 i']] w fun e w' => e = .returned (.bool b) ∧ w.grownBy w' none := h ▸ sib_is r l i r' l' i' w
theorem width_g (l m : Int) (h : widthOf l = m) (w : World) :
    Calls Try.prog 16 #[.int .i64 l] w fun e w' => e = .returned (.int .i64 m) ∧ w.grownBy w' none :=
  (width_eq l m h w).mono fun _ _ ⟨he, hw⟩ => ⟨he, hw ▸ grown_refl _⟩
end Go.Proofs.Ythecidagejagmaa.Cell
