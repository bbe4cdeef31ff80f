/- Cells: a cell contains another one exactly if its interval does; the contracts of Contains, IdOk, StartOf and WidthOf, the answer by name.
   Conditions: none. -/
import Derived.Test.YthecidagejagmaaCellCon
namespace Go.Proofs.Ythecidagejagmaa.Cell
open Go.ChangeShapes Go.WideShapes Go.ChangeAt Go.RowKit

set_option maxHeartbeats 4000000 in
theorem con_iff {r l i r' l' i' : Int} (h1 : okId r l i = true) (h2 : okId r' l' i' = true) :
    conB r l i r' l' i' = decide (startOf r l i ≤ startOf r' l' i' ∧ startOf r' l' i' + widthOf l' ≤ startOf r l i + widthOf l) := by
  have e1 : startOf r l i = r * 16 + i * widthOf l := if_pos h1
  have e2 : startOf r' l' i' = r' * 16 + i' * widthOf l' := if_pos h2
  have e3 : conB r l i r' l' i' = decide (r = r' ∧ l ≤ l' ∧ i' / 2 ^ (l' - l).toNat = i) := by
    rw [conB, h1, h2]
    by_cases a : r = r' <;> by_cases b : l ≤ l' <;> by_cases c : i' / 2 ^ (l' - l).toNat = i <;> simp [a, b, c]
  rw [e1, e2, e3]
  apply decide_eq_decide.2
  obtain ⟨q0, q1, q2, q3, q4, q5⟩ := of_ok h1
  obtain ⟨p0, p1, p2, p3, p4, p5⟩ := of_ok h2
  clear e1 e2 e3 h1 h2
  rcases lvl q2 q3 with rfl | rfl | rfl | rfl | rfl
  all_goals
    rcases lvl p2 p3 with rfl | rfl | rfl | rfl | rfl
    all_goals
      simp [widthOf] at q5 p5 ⊢
      omega

/-- A cell contains itself. -/
theorem con_self {r l i : Int} (h : okId r l i = true) : conB r l i r l i = true := by simp [conB, h]

theorem con_eq (r l i r' l' i' : Int) (b : Bool) (h : conB r l i r' l' i' = b) (w : World) :
    Calls Try.prog 22 #[.agg #[.int .i64 r, .int .i64 l, .int .i64 i], .agg #[.int .i64 r', .int .i64 l', .int .i64 i']] w fun e w' => e = .returned (.bool b) ∧ w.grownBy w' none := h ▸ con_is r l i r' l' i' w
theorem ok_eq (r l i : Int) (b : Bool) (h : okId r l i = b) (w : World) :
    Calls Try.prog 15 #[.agg #[.int .i64 r, .int .i64 l, .int .i64 i]] w fun e w' => e = .returned (.bool b) ∧ w.grownBy w' none := h ▸ ok_g r l i w
theorem specOk_eq (r l i : Int) (b : Bool) (h : okId r l i = b) (w : World) :
    Calls Try.prog 21 #[.agg #[.int .i64 r, .int .i64 l, .int .i64 i]] w fun e w' => e = .returned (.bool b) ∧ w.grownBy w' none := h ▸ specOk_g r l i w
theorem start_eq (r l i s : Int) (h : startOf r l i = s) (w : World) :
    Calls Try.prog 19 #[.agg #[.int .i64 r, .int .i64 l, .int .i64 i]] w fun e w' => e = .returned (.int .i64 s) ∧ w.grownBy w' none := h ▸ start_is r l i w
theorem width_eq (l m : Int) (h : widthOf l = m) (w : World) :
    Calls Try.prog 16 #[.int .i64 l] w fun e w' => e = .returned (.int .i64 m) ∧ w' = w := h ▸ width_is l w
theorem width_le {l : Int} (h0 : 0 ≤ l) (h1 : l ≤ 4) : 1 ≤ widthOf l ∧ widthOf l ≤ 16 := by
  rcases lvl h0 h1 with rfl | rfl | rfl | rfl | rfl <;> simp [widthOf]
end Go.Proofs.Ythecidagejagmaa.Cell
