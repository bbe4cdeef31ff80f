/- Meshes: every place of a valid mesh lies in exactly one leaf. Plain lemmas.
   Conditions: none. -/
import Derived.Test.YtmkmlfaekiofcaaMLeafPure
namespace Go.Proofs.Ytmkmlfaekiofcaa.Mesh
open Go.ChangeShapes Go.WideShapes Go.ChangeAt Go.RowKit Go.Proofs.Ytmkmlfaekiofcaa.Cell

/-- The first k leaves: where they lie, and that they leave no gap. -/
theorem lie {xs : List C3} (hok : ∀ (j : Nat) x, xs[j]? = some x → okOf x = true) : ∀ (k : Nat) (e : Int), k ≤ xs.length → run (xs.take k) = some e →
    (∀ (j : Nat) x, j < k → xs[j]? = some x → 0 ≤ stOf x ∧ 1 ≤ wdOf x ∧ stOf x + wdOf x ≤ e) ∧
    ∀ pos, 0 ≤ pos → pos < e → ∃ (j : Nat) (x : C3), j < k ∧ xs[j]? = some x ∧ stOf x ≤ pos ∧ pos < stOf x + wdOf x ∧ ∀ (i : Nat) y, i < j → xs[i]? = some y → stOf y + wdOf y ≤ stOf x := by
  intro k
  induction k with
  | zero =>
    intro e _ he
    obtain rfl : (0 : Int) = e := by simpa [run] using he
    exact ⟨fun j x hj => by omega, fun pos h0 h1 => by omega⟩
  | succ k ih =>
    intro e hk he
    obtain ⟨r, l, i, hx⟩ := get_of_lt rfl (xs := xs) (k := k) (n := xs.length) (by omega)
    obtain ⟨e0, h0⟩ : ∃ e0, run (xs.take k) = some e0 := by
      cases h : run (xs.take k) with
      | some e0 => exact ⟨e0, rfl⟩
      | none => rw [take_snoc hx, run_snoc, h] at he; cases he
    have hs : stOf (r, l, i) = e0 := by
      rw [run_next hx h0] at he
      unfold step at he
      simp only [Option.bind_some] at he
      split at he
      · assumption
      · cases he
    have he' : e0 + wdOf (r, l, i) = e := by
      rw [run_next hx h0, step_yes hs] at he
      simpa using he
    obtain ⟨a, b⟩ := ih e0 (by omega) h0
    obtain ⟨-, -, -, -, c5, c6, c7, -⟩ := ok_bounds (hok k _ hx)
    have hn := run_nonneg h0
    refine ⟨fun j x hj hjx => ?_, fun pos p0 p1 => ?_⟩
    · by_cases hjk : j < k
      · obtain ⟨a1, a2, a3⟩ := a j x hjk hjx
        exact ⟨a1, a2, by omega⟩
      · obtain rfl : j = k := by omega
        rw [hx] at hjx; cases hjx
        exact ⟨by omega, c6, by omega⟩
    · by_cases hp : pos < e0
      · obtain ⟨j, x, q1, q2, q3, q4, q5⟩ := b pos p0 hp
        exact ⟨j, x, by omega, q2, q3, q4, q5⟩
      · exact ⟨k, _, by omega, hx, by omega, by omega, fun i y hi hy => by have := (a i y hi hy).2.2; omega⟩
/-- Every place of a valid mesh: its leaf, found by place and by cell. -/
theorem covered {R : Int} {xs : List C3} (h : meshOk R xs = true) {pos : Int} (h0 : 0 ≤ pos) (h1 : pos < R * 16) :
    ∃ (j : Nat) (r l i : Int), j < xs.length ∧ xs[j]? = some (r, l, i) ∧ leafAt R xs pos = j ∧ startOf r l i ≤ pos ∧ pos < startOf r l i + widthOf l ∧ leafOf xs (r, l, i) = j := by
  obtain ⟨g1, g2, g3⟩ : 1 ≤ R ∧ R ≤ 8 ∧ run xs = some (R * 16) := of_decide_eq_true h
  have hok : ∀ (j : Nat) x, xs[j]? = some x → okOf x = true := fun j x hx => (run_bounds _ g3).2.2 x (List.mem_of_getElem? hx)
  obtain ⟨a, b⟩ := lie hok xs.length (R * 16) (Nat.le_refl _) (by rw [List.take_length]; exact g3)
  obtain ⟨j, ⟨r, l, i⟩, q1, q2, q3, q4, q5⟩ := b pos h0 h1
  refine ⟨j, r, l, i, q1, q2, ?_, q3, q4, ?_⟩
  · unfold leafAt
    rw [h, if_pos rfl]
    refine idx_hit q2 (decide_eq_true ⟨q3, q4⟩) fun i' y hi hy => decide_eq_false fun e => ?_
    have := q5 i' y hi hy
    omega
  · refine idx_hit q2 (by simp) fun i' y hi hy => decide_eq_false fun e => ?_
    have h5 := q5 i' y hi hy
    have h6 := (a i' y (by omega) hy).2.1
    rw [e] at h5 h6
    omega
theorem uncovered {R : Int} {xs : List C3} (h : meshOk R xs = true) {pos : Int} (hp : pos < 0 ∨ R * 16 ≤ pos) : leafAt R xs pos = -1 := by
  obtain ⟨g1, g2, g3⟩ : 1 ≤ R ∧ R ≤ 8 ∧ run xs = some (R * 16) := of_decide_eq_true h
  have hok : ∀ (j : Nat) x, xs[j]? = some x → okOf x = true := fun j x hx => (run_bounds _ g3).2.2 x (List.mem_of_getElem? hx)
  obtain ⟨a, -⟩ := lie hok xs.length (R * 16) (Nat.le_refl _) (by rw [List.take_length]; exact g3)
  unfold leafAt
  rw [h, if_pos rfl]
  refine idx_none fun j y hy => decide_eq_false fun e => ?_
  have := a j y (List.getElem?_eq_some_iff.1 hy).1 hy
  omega
end Go.Proofs.Ytmkmlfaekiofcaa.Mesh
