/- Meshes, the first part: cells as a list, their ends, a row of cells in memory. Plain lemmas.
   Conditions: none. -/
import Derived.Test.YtcdkhapepabpkaaMCell
import Derived.Deep.AppendLies
set_option maxRecDepth 100000
namespace Go.Proofs.Ytcdkhapepabpkaa.Mesh
open Go.ChangeShapes Go.WideShapes Go.ChangeAt Go.RowKit Go.Proofs.Ytcdkhapepabpkaa.Cell

/-- A cell: root, level, index. -/
abbrev C3 := Int × Int × Int
def stOf (x : C3) : Int := startOf x.1 x.2.1 x.2.2
def wdOf (x : C3) : Int := widthOf x.2.1
def okOf (x : C3) : Bool := okId x.1 x.2.1 x.2.2

/-- One leaf more: where the next one must start. -/
def step (o : Option Int) (x : C3) : Option Int := o.bind fun e => if stOf x = e then some (e + wdOf x) else none
/-- Where the leaves end, if each starts where the one before it ends. -/
def run (xs : List C3) : Option Int := xs.foldl step (some 0)
def meshOk (R : Int) (xs : List C3) : Bool := decide (1 ≤ R ∧ R ≤ 8 ∧ run xs = some (R * 16))

theorem run_snoc (xs : List C3) (x : C3) : run (xs ++ [x]) = step (run xs) x := by simp [run]
theorem fold_none (xs : List C3) : xs.foldl step none = none := by
  induction xs with
  | nil => rfl
  | cons x xs ih => exact ih
theorem run_none {xs ys : List C3} (h : run xs = none) : run (xs ++ ys) = none := by
  unfold run at *
  rw [List.foldl_append, h]
  exact fold_none ys
theorem step_yes {x : C3} {e : Int} (h : stOf x = e) : step (some e) x = some (e + wdOf x) := if_pos h
theorem step_no {x : C3} {e : Int} (h : stOf x ≠ e) : step (some e) x = none := if_neg h

theorem wd_bounds (l : Int) : 0 ≤ widthOf l ∧ widthOf l ≤ 16 := by
  unfold widthOf
  split
  · rename_i h
    rcases lvl h.1 h.2 with rfl | rfl | rfl | rfl | rfl <;> decide
  · omega
theorem st_ok {x : C3} (h : 0 ≤ stOf x) : okOf x = true := by
  unfold stOf startOf at h
  split at h
  · assumption
  · omega
theorem ok_bounds' {r l i : Int} (h : okId r l i = true) : 0 ≤ r ∧ r ≤ 7 ∧ 0 ≤ l ∧ l ≤ 4 ∧ startOf r l i = r * 16 + i * widthOf l ∧ 1 ≤ widthOf l ∧ 0 ≤ i * widthOf l ∧ i * widthOf l + widthOf l ≤ 16 ∧ 0 ≤ i := by
  have hs : startOf r l i = r * 16 + i * widthOf l := if_pos h
  obtain ⟨h0, h1, h2, h3, h4, h5⟩ := of_ok h
  rw [hs]
  rcases lvl h2 h3 with rfl | rfl | rfl | rfl | rfl
  all_goals
    simp at h5
    simp [widthOf]
    omega
/-- What a valid cell covers. -/
theorem ok_bounds {x : C3} (h : okOf x = true) : 0 ≤ x.1 ∧ x.1 ≤ 7 ∧ 0 ≤ x.2.1 ∧ x.2.1 ≤ 4 ∧ stOf x = x.1 * 16 + x.2.2 * wdOf x ∧ 1 ≤ wdOf x ∧ 0 ≤ x.2.2 * wdOf x ∧ x.2.2 * wdOf x + wdOf x ≤ 16 ∧ 0 ≤ x.2.2 := ok_bounds' h
theorem fold_bounds (xs : List C3) : ∀ e0 e, 0 ≤ e0 → e0 ≤ 128 → xs.foldl step (some e0) = some e → e0 + xs.length ≤ e ∧ e ≤ 128 ∧ ∀ x ∈ xs, okOf x = true := by
  induction xs with
  | nil => intro e0 e h0 h1 h; cases h; simp; omega
  | cons x xs ih =>
    intro e0 e h0 h1 h
    by_cases hx : stOf x = e0
    · rw [List.foldl_cons, step_yes hx] at h
      have ho : okOf x = true := st_ok (by omega)
      obtain ⟨b1, b2, b3, b4, b5, b6, b7, b8, b9⟩ := ok_bounds ho
      obtain ⟨c1, c2, c3⟩ := ih (e0 + wdOf x) e (by omega) (by omega) h
      refine ⟨by simp; omega, c2, ?_⟩
      intro y hy
      rcases List.mem_cons.1 hy with rfl | hy
      · exact ho
      · exact c3 y hy
    · rw [List.foldl_cons, step_no hx, fold_none] at h; cases h
theorem run_bounds {xs : List C3} (e : Int) (h : run xs = some e) : (xs.length : Int) ≤ e ∧ e ≤ 128 ∧ ∀ x ∈ xs, okOf x = true := by
  obtain ⟨h1, h2, h3⟩ := fold_bounds xs 0 e (by omega) (by omega) h
  exact ⟨by omega, h2, h3⟩

/-- A row of cells in memory: the slice of n of them reads xs. -/
structure Reads (w : World) (a : Option Addr) (n : Nat) (xs : List C3) : Prop where
  len : xs.length = n
  at_ : ∀ k x, xs[k]? = some x → ∃ g, a = some ⟨g, 0, none⟩ ∧ g < w.heap.size ∧ w.cell? ⟨g, k * 3, none⟩ = some (.int .i64 x.1) ∧ w.cell? ⟨g, k * 3 + 1, none⟩ = some (.int .i64 x.2.1) ∧ w.cell? ⟨g, k * 3 + 2, none⟩ = some (.int .i64 x.2.2)
theorem Reads.on {w w' : World} {a : Option Addr} {n : Nat} {xs : List C3} (h : Reads w a n xs) (hg : w.grownBy w' none) : Reads w' a n xs :=
  ⟨h.len, fun k x hk => let ⟨g, ha, hl, h0, h1, h2⟩ := h.at_ k x hk; ⟨g, ha, Nat.lt_of_lt_of_le hl hg.size, hg.cell h0 (by simp), hg.cell h1 (by simp), hg.cell h2 (by simp)⟩⟩
theorem Reads.past {w : World} {a : Option Addr} {n : Nat} {xs : List C3} (h : Reads w a n xs) (o : Obj) : Reads (w.alloc o) a n xs := h.on (World.grownBy_alloc _ _ _)
/-- A mesh's block, read: the number of roots, and the slice. -/
structure BoxM (w : World) (B : Nat) (R : Int) (v : Value) : Prop where
  c0 : w.cell? ⟨B, 0, none⟩ = some (.int .i64 R)
  c1 : w.cell? ⟨B, 1, none⟩ = some v
  lt : B < w.heap.size
theorem boxM_new (w : World) (t : TypeId) (R : Int) (v : Value) : BoxM (w.alloc (.cells #[.int .i64 R, v] t)) w.heap.size R v :=
  ⟨by simp [World.cell?_alloc_new], by simp [World.cell?_alloc_new], by simp⟩
theorem BoxM.on {w w' : World} {B : Nat} {R : Int} {v : Value} (h : BoxM w B R v) (hg : w.grownBy w' none) : BoxM w' B R v :=
  ⟨hg.cell h.c0 (by simp), hg.cell h.c1 (by simp), Nat.lt_of_lt_of_le h.lt hg.size⟩
theorem get_of_lt {xs : List C3} {k n : Nat} (h : xs.length = n) (hk : k < n) : ∃ r l i, xs[k]? = some (r, l, i) :=
  ⟨_, _, _, List.getElem?_eq_getElem (by omega)⟩
theorem take_snoc {xs : List C3} {k : Nat} {x : C3} (h : xs[k]? = some x) : xs.take (k + 1) = xs.take k ++ [x] := by
  rw [List.take_add_one, h]; rfl
end Go.Proofs.Ytcdkhapepabpkaa.Mesh
