/- Meshes: the faces of all levels together are all faces: plain lemmas.
   Conditions: none. -/
import Derived.Test.YtmkmlfaekiofcaaMFaceI
import Derived.Deep.RegionHeld3
namespace Go.Proofs.Ytmkmlfaekiofcaa.Mesh
open Go.ChangeShapes Go.WideShapes Go.ChangeAt Go.RowKit Go.Proofs.Ytmkmlfaekiofcaa.Cell

theorem below_grown {w w' : World} (h : Below w.heap.size w w') : w.grownBy w' none := ⟨h.os, h.tape, h.output, h.size, fun i hi _ => h.block i hi⟩
theorem gr_drew1 {w a : World} (h : w.grownBy a none) : w.grownBy a.drew none := ⟨h.os, h.tape, h.output, h.size, h.block⟩
/-- The faces of the levels below l, of the first k. -/
def sumTo (xs : List C3) (k : Nat) : Nat → Int
  | 0 => 0
  | l + 1 => sumTo xs k l + countTo xs l k
theorem sumTo_succ (xs : List C3) (k l : Nat) : sumTo xs k (l + 1) = sumTo xs k l + countTo xs l k := rfl
theorem sumTo_le (xs : List C3) (k : Nat) : ∀ l : Nat, 0 ≤ sumTo xs k l ∧ sumTo xs k l ≤ l * k
  | 0 => by simp [sumTo]
  | l + 1 => by
    have h := sumTo_le xs k l
    have c := countTo_le xs l k
    rw [sumTo_succ]
    have e : ((l + 1 : Nat) : Int) * (k : Int) = (l : Int) * k + k := by
      rw [Int.natCast_add, Int.add_mul]
      simp
    rw [e]
    omega
theorem sumTo_all (xs : List C3) : ∀ k : Nat, (∀ j, j < k → 0 ≤ faceAt xs j ∧ faceAt xs j ≤ 4) → sumTo xs k 5 = k
  | 0, _ => by simp [sumTo, countTo_zero]
  | k + 1, h => by
    have ih := sumTo_all xs k (fun j hj => h j (by omega))
    obtain ⟨h0, h4⟩ := h k (by omega)
    simp only [sumTo, countTo_succ] at ih ⊢
    simp at ih
    rcases (show faceAt xs k = 0 ∨ faceAt xs k = 1 ∨ faceAt xs k = 2 ∨ faceAt xs k = 3 ∨ faceAt xs k = 4 by omega) with e | e | e | e | e
    all_goals
      simp [e]
      omega
theorem face_bounds {R : Int} {xs : List C3} (h : meshOk R xs = true) {j : Nat} (hj : j < xs.length - 1) : 0 ≤ faceAt xs j ∧ faceAt xs j ≤ 4 := by
  obtain ⟨ho, -, -⟩ := mesh_parts h
  obtain ⟨r, l, i, hx⟩ := get_of_lt (xs := xs) rfl (k := j) (by omega)
  obtain ⟨r', l', i', hy⟩ := get_of_lt (xs := xs) rfl (k := j + 1) (by omega)
  obtain ⟨-, -, a0, a1, -⟩ := ok_bounds (ho _ _ hx)
  obtain ⟨-, -, b0, b1, -⟩ := ok_bounds (ho _ _ hy)
  rw [faceAt_of hx hy]
  dsimp only at a0 a1 b0 b1 ⊢
  omega
theorem faces_all {R : Int} {xs : List C3} (h : meshOk R xs = true) : sumTo xs (xs.length - 1) 5 = (xs.length : Int) - 1 := by
  obtain ⟨-, h1, -⟩ := mesh_parts h
  rw [sumTo_all xs _ (fun j hj => face_bounds h hj)]
  omega
theorem faceOf_in {R : Int} {xs : List C3} (h : meshOk R xs = true) {j : Nat} {x y : C3} (hx : xs[j]? = some x) (hy : xs[j + 1]? = some y) : faceOf R xs j = max x.2.1 y.2.1 := by
  have := (List.getElem?_eq_some_iff.1 hy).1
  rw [show faceOf R xs j = faceAt xs j from if_pos ⟨h, by omega, by omega⟩, faceAt_of hx hy]
theorem faceOf_out {R : Int} {xs : List C3} : faceOf R xs ((xs.length : Int) - 1) = -1 := if_neg (by omega)
end Go.Proofs.Ytmkmlfaekiofcaa.Mesh
