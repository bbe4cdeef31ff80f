/- Meshes: the place of a leaf in a list of cells, the deepest level: plain lemmas.
   Conditions: none. -/
import Derived.Test.YtcdkhapepabpkaaMOk
set_option maxRecDepth 100000
namespace Go.Proofs.Ytcdkhapepabpkaa.Mesh
open Go.ChangeShapes Go.WideShapes Go.ChangeAt Go.RowKit Go.Proofs.Ytcdkhapepabpkaa.Cell

/-- The place of the first element for which p holds, or -1. -/
def idx (p : C3 → Bool) (xs : List C3) : Int := if xs.findIdx p < xs.length then (xs.findIdx p : Int) else -1
theorem idx_hit {p : C3 → Bool} {xs : List C3} {k : Nat} {x : C3} (hx : xs[k]? = some x) (hp : p x = true) (hn : ∀ j y, j < k → xs[j]? = some y → p y = false) : idx p xs = k := by
  obtain ⟨hk, rfl⟩ := List.getElem?_eq_some_iff.1 hx
  have h : xs.findIdx p = k := (List.findIdx_eq hk).2 ⟨hp, fun j hj => hn j _ hj (List.getElem?_eq_getElem (by omega))⟩
  unfold idx
  rw [h, if_pos hk]
theorem idx_none {p : C3 → Bool} {xs : List C3} (hn : ∀ (j : Nat) y, xs[j]? = some y → p y = false) : idx p xs = -1 := by
  have h : xs.findIdx p = xs.length := List.findIdx_eq_length.2 (fun x hx => by
    obtain ⟨j, hj⟩ := List.getElem?_of_mem hx
    rw [hn j x hj])
  unfold idx
  rw [h, if_neg (by omega)]

def inB (pos : Int) (x : C3) : Bool := decide (stOf x ≤ pos ∧ pos < stOf x + wdOf x)
def leafAt (R : Int) (xs : List C3) (pos : Int) : Int := if meshOk R xs then idx (inB pos) xs else -1
def leafOf (xs : List C3) (x : C3) : Int := idx (fun y => decide (y = x)) xs
def deepOf (xs : List C3) : Int := xs.foldl (fun m x => max m x.2.1) 0
def deepest (R : Int) (xs : List C3) : Int := if meshOk R xs then deepOf xs else -1

theorem max_if (d l : Int) : (if d < l then l else d) = max d l := by split <;> omega
theorem cases3 (a b c a' b' c' : Int) : ((a, b, c) = (a', b', c') ∧ (a == a') = true ∧ (b == b') = true ∧ (c == c') = true) ∨ ((a, b, c) ≠ (a', b', c') ∧ ((a == a') = false ∨ ((a == a') = true ∧ (b == b') = false) ∨ ((a == a') = true ∧ (b == b') = true ∧ (c == c') = false))) := by
  by_cases ha : a = a' <;> by_cases hb : b = b' <;> by_cases hc : c = c' <;> simp [ha, hb, hc]
theorem snoc_false {p : C3 → Bool} {xs : List C3} {k : Nat} {x : C3} (hn : ∀ (j : Nat) y, j < k → xs[j]? = some y → p y = false) (hx : xs[k]? = some x) (hp : p x = false) : ∀ (j : Nat) y, j < k + 1 → xs[j]? = some y → p y = false := by
  intro j y hj hy
  by_cases h : j < k
  · exact hn j y h hy
  · obtain rfl : j = k := by omega
    rw [hx] at hy; cases hy; exact hp
theorem all_false {p : C3 → Bool} {xs : List C3} {k : Nat} (hn : ∀ (j : Nat) y, j < k → xs[j]? = some y → p y = false) (hk : xs.length ≤ k) : ∀ (j : Nat) y, xs[j]? = some y → p y = false := by
  intro j y hy
  have := (List.getElem?_eq_some_iff.1 hy).1
  exact hn j y (by omega) hy
theorem st_bounds (r l i : Int) : -1 ≤ startOf r l i ∧ startOf r l i ≤ 128 := by
  by_cases h : okId r l i = true
  · obtain ⟨b1, b2, b3, b4, b5, b6, b7, b8, b9⟩ := ok_bounds' h
    omega
  · have e : startOf r l i = -1 := if_neg h
    omega

end Go.Proofs.Ytcdkhapepabpkaa.Mesh
