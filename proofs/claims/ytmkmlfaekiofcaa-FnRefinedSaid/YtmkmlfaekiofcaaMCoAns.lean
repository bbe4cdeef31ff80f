/- Meshes: what both RefineLeafs and both CoarsenPairs answer, as the exact laws want it; the changed mesh is not too long.
   Conditions: none. -/
import Derived.Test.YtmkmlfaekiofcaaMCoS
import Derived.Test.YtmkmlfaekiofcaaMOwn
namespace Go.Proofs.Ytmkmlfaekiofcaa.Mesh
open Go.ChangeShapes Go.WideShapes Go.ChangeAt Go.RowKit Go.Proofs.Ytmkmlfaekiofcaa.Cell

theorem refOf_short {R i : Int} {xs : List C3} (h : xs.length ≤ 1048576) : (refOf R xs i).length ≤ 1048576 := by
  cases hm : mayRef R xs i with
  | false => rw [show refOf R xs i = xs by simp [refOf, hm]]; exact h
  | true =>
    obtain ⟨hok, -⟩ := mayRef_parts hm
    have := mesh_parts hok
    have := refOf_len (R := R) (i := i) (xs := xs)
    omega
theorem coOf_short {R i : Int} {xs : List C3} (h : xs.length ≤ 1048576) : (coOf R xs i).length ≤ 1048576 := Nat.le_trans coOf_len h
/-- A mesh in memory of the call's own, and a bool. -/
def GivesT (R : Int) (b : Bool) (n : Nat) (zs : List C3) (w : World) (e : Ending) (w' : World) : Prop :=
  ∃ a c, e = .returned (.tuple #[.agg #[.int .i64 R, .slice a n c], .bool b]) ∧ w'.ownsRow w.heap.size 33 3 (.slice a n c) n (flatC zs) ∧ w.grownBy w' none
theorem gives_t {R : Int} {b : Bool} {zs : List C3} {w : World} : ∀ e w', GivesB R b zs w e w' → GivesT R b zs.length zs w e w' := by
  rintro e w' ⟨v, rfl, ho, hg⟩
  obtain ⟨a, c, rfl⟩ := own_shape ho
  exact ⟨a, c, rfl, ho, hg⟩
theorem both_refine (R i : Int) (n : Nat) (xs : List C3) (hl : xs.length = n) (hn : n ≤ 1048576) : ∃ (b : Bool) (zs : List C3) (nz : Nat), zs.length = nz ∧ nz ≤ 1048576
    ∧ (∀ (u : World) (g : Nat), Reads u (some ⟨g, 0, none⟩) n xs → Calls Try.prog 27 #[.agg #[.int .i64 R, .slice (some ⟨g, 0, none⟩) n n], .int .i64 i] u (GivesT R b nz zs u))
    ∧ (∀ (u : World) (g : Nat), Reads u (some ⟨g, 0, none⟩) n xs → Calls Try.prog 15 #[.agg #[.int .i64 R, .slice (some ⟨g, 0, none⟩) n n], .int .i64 i] u (GivesT R b nz zs u)) :=
  ⟨mayRef R xs i, refOf R xs i, _, rfl, refOf_short (by omega), fun u g h => (specRefine_is R i g n n xs u h hn (Nat.le_refl _)).mono gives_t, fun u g h => (refine_is R i g n n xs u h hn).mono gives_t⟩
theorem both_coarsen (R i : Int) (n : Nat) (xs : List C3) (hl : xs.length = n) (hn : n ≤ 1048576) : ∃ (b : Bool) (zs : List C3) (nz : Nat), zs.length = nz ∧ nz ≤ 1048576
    ∧ (∀ (u : World) (g : Nat), Reads u (some ⟨g, 0, none⟩) n xs → Calls Try.prog 31 #[.agg #[.int .i64 R, .slice (some ⟨g, 0, none⟩) n n], .int .i64 i] u (GivesT R b nz zs u))
    ∧ (∀ (u : World) (g : Nat), Reads u (some ⟨g, 0, none⟩) n xs → Calls Try.prog 18 #[.agg #[.int .i64 R, .slice (some ⟨g, 0, none⟩) n n], .int .i64 i] u (GivesT R b nz zs u)) :=
  ⟨mayCo R xs i, coOf R xs i, _, rfl, coOf_short (by omega), fun u g h => (specCoarsen_is R i g n n xs u h hn (Nat.le_refl _)).mono gives_t, fun u g h => (coarsen_is R i g n n xs u h hn (Nat.le_refl _)).mono gives_t⟩
end Go.Proofs.Ytmkmlfaekiofcaa.Mesh
