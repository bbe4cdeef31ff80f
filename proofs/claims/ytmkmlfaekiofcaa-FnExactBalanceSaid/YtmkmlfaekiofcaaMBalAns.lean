/- Meshes: what both Balances answer, as the exact law wants it; the balanced mesh is not too long.
   Conditions: none. -/
import Derived.Test.YtmkmlfaekiofcaaMBalanceS
import Derived.Test.YtmkmlfaekiofcaaMOwn
namespace Go.Proofs.Ytmkmlfaekiofcaa.Mesh
open Go.ChangeShapes Go.WideShapes Go.ChangeAt Go.RowKit Go.Proofs.Ytmkmlfaekiofcaa.Cell

theorem balOf_len {R : Int} {xs : List C3} (h : xs.length ≤ 1048576) : (balOf R xs).length ≤ 1048576 := by
  cases hm : meshOk R xs with
  | false => rw [show balOf R xs = xs by simp [balOf, hm]]; exact h
  | true => have := mesh_parts (balOf_ok hm).1; omega
/-- A mesh in memory of the call's own. -/
def Gives (R : Int) (n : Nat) (zs : List C3) (w : World) (e : Ending) (w' : World) : Prop :=
  ∃ a c, e = .returned (.agg #[.int .i64 R, .slice a n c]) ∧ w'.ownsRow w.heap.size 33 3 (.slice a n c) n (flatC zs) ∧ w.grownBy w' none
theorem both_give (R : Int) (n : Nat) (xs : List C3) (hl : xs.length = n) (hn : n ≤ 1048576) : ∃ (zs : List C3) (nz : Nat), zs.length = nz ∧ nz ≤ 1048576
    ∧ (∀ (u : World) (g c : Nat), Reads u (some ⟨g, 0, none⟩) n xs → Calls Try.prog 32 #[.agg #[.int .i64 R, .slice (some ⟨g, 0, none⟩) n c]] u (Gives R nz zs u))
    ∧ (∀ (u : World) (g c : Nat), Reads u (some ⟨g, 0, none⟩) n xs → Calls Try.prog 33 #[.agg #[.int .i64 R, .slice (some ⟨g, 0, none⟩) n c]] u (Gives R nz zs u)) := by
  refine ⟨balOf R xs, (balOf R xs).length, rfl, balOf_len (by omega), fun u g c h => (specBalance_is R g n c xs u h hn).mono ?_, fun u g c h => (balance_is R g n c xs u h hn).mono ?_⟩
  all_goals
    rintro e u' ⟨v, rfl, ho, hg⟩
    obtain ⟨a, c', rfl⟩ := own_shape ho
    exact ⟨a, c', rfl, ho, hg⟩
end Go.Proofs.Ytmkmlfaekiofcaa.Mesh
