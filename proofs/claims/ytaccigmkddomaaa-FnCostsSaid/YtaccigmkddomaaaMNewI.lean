/- Meshes: MeshNew of the program at every two ints, as a contract.
   Conditions: none. -/
import Derived.Test.YtaccigmkddomaaaMNew
set_option maxRecDepth 100000
namespace Go.Proofs.Ytaccigmkddomaaa.Mesh
open Go.ChangeShapes Go.WideShapes Go.ChangeAt Go.RowKit Go.Proofs.Ytaccigmkddomaaa.Cell

def newOk (R L : Int) : Bool := decide ((1 ≤ R ∧ R ≤ 8) ∧ 0 ≤ L ∧ L ≤ 4)
def newR (R L : Int) : Int := if newOk R L then R else 0
def newC (R L : Int) : List C3 := if newOk R L then allC R.toNat L (powL L) else []
/-- What both answer: the mesh and whether there is one. -/
def NewPost (R L : Int) (w : World) (e : Ending) (w' : World) : Prop :=
  ∃ v, e = .returned (.tuple #[.agg #[.int .i64 (newR R L), v], .bool (newOk R L)]) ∧ w'.ownsRow w.heap.size 35 3 v (newC R L).length (flatC (newC R L)) ∧ w.grownBy w' none
theorem new_bad {R L : Int} (h : newOk R L = false) : newR R L = 0 ∧ newC R L = [] := by simp [newR, newC, h]
theorem new_good {R L : Int} (h : newOk R L = true) : newR R L = R ∧ newC R L = allC R.toNat L (powL L) := by simp [newR, newC, h]
theorem newC_len {R L : Int} : (newC R L).length ≤ 128 := by
  cases h : newOk R L with
  | false => simp [(new_bad h).2]
  | true =>
    obtain ⟨⟨h1, h2⟩, h3, h4⟩ : (1 ≤ R ∧ R ≤ 8) ∧ 0 ≤ L ∧ L ≤ 4 := of_decide_eq_true h
    rw [(new_good h).2, allC_len]
    have := Nat.mul_le_mul (show R.toNat ≤ 8 by omega) (powL_is h3 h4).2.1
    omega
theorem grown_of_below' {w w' : World} (h : Below w.heap.size w w') : w.grownBy w' none := ⟨h.os, h.tape, h.output, h.size, fun i hi _ => h.block i hi⟩
theorem post_bad {R L : Int} {w w' : World} (h : newOk R L = false) (hg : w.grownBy w' none) : NewPost R L w (.returned (.tuple #[.agg #[.int .i64 0, .slice none 0 0], .bool false])) w' := by
  obtain ⟨h1, h2⟩ := new_bad h
  exact ⟨.slice none 0 0, by rw [h1, h], by rw [h2]; exact World.ownsRow_nil _ _ _ _, hg⟩

set_option maxHeartbeats 2000000 in
theorem new_is (R L : Int) (w : World) : Calls Try.prog 50 #[.int .i64 R, .int .i64 L] w (NewPost R L w) := by
  cases h : newOk R L with
  | true =>
    obtain ⟨⟨h1, h2⟩, h3, h4⟩ : (1 ≤ R ∧ R ≤ 8) ∧ 0 ≤ L ∧ L ≤ 4 := of_decide_eq_true h
    obtain ⟨k, rfl⟩ : ∃ k : Nat, R = k := ⟨R.toNat, by omega⟩
    refine (callsIn_wide (n := 6)).1 ((new_in Fence.wide 6 trivial trivial trivial rfl (by omega) k L h1 h2 h3 h4 w).mono ?_)
    rintro e w' ⟨v, rfl, ho, hb⟩
    obtain ⟨e1, e2⟩ := new_good h
    exact ⟨v, by rw [e1, h], by rw [e2]; simpa using ho, grown_of_below' hb⟩
  | false =>
    have hz : ¬ ((1 ≤ R ∧ R ≤ 8) ∧ 0 ≤ L ∧ L ≤ 4) := of_decide_eq_false h
    have H := Lib.hid h; clear h
    rcases (show R < 1 ∨ (1 ≤ R ∧ 8 < R) ∨ (1 ≤ R ∧ R ≤ 8 ∧ L < 0) ∨ (1 ≤ R ∧ R ≤ 8 ∧ 0 ≤ L ∧ 4 < L) by omega) with h1 | ⟨h1, h2⟩ | ⟨h1, h2, h3⟩ | ⟨h1, h2, h3, h4⟩
    all_goals
      clear hz
      have m0 := MBox.new w 0 (.slice none 0 0)
      have HM := Lib.hid m0; clear m0
      go_enter Try.func50, Try.ntmps50
      go_wp2
      exact bodyPost_ret_by (results_row_tmp rfl _ _ w.heap.size _ _ (0, 0) _ rfl HM.out Try.underlying26 rfl (by kernel_rfl)) rfl (post_bad H.out (g_alloc (grown_refl _) _))
end Go.Proofs.Ytaccigmkddomaaa.Mesh
