/- States: the program's facesOf, AllFluxes, SteepestFace, as contracts: what each answers; nothing that was there is written.
   Conditions: at most 2^20 leaves and numbers. -/
import Derived.Test.YtaccigmkddomaaaStFluxF
import Derived.Test.YtaccigmkddomaaaStFillS
set_option maxRecDepth 100000
namespace Go.Proofs.Ytaccigmkddomaaa.State
open Go.ChangeShapes Go.WideShapes Go.ChangeAt Go.RowKit Go.Joins Go.Proofs.Ytaccigmkddomaaa.Cell Go.Proofs.Ytaccigmkddomaaa.Mesh Go.Proofs.Ytaccigmkddomaaa.Law Go.Proofs.Ytaccigmkddomaaa.Ints Go.Deep

/-- A slice of ints in memory of the call's own. -/
def GivesI (ys : List Int) (w : World) (e : Ending) (w' : World) : Prop :=
  ∃ (q : Option Addr) (d : Nat), e = .returned (.slice q ys.length d) ∧ w'.ownsRow w.heap.size 3 1 (.slice q ys.length d) ys.length (vals ys) ∧ w.grownBy w' none
theorem flux_take {xs : List C3} {ms bs : List Int} {k : Nat} (h : k + 1 < xs.length) : vals ((fluxes xs ms bs).take k) ++ [Value.int .i64 (fluxAt xs ms bs k)] = vals ((fluxes xs ms bs).take (k + 1)) := by
  rw [List.take_add_one, fluxes_at h]; simp [vals]

theorem steep_next (xs : List C3) (ms bs : List Int) (k : Nat) : (gapF xs ms bs k > (steep xs ms bs k).2 → steep xs ms bs (k + 1) = ((k : Int), gapF xs ms bs k)) ∧ (¬ gapF xs ms bs k > (steep xs ms bs k).2 → steep xs ms bs (k + 1) = steep xs ms bs k) :=
  ⟨fun h => by rw [steep, if_pos h], fun h => by rw [steep, if_neg h]⟩

end Go.Proofs.Ytaccigmkddomaaa.State
