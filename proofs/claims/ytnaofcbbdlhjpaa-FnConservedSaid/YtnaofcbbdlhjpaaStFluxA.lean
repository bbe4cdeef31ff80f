/- States: the program's facesOf, AllFluxes, SteepestFace, as contracts: what each answers; nothing that was there is written.
   Conditions: at most 2^20 leaves and numbers. -/
import Derived.Test.YtnaofcbbdlhjpaaStFluxF
import Derived.Test.YtnaofcbbdlhjpaaStFillS
set_option maxRecDepth 100000
namespace Go.Proofs.Ytnaofcbbdlhjpaa.State
open Go.ChangeShapes Go.WideShapes Go.ChangeAt Go.RowKit Go.Joins Go.Proofs.Ytnaofcbbdlhjpaa.Cell Go.Proofs.Ytnaofcbbdlhjpaa.Mesh Go.Proofs.Ytnaofcbbdlhjpaa.Law Go.Proofs.Ytnaofcbbdlhjpaa.Ints Go.Deep

/-- A block of faces, of which the first k stand. -/
def facesG (g p : Nat) (R : Int) (v1 v2 v3 v4 : Value) (k : Nat) : Grp :=
  ⟨fun W => ∃ cur, W.heap[g]? = some (.cells cur 109 (0, 0)) ∧ cur.size = p ∧ ∀ j, j < k → cur[j]? = some (faceV R v1 v2 v3 v4 j), [g], fun W W' h hp => let ⟨cur, hb, hs, hc⟩ := hp; ⟨cur, (h g (by simp)).trans hb, hs, hc⟩⟩
theorem facesG.cell {g p : Nat} {R : Int} {v1 v2 v3 v4 : Value} {n j : Nat} {W : World} (h : (facesG g p R v1 v2 v3 v4 n).P W) (hj : j < n) : W.cell? ⟨g, j, none⟩ = some (faceV R v1 v2 v3 v4 j) :=
  let ⟨cur, hb, _, hc⟩ := h
  (cell_of_row W g j cur _ (0, 0) hb).trans (hc j hj)
theorem facesG.old {g p : Nat} {R : Int} {v1 v2 v3 v4 : Value} {n k : Nat} {W : World} (h : (facesG g p R v1 v2 v3 v4 n).P W) (hk : k < p) : (∃ z, W.cell? ⟨g, k, none⟩ = some z) ∧ W.frozen? ⟨g, k, none⟩ = false := by
  obtain ⟨cur, hb, hs, hc⟩ := h
  obtain ⟨z, hz⟩ := lt_of_get (cur := cur) (j := k) (by omega)
  exact ⟨⟨z, (cell_of_row W g _ cur _ (0, 0) hb).trans hz⟩, by simp [World.frozen?, hb]⟩
/-- One face more stands. -/
theorem Held.face {w W : World} {gs : List Grp} {g p : Nat} {R : Int} {v1 v2 v3 v4 : Value} {n : Nat} (h : Held w W gs) (i : Nat) (hi : gs[i]? = some (facesG g p R v1 v2 v3 v4 n)) (hn : n < p) :
    Held w (W.setCell ⟨g, n, none⟩ (faceV R v1 v2 v3 v4 n)) (gs.set i (facesG g p R v1 v2 v3 v4 (n + 1))) := by
  obtain ⟨cur, hb, hs, hc⟩ := h.nth i hi
  refine h.turn i hi ((Turned.of (grownBy_setC W g n _)).wide (by simp [facesG])) rfl ⟨_, heap_setCell_same W g n cur _ _ hb, by simp [hs], fun j hj => ?_⟩
  by_cases e : j = n
  · subst e
    rw [Array.getElem?_setIfInBounds_self_of_lt (by omega)]
  · rw [Array.getElem?_setIfInBounds_ne (by omega)]
    exact hc j (by omega)
theorem infoFace : (Try.prog.info? 109).map (fun i => (i.zero, i.size, i.bytes)) = some (some .nilIface, 1, 16) := by kernel_rfl
/-- A slice of ints in memory of the call's own. -/
def GivesI (ys : List Int) (w : World) (e : Ending) (w' : World) : Prop :=
  ∃ (q : Option Addr) (d : Nat), e = .returned (.slice q ys.length d) ∧ w'.ownsRow w.heap.size 3 1 (.slice q ys.length d) ys.length (vals ys) ∧ w.grownBy w' none
theorem flux_take {xs : List C3} {ms bs : List Int} {k : Nat} (h : k + 1 < xs.length) : vals ((fluxes xs ms bs).take k) ++ [Value.int .i64 (fluxAt xs ms bs k)] = vals ((fluxes xs ms bs).take (k + 1)) := by
  rw [List.take_add_one, fluxes_at h]; simp [vals]

theorem steep_next (xs : List C3) (ms bs : List Int) (k : Nat) : (gapF xs ms bs k > (steep xs ms bs k).2 → steep xs ms bs (k + 1) = ((k : Int), gapF xs ms bs k)) ∧ (¬ gapF xs ms bs k > (steep xs ms bs k).2 → steep xs ms bs (k + 1) = steep xs ms bs k) :=
  ⟨fun h => by rw [steep, if_pos h], fun h => by rw [steep, if_neg h]⟩

end Go.Proofs.Ytnaofcbbdlhjpaa.State
