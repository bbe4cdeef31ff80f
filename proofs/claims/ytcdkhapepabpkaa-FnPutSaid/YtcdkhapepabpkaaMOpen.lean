/- Meshes: an exact law's own argument, a slice of cells that came in, opened: what it holds.
   Conditions: none. -/
import Derived.Test.YtcdkhapepabpkaaMLaw
import Derived.Deep.Slices
import Derived.Deep.Strs
import Derived.ChangeSame
import Derived.Lib.SmallJoins
import Derived.Deep.RegionWith
import Derived.Deep.CutRange
import Derived.Deep.DeepCutAuto
set_option maxRecDepth 100000
namespace Go.Proofs.Ytcdkhapepabpkaa.Mesh
open Go.ChangeShapes Go.WideShapes Go.ChangeAt Go.RowKit Go.Proofs.Ytcdkhapepabpkaa.Cell Go.Deep

theorem cellsId : Try.prog.cellsOf 93 = 3 := by kernel_rfl
theorem cellsInt : Try.prog.cellsOf 3 = 1 := by kernel_rfl

theorem list3 {α : Type} {cs : List α} (h : cs.length = 3) : ∃ c0 c1 c2, cs = [c0, c1, c2] := by
  match cs, h with
  | [c0, c1, c2], _ => exact ⟨c0, c1, c2, rfl⟩

section
variable {H : Type} {enc : TypeId × Value → H} {w : World} {base : Nat} {spare : Nat → Bool} {held : Bool}

theorem open_id {m : Nat} {cs : List Value} {x : DataW H × List MemPlace} (h : DataW.trod enc Try.prog w base spare held m 93 cs = some x) : ∃ q : C3, cs = [.int .i64 q.1, .int .i64 q.2.1, .int .i64 q.2.2] := by
  obtain ⟨y0, y1, y2, n, _, hl, h0, h1, h2⟩ := trod_struct3 Try.underlying93 h
  rw [cellsId] at hl
  obtain ⟨c0, c1, c2, rfl⟩ := list3 hl
  · simp only [cellsInt] at h0 h1 h2
    obtain ⟨z0, e0, -, -⟩ := DataW.trod_int Try.underlying3 h0
    obtain ⟨z1, e1, -, -⟩ := DataW.trod_int Try.underlying3 h1
    obtain ⟨z2, e2, -, -⟩ := DataW.trod_int Try.underlying3 h2
    simp at e0 e1 e2
    exact ⟨(z0, z1, z2), by rw [e0, e1, e2]⟩

theorem open_ids {m : Nat} {c : Value} {y : DataW H × List MemPlace} (h : DataW.trod enc Try.prog w base spare held m 42 [c] = some y) : ∃ a n cap xs, c = .slice a n cap ∧ n ≤ maxLen ∧ ReadsAt w a n xs := by
  rcases open_slice Try.underlying42 h with ⟨hcs, _⟩ | ⟨a, len, cap, m', n', D, Pl, hcs, hb, hl, hm, hmm, _, hi⟩
  · simp at hcs
    subst hcs
    exact ⟨none, 0, 0, [], rfl, by simp, ⟨rfl, by simp⟩⟩
  · simp at hcs
    subst hcs
    have each : ∀ i, i < len → ∃ q : C3, w.cell? (a.add (i * 3)) = some (.int .i64 q.1) ∧ w.cell? (a.add (i * 3 + 1)) = some (.int .i64 q.2.1) ∧ w.cell? (a.add (i * 3 + 2)) = some (.int .i64 q.2.2) := by
      intro i hil
      have him : i < m' := by rw [hmm]; split <;> omega
      obtain ⟨cs', h1, h2⟩ := hi i him
      obtain ⟨q, rfl⟩ := open_id h2
      rw [cellsId] at h1
      obtain ⟨_, _, hcell⟩ := World.cells?_some h1
      have e0 := hcell 0 (by omega)
      have e1 := hcell 1 (by omega)
      have e2 := hcell 2 (by omega)
      rw [add_add] at e0 e1 e2
      exact ⟨q, by simpa using e0, by simpa using e1, by simpa using e2⟩
    obtain ⟨q, hq⟩ := choose_lt each
    refine ⟨some a, len, cap, (List.range len).map q, rfl, by omega, ⟨by simp, ?_⟩⟩
    intro k x hk
    obtain ⟨hk', rfl⟩ : k < len ∧ q k = x := by
      rw [List.getElem?_map] at hk
      by_cases hlt : k < len
      · rw [List.getElem?_range hlt] at hk; simp at hk; exact ⟨hlt, hk⟩
      · rw [List.getElem?_eq_none (by simp; omega)] at hk; simp at hk
    have h0 := hq 0 (by omega)
    have hs := World.cell?_spot h0.1
    simp at hs
    obtain ⟨h1, h2, h3⟩ := hq k hk'
    obtain ⟨b, o, sp⟩ := a
    simp [Addr.add] at hs
    subst hs
    simp only [Addr.add_lit] at h1 h2 h3
    exact ⟨b, o, rfl, h1, h2, h3⟩
end
end Go.Proofs.Ytcdkhapepabpkaa.Mesh
