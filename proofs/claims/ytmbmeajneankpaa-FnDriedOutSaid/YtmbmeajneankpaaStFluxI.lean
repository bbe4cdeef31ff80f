/- States: the program's sides of a face, drop, flux, SurfaceOf, FaceFlux, as contracts: what each answers; nothing that was there is written.
   Conditions: the state is valid, or is found not to be; at most 2^20 leaves and numbers. -/
import Derived.Test.YtmbmeajneankpaaStFluxP
import Derived.Test.YtmbmeajneankpaaStI
import Derived.Test.YtmbmeajneankpaaPkDraw
import Derived.Deep.RegionWith
set_option maxRecDepth 100000
namespace Go.Proofs.Ytmbmeajneankpaa.Law
open Go.ChangeShapes Go.WideShapes Go.ChangeAt Go.RowKit Go.Joins Go.Proofs.Ytmbmeajneankpaa.Cell Go.Proofs.Ytmbmeajneankpaa.Mesh

theorem box3 {b : Nat} {t : TypeId} {x0 x1 x2 : Value} {W : World} (h : (boxG b t #[x0, x1, x2]).P W) : W.cell? ⟨b, 0, none⟩ = some x0 ∧ W.cell? ⟨b, 1, none⟩ = some x1 ∧ W.cell? ⟨b, 2, none⟩ = some x2 := ⟨boxG.cell h 0, boxG.cell h 1, boxG.cell h 2⟩
theorem free3 {b : Nat} {t : TypeId} {vs : Array Value} {W : World} (h : (boxG b t vs).P W) : W.frozen? ⟨b, 0, none⟩ = false ∧ W.frozen? ⟨b, 1, none⟩ = false ∧ W.frozen? ⟨b, 2, none⟩ = false := ⟨boxG.free h 0, boxG.free h 1, boxG.free h 2⟩
theorem box6 {b : Nat} {t : TypeId} {x0 x1 x2 x3 x4 x5 : Value} {W : World} (h : (boxG b t #[x0, x1, x2, x3, x4, x5]).P W) : W.cell? ⟨b, 0, none⟩ = some x0 ∧ W.cell? ⟨b, 1, none⟩ = some x1 ∧ W.cell? ⟨b, 2, none⟩ = some x2 ∧ W.cell? ⟨b, 3, none⟩ = some x3 ∧ W.cell? ⟨b, 4, none⟩ = some x4 ∧ W.cell? ⟨b, 5, none⟩ = some x5 :=
  ⟨boxG.cell h 0, boxG.cell h 1, boxG.cell h 2, boxG.cell h 3, boxG.cell h 4, boxG.cell h 5⟩
/-- A struct of three cells stored whole. -/
theorem Held.put3 {w W : World} {gs : List Grp} {b : Nat} {t : TypeId} {x0 x1 x2 : Value} (h : Held w W gs) (k : Nat) (hk : gs[k]? = some (boxG b t #[x0, x1, x2])) (y0 y1 y2 : Value) :
    Held w (((W.setCell ⟨b, 0, none⟩ y0).setCell ⟨b, 1, none⟩ y1).setCell ⟨b, 2, none⟩ y2) (gs.set k (boxG b t #[y0, y1, y2])) := by
  have hlt := (List.getElem?_eq_some_iff.1 hk).1
  have g1 : Held w _ (gs.set k (boxG b t #[y0, x1, x2])) := h.put k hk 0 y0
  have g2 : Held w _ ((gs.set k (boxG b t #[y0, x1, x2])).set k (boxG b t #[y0, y1, x2])) := g1.put k (by rw [List.getElem?_set_self hlt]) 1 y1
  rw [List.set_set] at g2
  have g3 : Held w _ ((gs.set k (boxG b t #[y0, y1, x2])).set k (boxG b t #[y0, y1, y2])) := g2.put k (by rw [List.getElem?_set_self hlt]) 2 y2
  rw [List.set_set] at g3
  exact g3
end Go.Proofs.Ytmbmeajneankpaa.Law
namespace Go.Proofs.Ytmbmeajneankpaa.State
open Go.ChangeShapes Go.WideShapes Go.ChangeAt Go.RowKit Go.Joins Go.Proofs.Ytmbmeajneankpaa.Cell Go.Proofs.Ytmbmeajneankpaa.Mesh Go.Proofs.Ytmbmeajneankpaa.Law Go.Proofs.Ytmbmeajneankpaa.Ints Go.Deep

end Go.Proofs.Ytmbmeajneankpaa.State
