/- States: what FillState makes: the mass of a leaf, when it answers true; every leaf lies in one of the roots. Plain lemmas.
   Conditions: none. -/
import Derived.Test.YtcdkhapepabpkaaStPure
set_option maxRecDepth 100000
namespace Go.Proofs.Ytcdkhapepabpkaa.State
open Go.ChangeShapes Go.WideShapes Go.ChangeAt Go.RowKit Go.Proofs.Ytcdkhapepabpkaa.Cell Go.Proofs.Ytcdkhapepabpkaa.Mesh

theorem root_lt {R : Int} {xs : List C3} (hm : meshOk R xs = true) {k : Nat} {x : C3} (hx : xs[k]? = some x) : 0 ≤ x.1 ∧ x.1 < R ∧ 0 ≤ x.2.1 ∧ x.2.1 ≤ 4 := by
  obtain ⟨h1, h2, h3⟩ : 1 ≤ R ∧ R ≤ 8 ∧ run xs = some (R * 16) := of_decide_eq_true hm
  have hk := (List.getElem?_eq_some_iff.1 hx).1
  have hsplit : xs = xs.take k ++ x :: xs.drop (k + 1) := by
    have := List.getElem?_eq_some_iff.1 hx
    rw [← this.2, List.getElem_cons_drop, List.take_append_drop]
  obtain ⟨b1, b2, b3⟩ := run_bounds _ h3
  obtain ⟨c1, c2, c3, c4, c5, c6, c7, c8, c9⟩ := ok_bounds (b3 x (List.mem_of_getElem? hx))
  refine ⟨c1, ?_, c3, c4⟩
  have hr := h3
  rw [hsplit] at hr
  unfold run at hr
  rw [List.foldl_append, List.foldl_cons] at hr
  cases he : (xs.take k).foldl Mesh.step (some 0) with
  | none => rw [he] at hr; rw [show Mesh.step none x = none from rfl, fold_none] at hr; cases hr
  | some e =>
    rw [he] at hr
    have he' : run (xs.take k) = some e := he
    obtain ⟨d1, d2, -⟩ := run_bounds _ he'
    by_cases hst : stOf x = e
    · rw [step_yes hst] at hr
      obtain ⟨f1, f2, f3⟩ := fold_bounds _ _ _ (by omega) (by omega) hr
      omega
    · rw [step_no hst, fold_none] at hr; cases hr

def fillMass (bs : List Int) (h : Int) (x : C3) : Int := (if bs.getD x.1.toNat 0 < h then h - max (bs.getD x.1.toNat 0) (-1) else 0) / 2 ^ x.2.1.toNat
def fillMs (bs : List Int) (h : Int) (xs : List C3) : List Int := xs.map (fillMass bs h)
theorem fillMs_len (bs : List Int) (h : Int) (xs : List C3) : (fillMs bs h xs).length = xs.length := by simp [fillMs]
theorem fillMs_take {bs : List Int} {h : Int} {xs : List C3} {k : Nat} {x : C3} (hx : xs[k]? = some x) : (fillMs bs h xs).take (k + 1) = (fillMs bs h xs).take k ++ [fillMass bs h x] :=
  take_snocI (by rw [fillMs, List.getElem?_map, hx]; rfl)
def fillB (R : Int) (xs : List C3) (bs : List Int) (h : Int) : Bool := balanced R xs && (decide ((bs.length : Int) = R) && (decide (0 ≤ h ∧ h ≤ 2000000) && stOk R xs (fillMs bs h xs) (List.replicate xs.length 0) bs))
end Go.Proofs.Ytcdkhapepabpkaa.State
