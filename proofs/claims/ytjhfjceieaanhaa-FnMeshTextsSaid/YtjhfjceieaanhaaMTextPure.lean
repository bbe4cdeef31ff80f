/- Meshes: the text of a valid mesh, parsed; one digit more; a uniform mesh of level 2. Plain lemmas.
   Conditions: none. -/
import Derived.Test.YtjhfjceieaanhaaMParsePure
import Derived.Test.YtjhfjceieaanhaaMLeafPure
import Derived.Test.YtjhfjceieaanhaaMNewI
namespace Go.Proofs.Ytjhfjceieaanhaa.Mesh
open Go.ChangeShapes Go.WideShapes Go.ChangeAt Go.RowKit Go.Proofs.Ytjhfjceieaanhaa.Cell

theorem fmt_len {R : Int} {xs : List C3} (h : meshOk R xs = true) : (fmtOf R xs).length = xs.length + (fmtOf R xs).count 124 := by
  obtain ⟨e, he⟩ := at_all h xs.length (Nat.le_refl _)
  have hf : fmtOf R xs = fmtTo xs xs.length := by simp [fmtOf, h]
  rw [hf]; exact he.len
theorem fmt_parse {R : Int} {xs : List C3} (h : meshOk R xs = true) : pOk (fmtOf R xs) = true ∧ pR (fmtOf R xs) = R ∧ pC (fmtOf R xs) = xs := by
  obtain ⟨p1, -, p3, p4, p5⟩ := parse_fmt h
  have ho : pOk (fmtOf R xs) = true := decide_eq_true ⟨p5, p4, by rw [p3, p1]⟩
  exact ⟨ho, by simp [pR, ho, p3], by simp [pC, ho, p1]⟩
theorem more_bad {R : Int} {xs : List C3} (h : meshOk R xs = true) : pOk (fmtOf R xs ++ [52]) = false := by
  obtain ⟨p1, -, p3, p4, p5⟩ := parse_fmt h
  obtain ⟨-, -, hr⟩ : 1 ≤ R ∧ R ≤ 8 ∧ run xs = some (R * 16) := of_decide_eq_true h
  have hc : (fmtOf R xs ++ [52]).count 124 = (fmtOf R xs).count 124 := by rw [List.count_append]; rfl
  have hi : (iSt (fmtOf R xs ++ [52])).2 = xs ++ [(R * 16 / 16, 4, R * 16 % 16 / 1)] := by
    rw [iSt_app, p1]; rfl
  have hq : R * 16 / 16 = R := by omega
  have hm : R * 16 % 16 / 1 = 0 := by omega
  rw [hq, hm] at hi
  have hbad : meshOk R (xs ++ [(R, 4, 0)]) = false := by
    refine decide_eq_false fun e => ?_
    have h2 := e.2.2
    rw [run_snoc, hr] at h2
    unfold step at h2
    simp only [Option.bind_some] at h2
    split at h2
    · simp only [Option.some.injEq] at h2
      have hw : wdOf (R, 4, 0) = 1 := (by decide : widthOf 4 = 1)
      omega
    · cases h2
  refine decide_eq_false fun e => ?_
  have h2 := e.2.2
  rw [hc, p3, hi] at h2
  rw [show fmtOf R (xs ++ [(R, 4, 0)]) = [] by simp [fmtOf, hbad]] at h2
  exact e.1 h2.symm
theorem new_two {R : Int} (h1 : 1 ≤ R) (h3 : R ≤ 3) : newOk R 2 = true ∧ ((newC R 2).length : Int) = 4 * R ∧ deepest R (newC R 2) = 2 := by
  rcases (show R = 1 ∨ R = 2 ∨ R = 3 by omega) with rfl | rfl | rfl
  all_goals exact ⟨by decide, by decide, by decide⟩
end Go.Proofs.Ytjhfjceieaanhaa.Mesh
