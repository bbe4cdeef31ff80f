/- Meshes: the two ways to parse a mesh's text, as folds over its bytes; both give back the mesh that was written. Plain lemmas.
   Conditions: none. -/
import Derived.Test.YtjhfjceieaanhaaMFmtPure
namespace Go.Proofs.Ytjhfjceieaanhaa.Mesh
open Go.ChangeShapes Go.WideShapes Go.ChangeAt Go.RowKit Go.Proofs.Ytjhfjceieaanhaa.Cell

def lv (b : UInt8) : Int := (b.toNat : Int) - 48
/-- The program's way: where the next cell starts ('none': it has stopped), and the cells. -/
def iStep (s : Option Int × List C3) (b : UInt8) : Option Int × List C3 :=
  match s.1 with
  | none => s
  | some p => if b = 124 then s else if widthOf (lv b) = 0 then (none, s.2) else (some (p + widthOf (lv b)), s.2 ++ [(p / 16, lv b, p % 16 / widthOf (lv b))])
def iSt (t : List UInt8) : Option Int × List C3 := t.foldl iStep (some 0, [])
/-- The model's way: the roots, the place in the root, the cells ('none': there is no mesh). -/
def sStep (s : Option (Int × Int × List C3)) (b : UInt8) : Option (Int × Int × List C3) :=
  match s with
  | none => none
  | some q => if b = 124 then some (q.1 + 1, 0, q.2.2) else if widthOf (lv b) = 0 ∨ q.2.1 % widthOf (lv b) ≠ 0 then none else some (q.1, q.2.1 + widthOf (lv b), q.2.2 ++ [(q.1 - 1, lv b, q.2.1 / widthOf (lv b))])
def sSt (t : List UInt8) : Option (Int × Int × List C3) := t.foldl sStep (some (1, 0, []))

theorem iSt_app (t u : List UInt8) : iSt (t ++ u) = u.foldl iStep (iSt t) := by simp [iSt]
theorem sSt_app (t u : List UInt8) : sSt (t ++ u) = u.foldl sStep (sSt t) := by simp [sSt]
theorem lv_digit {l : Int} (h0 : 0 ≤ l) (h4 : l ≤ 4) : lv (digit l) = l := by unfold lv; rw [digit_val h0 h4]; omega
theorem digit_sep {l : Int} (h0 : 0 ≤ l) (h4 : l ≤ 4) : digit l ≠ 124 := fun e => by
  have h := digit_val h0 h4
  rw [e] at h
  have : ((124 : UInt8).toNat : Int) = 124 := rfl
  omega
theorem iStep_sep (s : Option Int × List C3) : iStep s 124 = s := by
  unfold iStep
  split
  · rfl
  · simp
theorem iStep_digit {e r l i : Int} {ys : List C3} (ho : okId r l i = true) (he : startOf r l i = e) : iStep (some e, ys) (digit l) = (some (e + widthOf l), ys ++ [(r, l, i)]) := by
  obtain ⟨b1, b2, b3, b4, b5, b6, b7, b8, b9⟩ := ok_bounds' ho
  have hq : i * widthOf l / widthOf l = i := Int.mul_ediv_cancel _ (by omega)
  rw [b5] at he
  generalize hqq : i * widthOf l = q at *
  have h1 : e / 16 = r := by omega
  have h2 : e % 16 = q := by omega
  simp only [iStep, lv_digit b3 b4, digit_sep b3 b4, if_false, if_neg (show ¬ widthOf l = 0 by omega), h1, h2, hq]
theorem sStep_digit {R a r l i : Int} {ys : List C3} (ho : okId r l i = true) (hR : R = r + 1) (ha : a = i * widthOf l) : sStep (some (R, a, ys)) (digit l) = some (R, a + widthOf l, ys ++ [(r, l, i)]) := by
  obtain ⟨b1, b2, b3, b4, b5, b6, b7, b8, b9⟩ := ok_bounds' ho
  have hq : i * widthOf l / widthOf l = i := Int.mul_ediv_cancel _ (by omega)
  have hm : i * widthOf l % widthOf l = 0 := Int.mul_emod_left _ _
  subst ha hR
  have hw : ¬ (widthOf l = 0 ∨ i * widthOf l % widthOf l ≠ 0) := by rw [hm]; omega
  have hr : r + 1 - 1 = r := by omega
  simp only [sStep, lv_digit b3 b4, digit_sep b3 b4, if_false, if_neg hw, hq, hr]
theorem sStep_sep (R a : Int) (ys : List C3) : sStep (some (R, a, ys)) 124 = some (R + 1, 0, ys) := rfl

/-- After k leaves. -/
structure At (xs : List C3) (k : Nat) (e : Int) : Prop where
  run : run (xs.take k) = some e
  pos : 0 ≤ e
  imp : iSt (fmtTo xs k) = (some e, xs.take k)
  len : (fmtTo xs k).length = k + (fmtTo xs k).count 124
  sp : (k = 0 ∧ e = 0 ∧ sSt (fmtTo xs k) = some (1, 0, xs.take k) ∧ (fmtTo xs k).count 124 = 0) ∨
    (0 < k ∧ 16 * rootAt xs (k - 1) < e ∧ e ≤ 16 * (rootAt xs (k - 1) + 1) ∧ sSt (fmtTo xs k) = some (rootAt xs (k - 1) + 1, e - 16 * rootAt xs (k - 1), xs.take k) ∧ ((fmtTo xs k).count 124 : Int) = rootAt xs (k - 1))
theorem at_zero (xs : List C3) : At xs 0 0 := ⟨rfl, by omega, rfl, rfl, .inl ⟨rfl, rfl, rfl, rfl⟩⟩
theorem at_succ {xs : List C3} {k : Nat} {e r l i : Int} (h : At xs k e) (hx : xs[k]? = some (r, l, i)) (ho : okId r l i = true) (he : startOf r l i = e) : At xs (k + 1) (e + widthOf l) := by
  obtain ⟨b1, b2, b3, b4, b5, b6, b7, b8, b9⟩ := ok_bounds' ho
  have hd := digit_sep b3 b4
  have hlv : lvlAt xs k = l := lvlAt_of hx
  have hrt : rootAt xs k = r := rootAt_of hx
  have htk : xs.take (k + 1) = xs.take k ++ [(r, l, i)] := take_snoc hx
  have hcd : ([digit l] : List UInt8).count 124 = 0 := by simp [hd]
  have hst := b5.symm.trans he
  have himp : iSt (fmtTo xs (k + 1)) = (some (e + widthOf l), xs.take (k + 1)) := by
    rw [fmtTo_succ, iSt_app, h.imp, hlv, List.foldl_append, htk]
    have : (sepL xs k).foldl iStep (some e, xs.take k) = (some e, xs.take k) := by
      cases hs : sepB xs k with
      | true => rw [sepL_yes hs]; rw [List.foldl_cons, iStep_sep]; rfl
      | false => rw [sepL_no hs]; rfl
    rw [this]
    exact iStep_digit ho he
  have hrun : run (xs.take (k + 1)) = some (e + widthOf l) := by
    rw [run_next hx h.run]; exact step_yes he
  have hlen : (fmtTo xs (k + 1)).length = (k + 1) + (fmtTo xs (k + 1)).count 124 := by
    rw [fmtTo_succ, hlv]
    have h1 := h.len
    have h2 : (sepL xs k).length = (sepL xs k).count 124 := by
      cases hs : sepB xs k with
      | true => rw [sepL_yes hs]; rfl
      | false => rw [sepL_no hs]; rfl
    simp only [List.length_append, List.count_append, hcd, List.length_cons, List.length_nil]
    omega
  refine ⟨hrun, by have := h.pos; omega, himp, hlen, .inr ⟨by omega, ?_⟩⟩
  rw [Nat.add_sub_cancel, hrt, htk]
  have hcnt : (fmtTo xs (k + 1)).count 124 = (fmtTo xs k).count 124 + (sepL xs k).count 124 := by
    rw [fmtTo_succ, hlv, List.count_append, List.count_append, hcd]; omega
  have hsp : sSt (fmtTo xs (k + 1)) = ((sepL xs k) ++ [digit l]).foldl sStep (sSt (fmtTo xs k)) := by rw [fmtTo_succ, hlv, sSt_app]
  rw [hcnt, hsp, List.foldl_append]
  rcases h.sp with ⟨rfl, rfl, h3, h4⟩ | ⟨hk, h1, h2, h3, h4⟩
  · have hs : sepL xs 0 = [] := rfl
    have hr0 : r = 0 := by omega
    have hq0 : i * widthOf l = 0 := by omega
    refine ⟨by omega, by omega, ?_, by rw [hs, h4]; simp; omega⟩
    rw [hs, h3]
    have := sStep_digit (R := 1) (a := 0) (ys := xs.take 0) ho (by omega) hq0.symm
    rw [show ([] : List UInt8).foldl sStep (some (1, 0, xs.take 0)) = some (1, 0, xs.take 0) from rfl]
    refine Eq.trans this ?_
    rw [hr0]; simp
  · by_cases hrr : r = rootAt xs (k - 1)
    · have hb : sepB xs k = false := by unfold sepB; rw [hrt, hrr]; simp
      rw [sepL_no hb]
      refine ⟨by omega, by omega, ?_, by rw [List.count_nil, Nat.add_zero, h4, hrr]⟩
      rw [h3]
      rw [show ([] : List UInt8).foldl sStep (some (rootAt xs (k - 1) + 1, e - 16 * rootAt xs (k - 1), xs.take k)) = some (rootAt xs (k - 1) + 1, e - 16 * rootAt xs (k - 1), xs.take k) from rfl, ← hrr]
      refine Eq.trans (sStep_digit ho rfl (by omega)) ?_
      congr 3; omega
    · have hb : sepB xs k = true := by unfold sepB; rw [hrt]; simp [hk, hrr]
      have hr1 : r = rootAt xs (k - 1) + 1 := by omega
      have hq0 : i * widthOf l = 0 := by omega
      rw [sepL_yes hb]
      refine ⟨by omega, by omega, ?_, by rw [show ([124] : List UInt8).count 124 = 1 from rfl]; omega⟩
      rw [h3]
      rw [show ([124] : List UInt8).foldl sStep (some (rootAt xs (k - 1) + 1, e - 16 * rootAt xs (k - 1), xs.take k)) = some (rootAt xs (k - 1) + 1 + 1, 0, xs.take k) from rfl, ← hr1]
      refine Eq.trans (sStep_digit ho rfl hq0.symm) ?_
      congr 3; omega
theorem at_all {R : Int} {xs : List C3} (h : meshOk R xs = true) : ∀ k, k ≤ xs.length → ∃ e, At xs k e := by
  obtain ⟨h1, h2, h3⟩ : 1 ≤ R ∧ R ≤ 8 ∧ run xs = some (R * 16) := of_decide_eq_true h
  obtain ⟨-, hall⟩ := ok_mesh h
  intro k
  induction k with
  | zero => exact fun _ => ⟨0, at_zero xs⟩
  | succ k ih =>
    intro hk
    obtain ⟨e, he⟩ := ih (by omega)
    obtain ⟨r, l, i, hx⟩ := get_of_lt rfl (k := k) (n := xs.length) (by omega)
    have ho := hall k _ hx
    by_cases hs : startOf r l i = e
    · exact ⟨_, at_succ he hx ho hs⟩
    · have : run xs = none := run_take_none ((run_next hx he.run).trans (step_no hs))
      rw [this] at h3; cases h3
/-- Both ways give back the mesh that was written. -/
theorem parse_fmt {R : Int} {xs : List C3} (h : meshOk R xs = true) : iSt (fmtOf R xs) = (some (R * 16), xs) ∧ (∃ a, sSt (fmtOf R xs) = some (R, a, xs)) ∧ ((fmtOf R xs).count 124 : Int) + 1 = R ∧ (fmtOf R xs).length ≤ 135 ∧ fmtOf R xs ≠ [] := by
  obtain ⟨h1, h2, h3⟩ : 1 ≤ R ∧ R ≤ 8 ∧ run xs = some (R * 16) := of_decide_eq_true h
  obtain ⟨e, he⟩ := at_all h xs.length (Nat.le_refl _)
  have hf : fmtOf R xs = fmtTo xs xs.length := by simp [fmtOf, h]
  have hn := (ok_mesh h).1
  have hrun := he.run
  rw [List.take_length, h3] at hrun
  obtain rfl : R * 16 = e := by simpa using hrun
  have himp := he.imp
  have hlen := he.len
  have hsp := he.sp
  rw [List.take_length] at himp hsp
  rw [hf]
  rcases hsp with ⟨-, h0, -⟩ | ⟨hk, q1, q2, q3, q4⟩
  · omega
  · have hr : rootAt xs (xs.length - 1) + 1 = R := by omega
    refine ⟨himp, ⟨_, by rw [q3, hr]⟩, by omega, by omega, fun e => ?_⟩
    rw [e] at hlen; simp at hlen; omega

/-- The answer: the roots, the cells, whether there is a mesh. -/
def pOk (t : List UInt8) : Bool := decide (t ≠ [] ∧ t.length ≤ 135 ∧ fmtOf ((t.count 124 : Int) + 1) (iSt t).2 = t)
def pR (t : List UInt8) : Int := if pOk t then (t.count 124 : Int) + 1 else 0
def pC (t : List UInt8) : List C3 := if pOk t then (iSt t).2 else []
theorem fmt_ok {R : Int} {xs : List C3} {t : List UInt8} (h : fmtOf R xs = t) (ht : t ≠ []) : meshOk R xs = true := by
  cases hm : meshOk R xs with
  | true => rfl
  | false => exact absurd (h.symm.trans (by simp [fmtOf, hm])) ht
/-- The model's parse that is written back is the program's. -/
theorem spec_yes {t : List UInt8} {R : Int} {ys : List C3} (ht : t ≠ []) (hf : fmtOf R ys = t) : pOk t = true ∧ pR t = R ∧ pC t = ys := by
  have hm := fmt_ok hf ht
  obtain ⟨p1, -, p3, p4, -⟩ := parse_fmt hm
  rw [hf] at p1 p3 p4
  have ho : pOk t = true := decide_eq_true ⟨ht, p4, by rw [p3, p1]; exact hf⟩
  exact ⟨ho, by simp [pR, ho, p3], by simp [pC, ho, p1]⟩
theorem spec_no {t : List UInt8} (h : ∀ R a ys, sSt t = some (R, a, ys) → t ≠ [] → fmtOf R ys ≠ t) : pOk t = false := by
  cases ho : pOk t with
  | false => rfl
  | true =>
    obtain ⟨h1, h2, h3⟩ : t ≠ [] ∧ t.length ≤ 135 ∧ fmtOf ((t.count 124 : Int) + 1) (iSt t).2 = t := of_decide_eq_true ho
    obtain ⟨-, ⟨a, p2⟩, -⟩ := parse_fmt (fmt_ok h3 h1)
    rw [h3] at p2
    exact absurd h3 (h _ _ _ p2 h1)
theorem p_no {t : List UInt8} (h : pOk t = false) : pR t = 0 ∧ pC t = [] := by simp [pR, pC, h]
theorem p_yes {t : List UInt8} (h : pOk t = true) : pR t = (t.count 124 : Int) + 1 ∧ pC t = (iSt t).2 := by simp [pR, pC, h]
theorem pOk_long {t : List UInt8} (h : 135 < t.length) : pOk t = false := decide_eq_false fun e => by omega
end Go.Proofs.Ytjhfjceieaanhaa.Mesh
