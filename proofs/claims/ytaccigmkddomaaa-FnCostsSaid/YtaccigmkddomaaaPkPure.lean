/- States: when a state is valid, its sums. Plain lemmas. States: what FillState makes: the mass of a leaf, when it answers true; every leaf lies in one of the roots. Plain lemmas.
   Conditions: as each says. -/
import Derived.Test.YtaccigmkddomaaaMFaceI
set_option maxRecDepth 100000
namespace Go.Proofs.Ytaccigmkddomaaa.State
open Go.ChangeShapes Go.WideShapes Go.ChangeAt Go.RowKit Go.Proofs.Ytaccigmkddomaaa.Cell Go.Proofs.Ytaccigmkddomaaa.Mesh

def massOk (m t : Int) : Bool := decide (0 ≤ m ∧ m ≤ 10000000 ∧ 0 ≤ t ∧ t ≤ 1000 * m)
def bedOk (b : Int) : Bool := decide (0 ≤ b ∧ b ≤ 1000000)
def pairsOk (ms ts : List Int) : Bool := (ms.zip ts).all fun p => massOk p.1 p.2
def bedsOk (bs : List Int) : Bool := bs.all bedOk
/-- The numbers of masses, tracers, beds. -/
def sizesOk (R : Int) (xs : List C3) (ms ts bs : List Int) : Bool := decide (ms.length = xs.length ∧ ts.length = ms.length ∧ (bs.length : Int) = R)
def stOk (R : Int) (xs : List C3) (ms ts bs : List Int) : Bool := balanced R xs && (sizesOk R xs ms ts bs && (pairsOk ms ts && (bedsOk bs && decide (ms.sum ≤ 10000000))))

theorem stOk_parts {R : Int} {xs : List C3} {ms ts bs : List Int} (h : stOk R xs ms ts bs = true) : balanced R xs = true ∧ (ms.length = xs.length ∧ ts.length = ms.length ∧ (bs.length : Int) = R) ∧ pairsOk ms ts = true ∧ bedsOk bs = true ∧ ms.sum ≤ 10000000 := by
  unfold stOk at h
  simp only [Bool.and_eq_true, decide_eq_true_eq] at h
  obtain ⟨h1, h2, h3, h4, h5⟩ := h
  exact ⟨h1, of_decide_eq_true h2, h3, h4, h5⟩
theorem stOk_mk {R : Int} {xs : List C3} {ms ts bs : List Int} (h1 : balanced R xs = true) (h2 : ms.length = xs.length ∧ ts.length = ms.length ∧ (bs.length : Int) = R) (h3 : pairsOk ms ts = true) (h4 : bedsOk bs = true) (h5 : ms.sum ≤ 10000000) : stOk R xs ms ts bs = true := by
  unfold stOk
  simp only [Bool.and_eq_true, decide_eq_true_eq]
  exact ⟨h1, decide_eq_true h2, h3, h4, h5⟩

theorem zip_get {ms ts : List Int} {k : Nat} {m t : Int} (hm : ms[k]? = some m) (ht : ts[k]? = some t) : (ms.zip ts)[k]? = some (m, t) := by
  rw [List.getElem?_zip_eq_some]; exact ⟨hm, ht⟩
theorem pairs_at {ms ts : List Int} (h : pairsOk ms ts = true) {k : Nat} {m t : Int} (hm : ms[k]? = some m) (ht : ts[k]? = some t) : massOk m t = true :=
  List.all_eq_true.1 h (m, t) (List.mem_of_getElem? (zip_get hm ht))
theorem pairs_bad {ms ts : List Int} {k : Nat} {m t : Int} (hm : ms[k]? = some m) (ht : ts[k]? = some t) (h : massOk m t = false) : pairsOk ms ts = false := by
  cases hp : pairsOk ms ts with
  | false => rfl
  | true => rw [pairs_at hp hm ht] at h; cases h
theorem pairs_all {ms ts : List Int} {n : Nat} (hl : ms.length = n) (hl' : ts.length = n) (h : ∀ (j : Nat) (m t : Int), j < n → ms[j]? = some m → ts[j]? = some t → massOk m t = true) : pairsOk ms ts = true := by
  refine List.all_eq_true.2 fun p hp => ?_
  obtain ⟨k, hk⟩ := List.getElem?_of_mem hp
  obtain ⟨m, t⟩ := p
  obtain ⟨h1, h2⟩ := List.getElem?_zip_eq_some.1 hk
  exact h k m t (by have := (List.getElem?_eq_some_iff.1 h1).1; omega) h1 h2
theorem mass_bounds {ms ts : List Int} (h : pairsOk ms ts = true) (hl : ts.length = ms.length) {m : Int} (hm : m ∈ ms) : 0 ≤ m ∧ m ≤ 10000000 := by
  obtain ⟨k, hk⟩ := List.getElem?_of_mem hm
  have hkl := (List.getElem?_eq_some_iff.1 hk).1
  obtain ⟨h1, h2, -, -⟩ := of_decide_eq_true (pairs_at h hk (List.getElem?_eq_getElem (show k < ts.length by omega)))
  exact ⟨h1, h2⟩
theorem tracer_bounds {ms ts : List Int} (h : pairsOk ms ts = true) (hl : ts.length = ms.length) {t : Int} (ht : t ∈ ts) : 0 ≤ t ∧ t ≤ 10000000000 := by
  obtain ⟨k, hk⟩ := List.getElem?_of_mem ht
  have hkl := (List.getElem?_eq_some_iff.1 hk).1
  obtain ⟨h1, h2, h3, h4⟩ := of_decide_eq_true (pairs_at h (List.getElem?_eq_getElem (show k < ms.length by omega)) hk)
  exact ⟨h3, by omega⟩
theorem beds_at {bs : List Int} (h : bedsOk bs = true) {k : Nat} {b : Int} (hb : bs[k]? = some b) : bedOk b = true := List.all_eq_true.1 h b (List.mem_of_getElem? hb)
theorem beds_bad {bs : List Int} {k : Nat} {b : Int} (hb : bs[k]? = some b) (h : bedOk b = false) : bedsOk bs = false := by
  cases hp : bedsOk bs with
  | false => rfl
  | true => rw [beds_at hp hb] at h; cases h
theorem beds_all {bs : List Int} {n : Nat} (hl : bs.length = n) (h : ∀ (j : Nat) (b : Int), j < n → bs[j]? = some b → bedOk b = true) : bedsOk bs = true := by
  refine List.all_eq_true.2 fun b hb => ?_
  obtain ⟨k, hk⟩ := List.getElem?_of_mem hb
  exact h k b (by have := (List.getElem?_eq_some_iff.1 hk).1; omega) hk
theorem bed_bounds {bs : List Int} (h : bedsOk bs = true) {b : Int} (hb : b ∈ bs) : 0 ≤ b ∧ b ≤ 1000000 := of_decide_eq_true (List.all_eq_true.1 h b hb)

theorem sum_snoc (xs : List Int) (x : Int) : (xs ++ [x]).sum = xs.sum + x := by simp
theorem take_snocI {xs : List Int} {k : Nat} {x : Int} (h : xs[k]? = some x) : xs.take (k + 1) = xs.take k ++ [x] := by rw [List.take_add_one, h]; rfl
theorem sum_take {xs : List Int} {k : Nat} {x : Int} (h : xs[k]? = some x) : (xs.take (k + 1)).sum = (xs.take k).sum + x := by rw [take_snocI h, sum_snoc]
theorem sum_bounds {xs : List Int} {B : Int} (h : ∀ x ∈ xs, 0 ≤ x ∧ x ≤ B) : 0 ≤ xs.sum ∧ xs.sum ≤ xs.length * B := by
  induction xs with
  | nil => simp
  | cons x xs ih =>
    obtain ⟨h1, h2⟩ := ih fun y hy => h y (List.mem_cons_of_mem _ hy)
    obtain ⟨h3, h4⟩ := h x (List.mem_cons_self ..)
    rw [List.sum_cons, List.length_cons]
    have : ((xs.length + 1 : Nat) : Int) * B = xs.length * B + B := by push_cast; rw [Int.add_mul, Int.one_mul]
    omega
theorem sum_take_bounds {xs : List Int} {B : Int} (k : Nat) (h : ∀ x ∈ xs, 0 ≤ x ∧ x ≤ B) : 0 ≤ (xs.take k).sum ∧ (xs.take k).sum ≤ (xs.take k).length * B := sum_bounds fun x hx => h x (List.mem_of_mem_take hx)
theorem take_all {xs : List Int} {n : Nat} (h : xs.length = n) : xs.take n = xs := by rw [← h, List.take_length]
end Go.Proofs.Ytaccigmkddomaaa.State

namespace Go.Proofs.Ytaccigmkddomaaa.State
open Go.ChangeShapes Go.WideShapes Go.ChangeAt Go.RowKit Go.Proofs.Ytaccigmkddomaaa.Cell Go.Proofs.Ytaccigmkddomaaa.Mesh

theorem root_lt {R : Int} {xs : List C3} (hm : meshOk R xs = true) {k : Nat} {x : C3} (hx : xs[k]? = some x) : 0 ≤ x.1 ∧ x.1 < R ∧ 0 ≤ x.2.1 ∧ x.2.1 ≤ 4 := by
  obtain ⟨h1, h2, h3⟩ : 1 ≤ R ∧ R ≤ 8 ∧ run xs = some (R * 16) := of_decide_eq_true hm
  have hk := (List.getElem?_eq_some_iff.1 hx).1
  have hsplit : xs = xs.take k ++ x :: xs.drop (k + 1) := by
    have := List.getElem?_eq_some_iff.1 hx
    rw [← this.2, List.getElem_cons_drop, List.take_append_drop]
  obtain ⟨b1, b2, b3⟩ := run_bounds _ h3
  obtain ⟨c1, c2, c3, c4, c5, c6, c7, c8, c9⟩ := ok_bounds (b3 x (List.mem_of_getElem? hx))
  refine ⟨c1, ?_, c3, c4⟩
  have hr := h3
  rw [hsplit] at hr
  unfold run at hr
  rw [List.foldl_append, List.foldl_cons] at hr
  cases he : (xs.take k).foldl Mesh.step (some 0) with
  | none => rw [he] at hr; rw [show Mesh.step none x = none from rfl, fold_none] at hr; cases hr
  | some e =>
    rw [he] at hr
    have he' : run (xs.take k) = some e := he
    obtain ⟨d1, d2, -⟩ := run_bounds _ he'
    by_cases hst : stOf x = e
    · rw [step_yes hst] at hr
      obtain ⟨f1, f2, f3⟩ := fold_bounds _ _ _ (by omega) (by omega) hr
      omega
    · rw [step_no hst, fold_none] at hr; cases hr

def fillMass (bs : List Int) (h : Int) (x : C3) : Int := (if bs.getD x.1.toNat 0 < h then h - max (bs.getD x.1.toNat 0) (-1) else 0) / 2 ^ x.2.1.toNat
def fillMs (bs : List Int) (h : Int) (xs : List C3) : List Int := xs.map (fillMass bs h)
theorem fillMs_len (bs : List Int) (h : Int) (xs : List C3) : (fillMs bs h xs).length = xs.length := by simp [fillMs]
theorem fillMs_take {bs : List Int} {h : Int} {xs : List C3} {k : Nat} {x : C3} (hx : xs[k]? = some x) : (fillMs bs h xs).take (k + 1) = (fillMs bs h xs).take k ++ [fillMass bs h x] :=
  take_snocI (by rw [fillMs, List.getElem?_map, hx]; rfl)
def fillB (R : Int) (xs : List C3) (bs : List Int) (h : Int) : Bool := balanced R xs && (decide ((bs.length : Int) = R) && (decide (0 ≤ h ∧ h ≤ 2000000) && stOk R xs (fillMs bs h xs) (List.replicate xs.length 0) bs))
end Go.Proofs.Ytaccigmkddomaaa.State
