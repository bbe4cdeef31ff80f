/- States: what the law of put leaves needs: a drawn state takes a small mass and its tracer, and refuses a tracer that is too great; the sums then. Plain lemmas.
   Conditions: none. -/
import Derived.Test.YtaccigmkddomaaaStDrawL
import Derived.Test.YtaccigmkddomaaaStPutI
import Derived.Test.YtaccigmkddomaaaPkDraw
set_option maxRecDepth 100000
namespace Go.Proofs.Ytaccigmkddomaaa.State
open Go.ChangeShapes Go.WideShapes Go.ChangeAt Go.RowKit Go.Proofs.Ytaccigmkddomaaa.Cell Go.Proofs.Ytaccigmkddomaaa.Mesh Go.Proofs.Ytaccigmkddomaaa.Law Go.Proofs.Ytaccigmkddomaaa.Ints

theorem sum_set {xs : List Int} {k : Nat} {x y : Int} (h : xs[k]? = some x) : (xs.set k y).sum = xs.sum - x + y := by
  induction xs generalizing k with
  | nil => simp at h
  | cons a xs ih =>
    cases k with
    | zero => simp at h; subst h; simp; omega
    | succ k => simp at h; rw [List.set_cons_succ, List.sum_cons, List.sum_cons, ih h]; omega
theorem DrawnS.len {R : Int} {n1 n2 : Nat} {xs : List C3} {ms ts bs : List Int} (hd : DrawnS R n1 n2 xs ms ts bs) : ms.length = n1 ∧ ts.length = n1 := by
  obtain ⟨-, ⟨h2, h3, -⟩, -⟩ := stOk_parts hd.ok
  exact ⟨h2.trans hd.l1, h3.trans (h2.trans hd.l1)⟩
theorem put_ok {R : Int} {n1 n2 : Nat} {xs : List C3} {ms ts bs : List Int} (hd : DrawnS R n1 n2 xs ms ts bs) {k : Nat} (hk : k < n1) {p q : Int} (hp : 0 ≤ p ∧ p ≤ 9999) (hq : 0 ≤ q ∧ q ≤ 1000 * p) : stOk R xs (ms.set k p) (ts.set k q) bs = true := by
  obtain ⟨h1, ⟨h2, h3, h4⟩, h5, h6, h7⟩ := stOk_parts hd.ok
  obtain ⟨l2, l3⟩ := hd.len
  obtain ⟨m, hm⟩ := getI l2 hk
  refine stOk_mk h1 ⟨by rw [List.length_set]; exact h2, by rw [List.length_set, List.length_set]; exact h3, h4⟩ ?_ h6 ?_
  · refine pairs_all (n := n1) (by rw [List.length_set]; exact l2) (by rw [List.length_set]; exact l3) fun j m' t' hj hm' ht' => ?_
    by_cases e : j = k
    · subst e
      rw [List.getElem?_set_self (by omega)] at hm' ht'
      cases hm'; cases ht'
      exact decide_eq_true ⟨hp.1, by omega, hq.1, hq.2⟩
    · rw [List.getElem?_set_ne (by omega)] at hm' ht'
      exact pairs_at h5 hm' ht'
  · rw [sum_set hm]
    have a := hd.small m (List.mem_of_getElem? hm)
    have b := (sum_bounds hd.small).2
    rw [l2] at b
    have c := hd.leaves
    have d : (n1 : Int) * 20000 ≤ 128 * 20000 := Int.mul_le_mul_of_nonneg_right (by omega) (by decide)
    omega
theorem put_bad {R : Int} {n1 n2 : Nat} {xs : List C3} {ms ts bs : List Int} (hd : DrawnS R n1 n2 xs ms ts bs) {k : Nat} (hk : k < n1) {p : Int} : stOk R xs (ms.set k p) (ts.set k (1000 * p + 1)) bs = false := by
  obtain ⟨l2, l3⟩ := hd.len
  cases h : stOk R xs (ms.set k p) (ts.set k (1000 * p + 1)) bs with
  | false => rfl
  | true =>
    have := of_decide_eq_true (pairs_at (stOk_parts h).2.2.1 (k := k) (m := p) (t := 1000 * p + 1) (List.getElem?_set_self (by omega)) (List.getElem?_set_self (by omega)))
    omega
theorem putB_ok {R : Int} {n1 n2 : Nat} {xs : List C3} {ms ts bs : List Int} (hd : DrawnS R n1 n2 xs ms ts bs) {k : Nat} (hk : k < n1) {p q : Int} (hp : 0 ≤ p ∧ p ≤ 9999) (hq : 0 ≤ q ∧ q ≤ 1000 * p) :
    putB R xs ms ts bs (k : Int) p q = true ∧ putM R xs ms ts bs (k : Int) p q = ms.set k p ∧ putT R xs ms ts bs (k : Int) p q = ts.set k q := by
  have h : putB R xs ms ts bs (k : Int) p q = true := by
    unfold putB
    rw [hd.ok, Int.toNat_natCast, put_ok hd hk hp hq, decide_eq_true (by rw [hd.len.1]; omega)]; rfl
  exact ⟨h, by unfold putM; rw [if_pos h, Int.toNat_natCast], by unfold putT; rw [if_pos h, Int.toNat_natCast]⟩
theorem putB_bad {R : Int} {n1 n2 : Nat} {xs : List C3} {ms ts bs : List Int} (hd : DrawnS R n1 n2 xs ms ts bs) {k : Nat} (hk : k < n1) {p : Int} :
    putB R xs ms ts bs (k : Int) p (1000 * p + 1) = false ∧ putM R xs ms ts bs (k : Int) p (1000 * p + 1) = ms ∧ putT R xs ms ts bs (k : Int) p (1000 * p + 1) = ts := by
  have h : putB R xs ms ts bs (k : Int) p (1000 * p + 1) = false := by
    unfold putB
    rw [Int.toNat_natCast, put_bad hd hk, Bool.and_false, Bool.and_false]
  exact ⟨h, by unfold putM; rw [if_neg (by simp [h])], by unfold putT; rw [if_neg (by simp [h])]⟩
theorem DrawnS.sizes {R : Int} {n1 n2 : Nat} {xs : List C3} {ms ts bs : List Int} (hd : DrawnS R n1 n2 xs ms ts bs) : 1 ≤ n2 ∧ n2 ≤ 8 ∧ (n2 : Int) = R := by
  obtain ⟨h1, ⟨-, -, h4⟩, -⟩ := stOk_parts hd.ok
  have hm : meshOk R xs = true := by unfold balanced at h1; simp only [Bool.and_eq_true] at h1; exact h1.1
  have hR : 1 ≤ R ∧ R ≤ 8 := by have := of_decide_eq_true hm; omega
  rw [hd.l2] at h4
  omega
theorem DrawnS.sums {R : Int} {n1 n2 : Nat} {xs : List C3} {ms ts bs : List Int} (hd : DrawnS R n1 n2 xs ms ts bs) : (0 ≤ ms.sum ∧ ms.sum ≤ 10000000) ∧ (0 ≤ ts.sum ∧ ts.sum ≤ 1280000000000) := by
  obtain ⟨-, ⟨-, h3, -⟩, h5, -, h7⟩ := stOk_parts hd.ok
  obtain ⟨l2, l3⟩ := hd.len
  have a := (sum_bounds hd.small).1
  have b := sum_bounds (fun t ht => tracer_bounds h5 h3 (t := t) ht)
  rw [l3] at b
  have c := hd.leaves
  have d : (n1 : Int) * 10000000000 ≤ 128 * 10000000000 := Int.mul_le_mul_of_nonneg_right (by omega) (by decide)
  exact ⟨⟨a, h7⟩, b.1, by omega⟩
theorem own_cellAt {w : World} {base n cap g : Nat} {xs : List Int} {j : Nat} {x : Int} (h : w.ownsRow base 3 1 (.slice (some ⟨g, 0, none⟩) n cap) n (vals xs)) (hx : xs[j]? = some x) (hj : j < n) : w.cell? ⟨g, j, none⟩ = some (.int .i64 x) := by
  obtain ⟨g', x', e, hx', hc, -⟩ := own_cellI h hj
  cases e
  rw [hx] at hx'
  cases hx'
  exact hc
/-- The first three drawn places. -/
def placesG (g : Nat) (p0 p1 p2 : Int) : Grp := ⟨fun W => W.cell? ⟨g, 0, none⟩ = some (.int .i64 p0) ∧ W.cell? ⟨g, 1, none⟩ = some (.int .i64 p1) ∧ W.cell? ⟨g, 2, none⟩ = some (.int .i64 p2), [g], fun W W' h hp =>
  ⟨(World.cell?_of_block (h g (by simp))).trans hp.1, (World.cell?_of_block (h g (by simp))).trans hp.2.1, (World.cell?_of_block (h g (by simp))).trans hp.2.2⟩⟩
theorem places_new {B : Nat} {w : World} {a : Option Addr} {len cap : Nat} (hlen : len ≤ 1048576) (hy : Draw.Bytes B w a len) (hB : B ≤ w.heap.size) :
    Calls Try.prog 12 #[.slice a len cap] w fun e w' => ∃ (g c : Nat) (p0 p1 p2 : Int), e = .returned (.slice (some ⟨g, 0, none⟩) 12 c) ∧ (0 ≤ p0 ∧ p0 ≤ 9999) ∧ (0 ≤ p1 ∧ p1 ≤ 9999) ∧ (0 ≤ p2 ∧ p2 ≤ 9999) ∧ (placesG g p0 p1 p2).P w' ∧ (w.heap.size ≤ g ∧ g < w'.heap.size) ∧ w.grownBy w' none := by
  have hy' : Draw.Bytes w.heap.size w a len := fun k hk => by
    obtain ⟨b, off, n, h1, h2, h3⟩ := hy k hk
    exact ⟨b, off, n, h1, by omega, h3⟩
  refine (Draw.draw_places hlen hy' (Nat.le_refl _)).mono ?_
  rintro e w' ⟨g, c, f, rfl, h1, h2, h3, h4⟩
  obtain ⟨a0, a1, a2⟩ := h3 0 (by omega)
  obtain ⟨b0, b1, b2⟩ := h3 1 (by omega)
  obtain ⟨c0, c1, c2⟩ := h3 2 (by omega)
  exact ⟨g, c, f 0, f 1, f 2, rfl, ⟨a0, a1⟩, ⟨b0, b1⟩, ⟨c0, c1⟩, ⟨a2, b2, c2⟩, ⟨h1, h2⟩, h4.os, h4.tape, h4.output, h4.size, fun k hk _ => h4.block k hk⟩
end Go.Proofs.Ytaccigmkddomaaa.State
