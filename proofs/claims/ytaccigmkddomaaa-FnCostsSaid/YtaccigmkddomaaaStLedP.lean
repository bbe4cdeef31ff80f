/- Borders and ledgers: what leaves the last leaf and enters the first one, as numbers: a valid state stays valid, its sums change by just that. Plain lemmas.
   Conditions: none. -/
import Derived.Test.YtaccigmkddomaaaStTrPure
set_option maxRecDepth 100000
namespace Go.Proofs.Ytaccigmkddomaaa.State
open Go.ChangeShapes Go.WideShapes Go.ChangeAt Go.RowKit Go.Proofs.Ytaccigmkddomaaa.Cell Go.Proofs.Ytaccigmkddomaaa.Mesh

/-- A border's numbers lie where they should. -/
def bordB (i s o : Int) : Bool := decide (0 ≤ i ∧ i ≤ 10000 ∧ 0 ≤ s ∧ s ≤ 1000 ∧ 0 ≤ o ∧ o ≤ 250)
/-- What leaves the last leaf, and what stays. -/
def outM (ms : List Int) (o : Int) : Int := atI ms (ms.length - 1) * o / 1000
def outT (ms ts : List Int) (o : Int) : Int := shareOf (atI ts (ms.length - 1)) (outM ms o) (atI ms (ms.length - 1))
def lessM (ms : List Int) (o : Int) : List Int := ms.set (ms.length - 1) (atI ms (ms.length - 1) - outM ms o)
def lessT (ms ts : List Int) (o : Int) : List Int := ts.set (ms.length - 1) (atI ts (ms.length - 1) - outT ms ts o)
/-- Whether there is room for what enters, and what is there then. -/
def roomB (ms : List Int) (i o : Int) : Bool := decide ((lessM ms o).sum + i ≤ 10000000)
def inM (ms : List Int) (i o : Int) : Int := if roomB ms i o = true then i else 0
def inT (ms : List Int) (i s o : Int) : Int := if roomB ms i o = true then i * s else 0
def moreM (ms : List Int) (i o : Int) : List Int := if roomB ms i o = true then (lessM ms o).set 0 (atI (lessM ms o) 0 + i) else lessM ms o
def moreT (ms ts : List Int) (i s o : Int) : List Int := if roomB ms i o = true then (lessT ms ts o).set 0 (atI (lessT ms ts o) 0 + i * s) else lessT ms ts o
/-- The whole answer, whatever the arguments. -/
def apB (R : Int) (xs : List C3) (ms ts bs : List Int) (i s o : Int) : Bool := stOk R xs ms ts bs && bordB i s o
def apM (R : Int) (xs : List C3) (ms ts bs : List Int) (i s o : Int) : List Int := if apB R xs ms ts bs i s o = true then moreM ms i o else ms
def apT (R : Int) (xs : List C3) (ms ts bs : List Int) (i s o : Int) : List Int := if apB R xs ms ts bs i s o = true then moreT ms ts i s o else ts
def apL0 (R : Int) (xs : List C3) (ms ts bs : List Int) (i s o : Int) : Int := if apB R xs ms ts bs i s o = true then inM ms i o else 0
def apL1 (R : Int) (xs : List C3) (ms ts bs : List Int) (i s o : Int) : Int := if apB R xs ms ts bs i s o = true then outM ms o else 0
def apL2 (R : Int) (xs : List C3) (ms ts bs : List Int) (i s o : Int) : Int := if apB R xs ms ts bs i s o = true then inT ms i s o else 0
def apL3 (R : Int) (xs : List C3) (ms ts bs : List Int) (i s o : Int) : Int := if apB R xs ms ts bs i s o = true then outT ms ts o else 0

theorem sum_put {xs : List Int} {k : Nat} (y : Int) (h : k < xs.length) : (xs.set k y).sum = xs.sum - atI xs k + y := by
  induction xs generalizing k with
  | nil => simp at h
  | cons a xs ih =>
    cases k with
    | zero => simp [atI]; omega
    | succ k =>
      rw [List.set_cons_succ, List.sum_cons, List.sum_cons, ih (by simpa using h), show atI (a :: xs) (k + 1) = atI xs k from rfl]
      omega
theorem at_put_self {xs : List Int} {k : Nat} (y : Int) (h : k < xs.length) : atI (xs.set k y) k = y := by unfold atI; rw [List.getElem?_set_self h]; rfl
theorem at_put_ne {xs : List Int} {k j : Nat} (y : Int) (h : k ≠ j) : atI (xs.set k y) j = atI xs j := by unfold atI; rw [List.getElem?_set_ne h]
theorem at_get {xs : List Int} {k : Nat} (h : k < xs.length) : xs[k]? = some (atI xs k) := by
  unfold atI; rw [List.getElem?_eq_getElem h]; rfl
/-- A number of a list without negative ones is at most the sum. -/
theorem at_le_sum {xs : List Int} (h : ∀ x ∈ xs, 0 ≤ x) (k : Nat) : atI xs k ≤ xs.sum := by
  induction xs generalizing k with
  | nil => simp [atI]
  | cons a xs ih =>
    have h0 : 0 ≤ a := h a (List.mem_cons_self ..)
    have hs : 0 ≤ xs.sum := by
      have := ih (fun x hx => h x (List.mem_cons_of_mem _ hx)) xs.length
      unfold atI at this
      rw [List.getElem?_eq_none (Nat.le_refl _)] at this
      simpa using this
    rw [List.sum_cons]
    cases k with
    | zero => simp [atI]; omega
    | succ k =>
      have := ih (fun x hx => h x (List.mem_cons_of_mem _ hx)) k
      rw [show atI (a :: xs) (k + 1) = atI xs k from rfl]
      omega
/-- What a valid state has. -/
theorem st_sizes {R : Int} {xs : List C3} {ms ts bs : List Int} (h : stOk R xs ms ts bs = true) : 1 ≤ ms.length ∧ ms.length ≤ 128 ∧ ts.length = ms.length ∧ xs.length = ms.length := by
  obtain ⟨h1, ⟨h2, h3, -⟩, -⟩ := stOk_parts h
  have hm : meshOk R xs = true := by unfold balanced at h1; simp only [Bool.and_eq_true] at h1; exact h1.1
  have := mesh_parts hm
  omega
theorem st_at {R : Int} {xs : List C3} {ms ts bs : List Int} (h : stOk R xs ms ts bs = true) {k : Nat} (hk : k < ms.length) :
    0 ≤ atI ms k ∧ atI ms k ≤ ms.sum ∧ ms.sum ≤ 10000000 ∧ 0 ≤ atI ts k ∧ atI ts k ≤ 1000 * atI ms k := by
  obtain ⟨-, ⟨-, h3, -⟩, h5, -, h7⟩ := stOk_parts h
  obtain ⟨a, b, c, d⟩ := of_decide_eq_true (pairs_at h5 (at_get hk) (at_get (xs := ts) (by omega)))
  exact ⟨a, at_le_sum (fun x hx => (mass_bounds h5 h3 hx).1) k, h7, c, d⟩
/-- A leaf's content exchanged: valid, if the new one is and the sum is not too great. -/
theorem st_put {R : Int} {xs : List C3} {ms ts bs : List Int} (h : stOk R xs ms ts bs = true) {k : Nat} {m t : Int} (hk : k < ms.length) (hm : 0 ≤ m) (ht : 0 ≤ t ∧ t ≤ 1000 * m) (hs : ms.sum - atI ms k + m ≤ 10000000) : stOk R xs (ms.set k m) (ts.set k t) bs = true := by
  obtain ⟨h1, ⟨h2, h3, h4⟩, h5, h6, h7⟩ := stOk_parts h
  have hmm : m ≤ 10000000 := by
    have := (st_at h hk).2.1
    omega
  refine stOk_mk h1 ⟨by rw [List.length_set]; exact h2, by rw [List.length_set, List.length_set]; exact h3, h4⟩ ?_ h6 (by rw [sum_put m hk]; exact hs)
  refine pairs_all (n := ms.length) (by rw [List.length_set]) (by rw [List.length_set]; exact h3) fun j m' t' hj hm' ht' => ?_
  by_cases e : k = j
  · subst e
    rw [List.getElem?_set_self (by omega)] at hm' ht'
    cases hm'; cases ht'
    exact decide_eq_true ⟨hm, hmm, ht⟩
  · rw [List.getElem?_set_ne e] at hm' ht'
    exact pairs_at h5 hm' ht'
section
variable {R : Int} {xs : List C3} {ms ts bs : List Int} {i s o : Int}
theorem out_facts (h : stOk R xs ms ts bs = true) (hb : bordB i s o = true) :
    (0 ≤ outM ms o ∧ 4 * outM ms o ≤ atI ms (ms.length - 1)) ∧ (0 ≤ outT ms ts o ∧ outT ms ts o ≤ atI ts (ms.length - 1) ∧ atI ts (ms.length - 1) - outT ms ts o ≤ 1000 * (atI ms (ms.length - 1) - outM ms o)) ∧ (0 ≤ atI ms (ms.length - 1) * o ∧ atI ms (ms.length - 1) * o ≤ 2500000000) := by
  obtain ⟨-, -, -, -, ho0, ho1⟩ := of_decide_eq_true hb
  have hl := st_sizes h
  obtain ⟨a1, a2, a3, a4, a5⟩ := st_at h (k := ms.length - 1) (by omega)
  have p0 : 0 ≤ atI ms (ms.length - 1) * o := Int.mul_nonneg a1 ho0
  have p1 : atI ms (ms.length - 1) * o ≤ atI ms (ms.length - 1) * 250 := Int.mul_le_mul_of_nonneg_left ho1 a1
  have q0 : 0 ≤ outM ms o ∧ 4 * outM ms o ≤ atI ms (ms.length - 1) := by unfold outM; omega
  refine ⟨q0, ?_, p0, by omega⟩
  unfold outT
  by_cases hw : 1 ≤ atI ms (ms.length - 1)
  · obtain ⟨-, s1, -, s3, s4⟩ := share_bounds (t := atI ts (ms.length - 1)) (p := outM ms o) hw (by omega) q0.1 (by omega) a4 a5
    exact ⟨s1, s3, s4⟩
  · rw [share_none (by omega)]
    omega
theorem less_ok (h : stOk R xs ms ts bs = true) (hb : bordB i s o = true) : stOk R xs (lessM ms o) (lessT ms ts o) bs = true := by
  obtain ⟨q, t, -⟩ := out_facts h hb
  have hl := st_sizes h
  have a := (st_at h (k := ms.length - 1) (by omega)).2.2.1
  exact st_put h (by omega) (by omega) (by omega) (by omega)
theorem less_len : (lessM ms o).length = ms.length ∧ (lessT ms ts o).length = ts.length := by unfold lessM lessT; rw [List.length_set, List.length_set]; exact ⟨rfl, rfl⟩
theorem less_sum (h : stOk R xs ms ts bs = true) : (lessM ms o).sum = ms.sum - outM ms o ∧ (lessT ms ts o).sum = ts.sum - outT ms ts o := by
  have hl := st_sizes h
  unfold lessM lessT
  rw [sum_put _ (by omega), sum_put _ (by omega)]
  omega
/-- The first leaf's bounds, as what enters finds it. -/
theorem first_at (h : stOk R xs ms ts bs = true) (hb : bordB i s o = true) :
    (0 ≤ atI (lessM ms o) 0 ∧ atI (lessM ms o) 0 ≤ (lessM ms o).sum ∧ (lessM ms o).sum ≤ 10000000) ∧ (0 ≤ atI (lessT ms ts o) 0 ∧ atI (lessT ms ts o) 0 ≤ 1000 * atI (lessM ms o) 0) ∧ (0 ≤ i * s ∧ i * s ≤ 1000 * i) := by
  obtain ⟨hi0, hi1, hs0, hs1, -, -⟩ := of_decide_eq_true hb
  have hl := st_sizes (less_ok h hb)
  obtain ⟨a1, a2, a3, a4, a5⟩ := st_at (less_ok h hb) (k := 0) (by omega)
  have := Int.mul_le_mul_of_nonneg_left hs1 hi0
  exact ⟨⟨a1, a2, a3⟩, ⟨a4, a5⟩, Int.mul_nonneg hi0 hs0, by omega⟩
theorem more_ok (h : stOk R xs ms ts bs = true) (hb : bordB i s o = true) : stOk R xs (moreM ms i o) (moreT ms ts i s o) bs = true := by
  have hk := less_ok h hb
  obtain ⟨⟨a1, a2, a3⟩, ⟨b1, b2⟩, c1, c2⟩ := first_at h hb
  obtain ⟨hi0, hi1, -⟩ := of_decide_eq_true hb
  have hl := st_sizes hk
  unfold moreM moreT
  by_cases hr : roomB ms i o = true
  · have hr' : (lessM ms o).sum + i ≤ 10000000 := of_decide_eq_true hr
    rw [if_pos hr, if_pos hr]
    exact st_put hk (by omega) (by omega) (by omega) (by omega)
  · rw [if_neg hr, if_neg hr]; exact hk
theorem more_len : (moreM ms i o).length = ms.length ∧ (moreT ms ts i s o).length = ts.length := by
  unfold moreM moreT
  obtain ⟨l1, l2⟩ := less_len (ms := ms) (ts := ts) (o := o)
  by_cases hr : roomB ms i o = true
  · rw [if_pos hr, if_pos hr, List.length_set, List.length_set]; exact ⟨l1, l2⟩
  · rw [if_neg hr, if_neg hr]; exact ⟨l1, l2⟩
theorem more_sum (h : stOk R xs ms ts bs = true) (hb : bordB i s o = true) : (moreM ms i o).sum = ms.sum + inM ms i o - outM ms o ∧ (moreT ms ts i s o).sum = ts.sum + inT ms i s o - outT ms ts o := by
  have hk := less_ok h hb
  have hl := st_sizes hk
  obtain ⟨s1, s2⟩ := less_sum (o := o) h
  unfold moreM moreT inM inT
  by_cases hr : roomB ms i o = true
  · rw [if_pos hr, if_pos hr, if_pos hr, if_pos hr, sum_put _ (by omega), sum_put _ (by omega)]
    omega
  · rw [if_neg hr, if_neg hr, if_neg hr, if_neg hr]; omega
theorem ap_lens : (apM R xs ms ts bs i s o).length = ms.length ∧ (apT R xs ms ts bs i s o).length = ts.length := by
  unfold apM apT
  by_cases h : apB R xs ms ts bs i s o = true
  · rw [if_pos h, if_pos h]; exact more_len
  · rw [if_neg h, if_neg h]; exact ⟨rfl, rfl⟩
end
/-- A ledger explains the change of two sums, which wrap around. -/
def holdB (sA sB : Bool) (u v y z p q r s : Int) : Bool := sA && (sB && ((v == IntKind.i64.wrap (IntKind.i64.wrap (u + p) - q)) && (z == IntKind.i64.wrap (IntKind.i64.wrap (y + r) - s))))
end Go.Proofs.Ytaccigmkddomaaa.State
