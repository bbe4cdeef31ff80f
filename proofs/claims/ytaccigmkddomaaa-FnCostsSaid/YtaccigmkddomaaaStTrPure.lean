/- States: a leaf's mass and tracer shared out among its children, those of two leaves put together, the state balanced again: what they are, that they keep the totals and the bounds. Plain lemmas.
   Conditions: none. -/
import Derived.Test.YtaccigmkddomaaaPkPure
import Derived.Test.YtaccigmkddomaaaMChgAll
set_option maxRecDepth 100000
namespace Go.Proofs.Ytaccigmkddomaaa.State
open Go.ChangeShapes Go.WideShapes Go.ChangeAt Go.RowKit Go.Proofs.Ytaccigmkddomaaa.Cell Go.Proofs.Ytaccigmkddomaaa.Mesh

/-- Two numbers in the place of one. -/
def two (xs : List Int) (k : Nat) (a b : Int) : List Int := xs.take k ++ [a, b] ++ xs.drop (k + 1)
/-- One number in the place of two. -/
def one (xs : List Int) (k : Nat) (a : Int) : List Int := xs.take k ++ [a] ++ xs.drop (k + 2)
def atI (xs : List Int) (k : Nat) : Int := (xs[k]?).getD 0
theorem atI_of {xs : List Int} {k : Nat} {x : Int} (h : xs[k]? = some x) : atI xs k = x := by simp [atI, h]
theorem cutI {xs : List Int} {k : Nat} {x : Int} (h : xs[k]? = some x) : xs = xs.take k ++ [x] ++ xs.drop (k + 1) := by
  rw [← take_snocI h, List.take_append_drop]
theorem cutI2 {xs : List Int} {k : Nat} {x y : Int} (h : xs[k]? = some x) (h' : xs[k + 1]? = some y) : xs = xs.take k ++ [x, y] ++ xs.drop (k + 2) := by
  have e : xs.take (k + 2) = xs.take k ++ [x, y] := by rw [take_snocI (k := k + 1) h', take_snocI h, List.append_assoc]; rfl
  rw [← e, List.take_append_drop]
theorem two_len {xs : List Int} {k : Nat} {a b : Int} (h : k < xs.length) : (two xs k a b).length = xs.length + 1 := by
  unfold two; simp; omega
theorem one_len {xs : List Int} {k : Nat} {a : Int} (h : k + 1 < xs.length) : (one xs k a).length + 1 = xs.length := by
  unfold one; simp; omega
theorem two_sum {xs : List Int} {k : Nat} {x a b : Int} (h : xs[k]? = some x) (hab : a + b = x) : (two xs k a b).sum = xs.sum := by
  have e := congrArg List.sum (cutI h)
  unfold two
  simp only [List.sum_append, List.sum_cons, List.sum_nil] at e ⊢
  omega
theorem one_sum {xs : List Int} {k : Nat} {x y : Int} (h : xs[k]? = some x) (h' : xs[k + 1]? = some y) : (one xs k (x + y)).sum = xs.sum := by
  have e := congrArg List.sum (cutI2 h h')
  unfold one
  simp only [List.sum_append, List.sum_cons, List.sum_nil] at e ⊢
  omega
theorem two_at {xs : List Int} {k : Nat} {a b : Int} (hk : k < xs.length) : (two xs k a b)[k]? = some a ∧ (two xs k a b)[k + 1]? = some b ∧ (∀ j, j < k → (two xs k a b)[j]? = xs[j]?) ∧ ∀ j, k < j → (two xs k a b)[j + 1]? = xs[j]? := by
  have hl : (xs.take k).length = k := by rw [List.length_take]; omega
  unfold two
  rw [List.append_assoc]
  refine ⟨?_, ?_, fun j hj => ?_, fun j hj => ?_⟩
  · rw [List.getElem?_append_right (by omega), hl, Nat.sub_self]; rfl
  · rw [List.getElem?_append_right (by omega), hl, show k + 1 - k = 1 by omega]; rfl
  · rw [List.getElem?_append_left (by omega), List.getElem?_take_of_lt hj]
  · rw [List.getElem?_append_right (by omega), hl, List.getElem?_append_right (by simp; omega), List.getElem?_drop]
    congr 1
    simp
    omega
theorem one_at {xs : List Int} {k : Nat} {a : Int} (hk : k + 1 < xs.length) : (one xs k a)[k]? = some a ∧ (∀ j, j < k → (one xs k a)[j]? = xs[j]?) ∧ ∀ j, k < j → (one xs k a)[j]? = xs[j + 1]? := by
  have hl : (xs.take k).length = k := by rw [List.length_take]; omega
  unfold one
  rw [List.append_assoc]
  refine ⟨?_, fun j hj => ?_, fun j hj => ?_⟩
  · rw [List.getElem?_append_right (by omega), hl, Nat.sub_self]; rfl
  · rw [List.getElem?_append_left (by omega), List.getElem?_take_of_lt hj]
  · rw [List.getElem?_append_right (by omega), hl, List.getElem?_append_right (by simp; omega), List.getElem?_drop]
    congr 1
    simp
    omega
theorem one_two {xs : List Int} {k : Nat} {x a b : Int} (h : xs[k]? = some x) (hab : a + b = x) : one (two xs k a b) k (a + b) = xs := by
  have hk := (List.getElem?_eq_some_iff.1 h).1
  obtain ⟨t0, t1, t2, t3⟩ := two_at (a := a) (b := b) hk
  obtain ⟨o0, o1, o2⟩ := one_at (xs := two xs k a b) (a := a + b) (show k + 1 < (two xs k a b).length by rw [two_len hk]; omega)
  apply List.ext_getElem?
  intro j
  rcases Nat.lt_trichotomy j k with hj | rfl | hj
  · rw [o1 j hj, t2 j hj]
  · rw [o0, hab, h]
  · rw [o2 j hj, t3 j hj]

/-- The tracer that belongs to a part of a mass. -/
def shareOf (t p w : Int) : Int := if 1 ≤ w ∧ w ≤ 10000000 ∧ 0 ≤ p ∧ p ≤ w ∧ 0 ≤ t ∧ t ≤ 1000 * w then t * p / w else 0
/-- The left child's mass and tracer; what is left is the right one's. -/
def leftM (m : Int) : Int := m - m / 2
def leftT (m t : Int) : Int := shareOf t (leftM m) m
theorem leftM_bounds {m : Int} (h : 0 ≤ m) : 0 ≤ leftM m ∧ leftM m ≤ m ∧ m - leftM m = m / 2 := by unfold leftM; omega
theorem share_bounds {t p w : Int} (hw : 1 ≤ w) (hw' : w ≤ 10000000) (hp : 0 ≤ p) (hp' : p ≤ w) (ht : 0 ≤ t) (ht' : t ≤ 1000 * w) :
    shareOf t p w = t * p / w ∧ 0 ≤ shareOf t p w ∧ shareOf t p w ≤ 1000 * p ∧ shareOf t p w ≤ t ∧ t - shareOf t p w ≤ 1000 * (w - p) := by
  have e : shareOf t p w = t * p / w := if_pos ⟨hw, hw', hp, hp', ht, ht'⟩
  have h0 : 0 ≤ t * p := Int.mul_nonneg ht hp
  have q0 : 0 ≤ t * p / w := Int.ediv_nonneg h0 (by omega)
  have q1 : t * p / w ≤ 1000 * p := Int.ediv_le_of_le_mul (by omega) (by
    have := Int.mul_le_mul_of_nonneg_right ht' hp
    rw [show 1000 * p * w = 1000 * w * p by rw [Int.mul_assoc, Int.mul_comm p w, ← Int.mul_assoc]]
    exact this)
  have q2 : t * p / w ≤ t := Int.ediv_le_of_le_mul (by omega) (Int.mul_le_mul_of_nonneg_left hp' ht)
  refine ⟨e, by rw [e]; exact q0, by rw [e]; exact q1, by rw [e]; exact q2, ?_⟩
  rw [e]
  have hlt : t * p < (t * p / w + 1) * w := Int.lt_mul_of_ediv_lt (by omega) (by omega)
  rcases Int.lt_or_le (1000 * (w - p)) (t - t * p / w) with hc | hc
  · exfalso
    have h1 : (1000 * (w - p) + 1) * w ≤ (t - t * p / w) * w := Int.mul_le_mul_of_nonneg_right (by omega) (by omega)
    have h2 : t * (w - p) ≤ 1000 * w * (w - p) := Int.mul_le_mul_of_nonneg_right ht' (by omega)
    rw [Int.mul_sub] at h2
    rw [Int.add_mul, Int.one_mul] at h1 hlt
    rw [Int.sub_mul] at h1
    rw [show 1000 * w * (w - p) = 1000 * (w - p) * w by rw [Int.mul_assoc, Int.mul_comm w, ← Int.mul_assoc]] at h2
    omega
  · exact hc
theorem share_none {t p w : Int} (hw : w < 1) : shareOf t p w = 0 := if_neg (by omega)
/-- Both children's contents keep the bounds. -/
theorem mass_split {m t : Int} (h : massOk m t = true) : massOk (leftM m) (leftT m t) = true ∧ massOk (m - leftM m) (t - leftT m t) = true ∧ 0 ≤ leftT m t ∧ leftT m t ≤ t := by
  obtain ⟨h1, h2, h3, h4⟩ : 0 ≤ m ∧ m ≤ 10000000 ∧ 0 ≤ t ∧ t ≤ 1000 * m := of_decide_eq_true h
  obtain ⟨b1, b2, -⟩ := leftM_bounds h1
  unfold leftT
  by_cases hm : m < 1
  · obtain rfl : m = 0 := by omega
    obtain rfl : t = 0 := by omega
    decide
  · obtain ⟨-, s1, s2, s3, s4⟩ := share_bounds (t := t) (p := leftM m) (w := m) (by omega) h2 b1 b2 h3 h4
    refine ⟨decide_eq_true ?_, decide_eq_true ?_, s1, s3⟩ <;> omega

def splitM (ms : List Int) (k : Nat) : List Int := two ms k (leftM (atI ms k)) (atI ms k - leftM (atI ms k))
def splitT (ms ts : List Int) (k : Nat) : List Int := two ts k (leftT (atI ms k) (atI ts k)) (atI ts k - leftT (atI ms k) (atI ts k))
def joinI (xs : List Int) (k : Nat) : List Int := one xs k (atI xs k + atI xs (k + 1))
theorem join_split {ms : List Int} {k : Nat} (h : k < ms.length) : joinI (splitM ms k) k = ms := by
  have hx : ms[k]? = some ms[k] := List.getElem?_eq_getElem h
  unfold joinI splitM
  obtain ⟨t0, t1, -, -⟩ := two_at (a := leftM (atI ms k)) (b := atI ms k - leftM (atI ms k)) h
  rw [atI_of t0, atI_of t1]
  exact one_two hx (by rw [atI_of hx]; omega)
theorem join_splitT {ms ts : List Int} {k : Nat} (h : k < ts.length) : joinI (splitT ms ts k) k = ts := by
  have hx : ts[k]? = some ts[k] := List.getElem?_eq_getElem h
  unfold joinI splitT
  obtain ⟨t0, t1, -, -⟩ := two_at (a := leftT (atI ms k) (atI ts k)) (b := atI ts k - leftT (atI ms k) (atI ts k)) h
  rw [atI_of t0, atI_of t1]
  exact one_two hx (by rw [atI_of hx]; omega)
theorem splitM_sum {ms : List Int} {k : Nat} (h : k < ms.length) : (splitM ms k).sum = ms.sum :=
  two_sum (List.getElem?_eq_getElem h) (by rw [atI_of (List.getElem?_eq_getElem h)]; omega)
theorem splitT_sum {ms ts : List Int} {k : Nat} (h : k < ts.length) : (splitT ms ts k).sum = ts.sum :=
  two_sum (List.getElem?_eq_getElem h) (by rw [atI_of (List.getElem?_eq_getElem h)]; omega)
theorem join_sum {xs : List Int} {k : Nat} (h : k + 1 < xs.length) : (joinI xs k).sum = xs.sum := by
  have h0 : xs[k]? = some xs[k] := List.getElem?_eq_getElem (by omega)
  have h1 : xs[k + 1]? = some xs[k + 1] := List.getElem?_eq_getElem h
  unfold joinI
  rw [atI_of h0, atI_of h1]
  exact one_sum h0 h1
theorem pairs_two {ms ts : List Int} {k : Nat} {a b c d : Int} (hl : ts.length = ms.length) (hk : k < ms.length) (h : pairsOk ms ts = true) (h1 : massOk a c = true) (h2 : massOk b d = true) : pairsOk (two ms k a b) (two ts k c d) = true := by
  obtain ⟨m0, m1, m2, m3⟩ := two_at (a := a) (b := b) hk
  obtain ⟨t0, t1, t2, t3⟩ := two_at (xs := ts) (a := c) (b := d) (by omega : k < ts.length)
  refine pairs_all (two_len hk) ((two_len (by omega)).trans (by omega)) fun j m t _ hm ht => ?_
  rcases Nat.lt_trichotomy j k with hj | rfl | hj
  · rw [m2 j hj] at hm; rw [t2 j hj] at ht; exact pairs_at h hm ht
  · rw [m0] at hm; rw [t0] at ht; cases hm; cases ht; exact h1
  · by_cases e : j = k + 1
    · subst e; rw [m1] at hm; rw [t1] at ht; cases hm; cases ht; exact h2
    · obtain ⟨j, rfl⟩ : ∃ i, j = i + 1 := ⟨j - 1, by omega⟩
      rw [m3 j (by omega)] at hm; rw [t3 j (by omega)] at ht; exact pairs_at h hm ht
theorem pairs_one {ms ts : List Int} {k : Nat} {a c : Int} (hl : ts.length = ms.length) (hk : k + 1 < ms.length) (h : pairsOk ms ts = true) (h1 : massOk a c = true) : pairsOk (one ms k a) (one ts k c) = true := by
  obtain ⟨m0, m1, m2⟩ := one_at (a := a) hk
  obtain ⟨t0, t1, t2⟩ := one_at (xs := ts) (a := c) (by omega : k + 1 < ts.length)
  refine pairs_all (n := ms.length - 1) (by have := one_len (a := a) hk; omega) (by have := one_len (xs := ts) (a := c) (k := k) (by omega); omega) fun j m t _ hm ht => ?_
  rcases Nat.lt_trichotomy j k with hj | rfl | hj
  · rw [m1 j hj] at hm; rw [t1 j hj] at ht; exact pairs_at h hm ht
  · rw [m0] at hm; rw [t0] at ht; cases hm; cases ht; exact h1
  · rw [m2 j hj] at hm; rw [t2 j hj] at ht; exact pairs_at h hm ht

/-- A state that is valid but for the balance of its mesh. -/
structure PreS (R : Int) (xs : List C3) (ms ts bs : List Int) : Prop where
  mesh : meshOk R xs = true
  lm : ms.length = xs.length
  lt : ts.length = xs.length
  lb : (bs.length : Int) = R
  prs : pairsOk ms ts = true
  bed : bedsOk bs = true
  sum : ms.sum ≤ 10000000
theorem pre_of {R : Int} {xs : List C3} {ms ts bs : List Int} (h : stOk R xs ms ts bs = true) : PreS R xs ms ts bs ∧ firstGap xs < 0 := by
  obtain ⟨h1, ⟨h2, h3, h4⟩, h5, h6, h7⟩ := stOk_parts h
  unfold balanced at h1
  simp only [Bool.and_eq_true, decide_eq_true_eq] at h1
  exact ⟨⟨h1.1, h2, by omega, h4, h5, h6, h7⟩, h1.2⟩
theorem PreS.ok {R : Int} {xs : List C3} {ms ts bs : List Int} (h : PreS R xs ms ts bs) (hg : firstGap xs < 0) : stOk R xs ms ts bs = true := by
  refine stOk_mk ?_ ⟨h.lm, by rw [h.lt, h.lm], h.lb⟩ h.prs h.bed h.sum
  unfold balanced
  simp only [Bool.and_eq_true, decide_eq_true_eq]
  exact ⟨h.mesh, hg⟩
theorem PreS.at_ {R : Int} {xs : List C3} {ms ts bs : List Int} (h : PreS R xs ms ts bs) {k : Nat} (hk : k < xs.length) : ∃ m t, ms[k]? = some m ∧ ts[k]? = some t ∧ massOk m t = true := by
  have h1 := h.lm; have h2 := h.lt
  exact ⟨_, _, List.getElem?_eq_getElem (by omega), List.getElem?_eq_getElem (by omega), pairs_at h.prs (List.getElem?_eq_getElem (by omega)) (List.getElem?_eq_getElem (by omega))⟩
theorem PreS.split {R : Int} {xs : List C3} {ms ts bs : List Int} {k : Nat} {x : C3} (h : PreS R xs ms ts bs) (hx : xs[k]? = some x) (hl : x.2.1 < 4) : PreS R (split2 xs k) (splitM ms k) (splitT ms ts k) bs := by
  have hk := (List.getElem?_eq_some_iff.1 hx).1
  have h1 := h.lm; have h2 := h.lt
  obtain ⟨m, t, hm, ht, ho⟩ := h.at_ hk
  obtain ⟨o1, o2, -, -⟩ := mass_split ho
  refine ⟨meshOk_split hx hl h.mesh, ?_, ?_, h.lb, ?_, h.bed, by rw [splitM_sum (by omega)]; exact h.sum⟩
  · rw [split2_len hx]; unfold splitM; rw [two_len (by omega), h1]
  · rw [split2_len hx]; unfold splitT; rw [two_len (by omega), h2]
  · unfold splitM splitT; rw [atI_of hm, atI_of ht]
    exact pairs_two (by omega) (by omega) h.prs o1 o2
theorem sum_at2 {xs : List Int} {k : Nat} {x y : Int} (h0 : ∀ x ∈ xs, 0 ≤ x) (h : xs[k]? = some x) (h' : xs[k + 1]? = some y) : x + y ≤ xs.sum := by
  have e := congrArg List.sum (cutI2 h h')
  simp only [List.sum_append, List.sum_cons, List.sum_nil] at e
  have q : ∀ ys : List Int, (∀ x ∈ ys, 0 ≤ x) → 0 ≤ ys.sum := fun ys => by
    induction ys with
    | nil => intro _; simp
    | cons z zs ih => intro hz; rw [List.sum_cons]; have := ih fun w hw => hz w (List.mem_cons_of_mem _ hw); have := hz z (List.mem_cons_self ..); omega
  have := q (xs.take k) fun x hx => h0 x (List.mem_of_mem_take hx)
  have := q (xs.drop (k + 2)) fun x hx => h0 x (List.mem_of_mem_drop hx)
  omega
theorem PreS.join {R : Int} {xs : List C3} {ms ts bs : List Int} {k : Nat} {x y : C3} (h : PreS R xs ms ts bs) (hx : xs[k]? = some x) (hy : xs[k + 1]? = some y) (hs : sibOf x y = true) : PreS R (merge2 xs k) (joinI ms k) (joinI ts k) bs ∧ atI ms k + atI ms (k + 1) ≤ 10000000 := by
  have hk := (List.getElem?_eq_some_iff.1 hy).1
  have h1 := h.lm; have h2 := h.lt
  obtain ⟨m, t, hm, ht, ho⟩ := h.at_ (k := k) (by omega)
  obtain ⟨m', t', hm', ht', ho'⟩ := h.at_ (k := k + 1) hk
  obtain ⟨p1, p2, p3, p4⟩ : 0 ≤ m ∧ m ≤ 10000000 ∧ 0 ≤ t ∧ t ≤ 1000 * m := of_decide_eq_true ho
  obtain ⟨q1, q2, q3, q4⟩ : 0 ≤ m' ∧ m' ≤ 10000000 ∧ 0 ≤ t' ∧ t' ≤ 1000 * m' := of_decide_eq_true ho'
  have hb := sum_at2 (fun x hx => (mass_bounds h.prs (by omega) hx).1) hm hm'
  have hsum := h.sum
  have hml := merge_len hx hy
  refine ⟨⟨meshOk_merge hx hy hs h.mesh, ?_, ?_, h.lb, ?_, h.bed, by rw [join_sum (by omega)]; exact h.sum⟩, by rw [atI_of hm, atI_of hm']; omega⟩
  · have := one_len (xs := ms) (k := k) (a := atI ms k + atI ms (k + 1)) (by omega)
    unfold joinI; omega
  · have := one_len (xs := ts) (k := k) (a := atI ts k + atI ts (k + 1)) (by omega)
    unfold joinI; omega
  · unfold joinI
    rw [atI_of hm, atI_of hm', atI_of ht, atI_of ht']
    exact pairs_one (by omega) (by omega) h.prs (decide_eq_true (by omega))

/-- RefineState's answer. -/
def refB (R : Int) (xs : List C3) (ms ts bs : List Int) (i : Int) : Bool := stOk R xs ms ts bs && (mayRef R xs i && decide (firstGap (split2 xs i.toNat) < 0))
def refX (R : Int) (xs : List C3) (ms ts bs : List Int) (i : Int) : List C3 := if refB R xs ms ts bs i then split2 xs i.toNat else xs
def refM (R : Int) (xs : List C3) (ms ts bs : List Int) (i : Int) : List Int := if refB R xs ms ts bs i then splitM ms i.toNat else ms
def refT (R : Int) (xs : List C3) (ms ts bs : List Int) (i : Int) : List Int := if refB R xs ms ts bs i then splitT ms ts i.toNat else ts
/-- CoarsenState's answer. -/
def coB (R : Int) (xs : List C3) (ms ts bs : List Int) (i : Int) : Bool := stOk R xs ms ts bs && mayCo R xs i
def coX (R : Int) (xs : List C3) (ms ts bs : List Int) (i : Int) : List C3 := if coB R xs ms ts bs i then merge2 xs i.toNat else xs
def coM (R : Int) (xs : List C3) (ms ts bs : List Int) (i : Int) : List Int := if coB R xs ms ts bs i then joinI ms i.toNat else ms
def coT (R : Int) (xs : List C3) (ms ts bs : List Int) (i : Int) : List Int := if coB R xs ms ts bs i then joinI ts i.toNat else ts

/-- Leaves, masses, tracers. -/
abbrev Tr := List C3 × List Int × List Int
def cutAt (s : Tr) (k : Nat) : Tr := (split2 s.1 k, splitM s.2.1 k, splitT s.2.1 s.2.2 k)
def stepS (s : Tr) : Tr := cutAt s (coarser s.1 (firstGap s.1).toNat)
def balS : Nat → Tr → Tr
  | 0, s => s
  | f + 1, s => if firstGap s.1 < 0 then s else balS f (stepS s)
theorem balS_done {s : Tr} (h : firstGap s.1 < 0) : ∀ f, balS f s = s
  | 0 => rfl
  | _ + 1 => if_pos h
theorem balS_next {s : Tr} (h : ¬ firstGap s.1 < 0) (f : Nat) : balS (f + 1) s = balS f (stepS s) := if_neg h
/-- One step of the balancing. -/
theorem step_pre {R : Int} {s : Tr} {bs : List Int} (h : PreS R s.1 s.2.1 s.2.2 bs) (hg : ¬ firstGap s.1 < 0) : PreS R (stepS s).1 (stepS s).2.1 (stepS s).2.2 bs ∧ (stepS s).1.length = s.1.length + 1 ∧ (stepS s).2.1.sum = s.2.1.sum ∧ (stepS s).2.2.sum = s.2.2.sum := by
  rcases first_cases s.1 with ⟨e, -⟩ | ⟨k, e, hk, -⟩
  · omega
  · obtain ⟨x, hx, hl⟩ := coarser_ok hk (mesh_parts h.mesh).1
    have he : (firstGap s.1).toNat = k := by omega
    have hkl := (List.getElem?_eq_some_iff.1 hx).1
    have h1 := h.lm; have h2 := h.lt
    unfold stepS cutAt
    rw [he]
    exact ⟨h.split hx (by omega), split2_len hx, splitM_sum (by omega), splitT_sum (by omega)⟩
theorem balS_ok {R : Int} {bs : List Int} : ∀ (f : Nat) (s : Tr), PreS R s.1 s.2.1 s.2.2 bs → 128 ≤ f + s.1.length → PreS R (balS f s).1 (balS f s).2.1 (balS f s).2.2 bs ∧ firstGap (balS f s).1 < 0 ∧ (balS f s).2.1.sum = s.2.1.sum ∧ (balS f s).2.2.sum = s.2.2.sum
  | 0, s, h, hf => by
    refine ⟨h, ?_, rfl, rfl⟩
    by_cases hg : firstGap s.1 < 0
    · exact hg
    · obtain ⟨q1, q2, -⟩ := step_pre h hg
      have := (mesh_parts q1.mesh).2.2
      omega
  | f + 1, s, h, hf => by
    by_cases hg : firstGap s.1 < 0
    · rw [balS_done hg]; exact ⟨h, hg, rfl, rfl⟩
    · rw [balS_next hg]
      obtain ⟨q1, q2, q3, q4⟩ := step_pre h hg
      obtain ⟨r1, r2, r3, r4⟩ := balS_ok f _ q1 (by omega)
      exact ⟨r1, r2, r3.trans q3, r4.trans q4⟩
/-- BalanceRefine's answer. -/
def brB (R : Int) (xs : List C3) (ms ts bs : List Int) (i : Int) : Bool := stOk R xs ms ts bs && mayRef R xs i
def brS (R : Int) (xs : List C3) (ms ts bs : List Int) (i : Int) : Tr := if brB R xs ms ts bs i then balS 128 (cutAt (xs, ms, ts) i.toNat) else (xs, ms, ts)

theorem refB_parts {R i : Int} {xs : List C3} {ms ts bs : List Int} (h : refB R xs ms ts bs i = true) : PreS R xs ms ts bs ∧ firstGap xs < 0 ∧ ∃ (k : Nat) (x : C3), i = k ∧ xs[k]? = some x ∧ okOf x = true ∧ x.2.1 < 4 ∧ firstGap (split2 xs k) < 0 ∧ refX R xs ms ts bs i = split2 xs k ∧ refM R xs ms ts bs i = splitM ms k ∧ refT R xs ms ts bs i = splitT ms ts k := by
  have e1 : refX R xs ms ts bs i = split2 xs i.toNat := if_pos h
  have e2 : refM R xs ms ts bs i = splitM ms i.toNat := if_pos h
  have e3 : refT R xs ms ts bs i = splitT ms ts i.toNat := if_pos h
  simp only [refB, Bool.and_eq_true, decide_eq_true_eq] at h
  obtain ⟨hs, hm, hg⟩ := h
  obtain ⟨hp, hf⟩ := pre_of hs
  obtain ⟨-, k, x, rfl, hx, ho, hl, -⟩ := mayRef_parts hm
  rw [Int.toNat_natCast] at hg e1 e2 e3
  exact ⟨hp, hf, k, x, rfl, hx, ho, hl, hg, e1, e2, e3⟩
theorem ref_ok {R i : Int} {xs : List C3} {ms ts bs : List Int} (h : refB R xs ms ts bs i = true) : stOk R (refX R xs ms ts bs i) (refM R xs ms ts bs i) (refT R xs ms ts bs i) bs = true ∧ (refM R xs ms ts bs i).sum = ms.sum ∧ (refT R xs ms ts bs i).sum = ts.sum := by
  obtain ⟨hp, hf, k, x, rfl, hx, ho, hl, hg, e1, e2, e3⟩ := refB_parts h
  have hk := (List.getElem?_eq_some_iff.1 hx).1
  have h1 := hp.lm; have h2 := hp.lt
  rw [e1, e2, e3]
  exact ⟨(hp.split hx hl).ok hg, splitM_sum (by omega), splitT_sum (by omega)⟩
theorem coB_parts {R i : Int} {xs : List C3} {ms ts bs : List Int} (h : coB R xs ms ts bs i = true) : PreS R xs ms ts bs ∧ firstGap xs < 0 ∧ mayCo R xs i = true ∧ ∃ (k : Nat) (x y : C3), i = k ∧ xs[k]? = some x ∧ xs[k + 1]? = some y ∧ sibOf x y = true ∧ firstGap (merge2 xs k) < 0 ∧ coX R xs ms ts bs i = merge2 xs k ∧ coM R xs ms ts bs i = joinI ms k ∧ coT R xs ms ts bs i = joinI ts k := by
  have e1 : coX R xs ms ts bs i = merge2 xs i.toNat := if_pos h
  have e2 : coM R xs ms ts bs i = joinI ms i.toNat := if_pos h
  have e3 : coT R xs ms ts bs i = joinI ts i.toNat := if_pos h
  simp only [coB, Bool.and_eq_true] at h
  obtain ⟨hs, hm⟩ := h
  obtain ⟨hp, hf⟩ := pre_of hs
  obtain ⟨-, k, x, y, rfl, hx, hy, hsb, hL, hR, -⟩ := mayCo_parts hm
  rw [Int.toNat_natCast] at e1 e2 e3
  exact ⟨hp, hf, hm, k, x, y, rfl, hx, hy, hsb, by rw [flat_merge hx hy hsb hf hL hR]; omega, e1, e2, e3⟩
theorem co_ok {R i : Int} {xs : List C3} {ms ts bs : List Int} (h : stOk R xs ms ts bs = true) : stOk R (coX R xs ms ts bs i) (coM R xs ms ts bs i) (coT R xs ms ts bs i) bs = true ∧ (coM R xs ms ts bs i).sum = ms.sum ∧ (coT R xs ms ts bs i).sum = ts.sum ∧ coB R xs ms ts bs i = mayCo R xs i := by
  have hb : coB R xs ms ts bs i = mayCo R xs i := by simp [coB, h]
  suffices q : stOk R (coX R xs ms ts bs i) (coM R xs ms ts bs i) (coT R xs ms ts bs i) bs = true ∧ (coM R xs ms ts bs i).sum = ms.sum ∧ (coT R xs ms ts bs i).sum = ts.sum from ⟨q.1, q.2.1, q.2.2, hb⟩
  cases hc : coB R xs ms ts bs i with
  | false =>
    rw [show coX R xs ms ts bs i = xs by simp [coX, hc], show coM R xs ms ts bs i = ms by simp [coM, hc], show coT R xs ms ts bs i = ts by simp [coT, hc]]
    exact ⟨h, rfl, rfl⟩
  | true =>
    obtain ⟨hp, hf, hm, k, x, y, rfl, hx, hy, hsb, hg, e1, e2, e3⟩ := coB_parts hc
    have hk := (List.getElem?_eq_some_iff.1 hy).1
    have h1 := hp.lm; have h2 := hp.lt
    rw [e1, e2, e3]
    exact ⟨(hp.join hx hy hsb).1.ok hg, join_sum (by omega), join_sum (by omega)⟩
theorem brB_parts {R i : Int} {xs : List C3} {ms ts bs : List Int} (h : brB R xs ms ts bs i = true) : PreS R xs ms ts bs ∧ firstGap xs < 0 ∧ ∃ (k : Nat) (x : C3), i = k ∧ xs[k]? = some x ∧ okOf x = true ∧ x.2.1 < 4 ∧ PreS R (split2 xs k) (splitM ms k) (splitT ms ts k) bs ∧ brS R xs ms ts bs i = balS 128 (split2 xs k, splitM ms k, splitT ms ts k) := by
  have e1 : brS R xs ms ts bs i = balS 128 (cutAt (xs, ms, ts) i.toNat) := if_pos h
  simp only [brB, Bool.and_eq_true] at h
  obtain ⟨hs, hm⟩ := h
  obtain ⟨hp, hf⟩ := pre_of hs
  obtain ⟨-, k, x, rfl, hx, ho, hl, -⟩ := mayRef_parts hm
  rw [Int.toNat_natCast] at e1
  exact ⟨hp, hf, k, x, rfl, hx, ho, hl, hp.split hx hl, e1⟩
theorem br_ok {R i : Int} {xs : List C3} {ms ts bs : List Int} (h : stOk R xs ms ts bs = true) : stOk R (brS R xs ms ts bs i).1 (brS R xs ms ts bs i).2.1 (brS R xs ms ts bs i).2.2 bs = true ∧ (brS R xs ms ts bs i).2.1.sum = ms.sum ∧ (brS R xs ms ts bs i).2.2.sum = ts.sum := by
  cases hc : brB R xs ms ts bs i with
  | false =>
    rw [show brS R xs ms ts bs i = (xs, ms, ts) by simp [brS, hc]]
    exact ⟨h, rfl, rfl⟩
  | true =>
    obtain ⟨hp, hf, k, x, rfl, hx, ho, hl, hq, e⟩ := brB_parts hc
    have hk := (List.getElem?_eq_some_iff.1 hx).1
    have h1 := hp.lm; have h2 := hp.lt
    rw [e]
    obtain ⟨r1, r2, r3, r4⟩ := balS_ok (R := R) (bs := bs) 128 (split2 xs k, splitM ms k, splitT ms ts k) hq (by omega)
    exact ⟨r1.ok r2, r3.trans (splitM_sum (by omega)), r4.trans (splitT_sum (by omega))⟩
/-- Coarsening undoes refining. -/
theorem ref_co {R i : Int} {xs : List C3} {ms ts bs : List Int} (h : refB R xs ms ts bs i = true) :
    coB R (refX R xs ms ts bs i) (refM R xs ms ts bs i) (refT R xs ms ts bs i) bs i = true ∧ coX R (refX R xs ms ts bs i) (refM R xs ms ts bs i) (refT R xs ms ts bs i) bs i = xs
    ∧ coM R (refX R xs ms ts bs i) (refM R xs ms ts bs i) (refT R xs ms ts bs i) bs i = ms ∧ coT R (refX R xs ms ts bs i) (refM R xs ms ts bs i) (refT R xs ms ts bs i) bs i = ts := by
  have hok := (ref_ok h).1
  obtain ⟨hp, hf, k, x, rfl, hx, ho, hl, hg, e1, e2, e3⟩ := refB_parts h
  have hk := (List.getElem?_eq_some_iff.1 hx).1
  have h1 := hp.lm; have h2 := hp.lt
  obtain ⟨hc, -⟩ := mayCo_split hx hp.mesh hf hl
  have hb : coB R (refX R xs ms ts bs k) (refM R xs ms ts bs k) (refT R xs ms ts bs k) bs k = true := by
    unfold coB; rw [hok, e1, hc]; rfl
  refine ⟨hb, ?_, ?_, ?_⟩
  · rw [show coX R _ _ _ bs k = _ from if_pos hb, Int.toNat_natCast, e1]; exact merge_split hx ho hl
  · rw [show coM R _ _ _ bs k = _ from if_pos hb, Int.toNat_natCast, e2]; exact join_split (by omega)
  · rw [show coT R _ _ _ bs k = _ from if_pos hb, Int.toNat_natCast, e3]; exact join_splitT (by omega)
end Go.Proofs.Ytaccigmkddomaaa.State
