/- States: the tracer that leaves a leaf, the tracer through a face, the greatest and the least share, the share of a leaf, as numbers: what they are, their bounds, that splitting a leaf never widens the range of the shares. Plain lemmas.
   Conditions: none. -/
import Derived.Test.YtaccigmkddomaaaStFluxP
import Derived.Test.YtaccigmkddomaaaStTrPure
set_option maxRecDepth 100000
namespace Go.Proofs.Ytaccigmkddomaaa.State
open Go.ChangeShapes Go.WideShapes Go.ChangeAt Go.RowKit Go.Proofs.Ytaccigmkddomaaa.Cell Go.Proofs.Ytaccigmkddomaaa.Mesh

def tsAt (ts : List Int) (k : Nat) : Int := (ts[k]?).getD 0
theorem msAt_of {ms : List Int} {k : Nat} {m : Int} (h : ms[k]? = some m) : msAt ms k = m := by simp [msAt, h]
theorem tsAt_of {ts : List Int} {k : Nat} {t : Int} (h : ts[k]? = some t) : tsAt ts k = t := by simp [tsAt, h]

/-- When LeafOut answers. -/
def outB (t m r l : Int) : Bool := decide (1 ≤ m ∧ m ≤ 10000000 ∧ 0 ≤ t ∧ t ≤ 1000 * m ∧ 0 ≤ r ∧ 0 ≤ l ∧ r ≤ m - l)
def outR (t m r l : Int) : Int := if outB t m r l = true then shareOf t r m else 0
def outL (t m r l : Int) : Int := if outB t m r l = true then shareOf t (r + l) m - shareOf t r m else 0
theorem share_range (t p w : Int) : 0 ≤ shareOf t p w ∧ shareOf t p w ≤ 10000000000 := by
  by_cases h : 1 ≤ w ∧ w ≤ 10000000 ∧ 0 ≤ p ∧ p ≤ w ∧ 0 ≤ t ∧ t ≤ 1000 * w
  · obtain ⟨-, a, -, b, -⟩ := share_bounds h.1 h.2.1 h.2.2.1 h.2.2.2.1 h.2.2.2.2.1 h.2.2.2.2.2
    omega
  · rw [show shareOf t p w = 0 from if_neg h]; omega

/-- The tracer that moves with a flux between two leaves. -/
def trcN (f ta ma tb mb : Int) : Int := if 0 < f then shareOf ta f ma else if f < 0 then -(shareOf tb (-f) mb) else 0
def trcAt (xs : List C3) (ms ts bs : List Int) (k : Nat) : Int := trcN (fluxAt xs ms bs k) (tsAt ts k) (msAt ms k) (tsAt ts (k + 1)) (msAt ms (k + 1))
def trcG (R : Int) (xs : List C3) (ms ts bs : List Int) (i : Int) : Int := if stOk R xs ms ts bs = true ∧ 0 ≤ i ∧ i + 1 < xs.length then trcAt xs ms ts bs i.toNat else 0

/-- The share of a leaf, rounded up. -/
def upN (t m : Int) : Int := if m ≤ 0 then 0 else -(-t / m)
/-- The greatest of the first shares, rounded up; the least of those of leaves with a mass, rounded down. -/
def great (ms ts : List Int) : Nat → Int
  | 0 => 0
  | k + 1 => max (great ms ts k) (upN (tsAt ts k) (msAt ms k))
def least (ms ts : List Int) : Nat → Int
  | 0 => 1000
  | k + 1 => if 0 < msAt ms k then min (least ms ts k) (tsAt ts k / msAt ms k) else least ms ts k
/-- The least share as the reference model holds it: -1 before the first leaf with a mass. -/
def leastM (ms ts : List Int) : Nat → Int
  | 0 => -1
  | k + 1 => if 0 < msAt ms k ∧ (leastM ms ts k < 0 ∨ tsAt ts k / msAt ms k < leastM ms ts k) then tsAt ts k / msAt ms k else leastM ms ts k
def greatG (R : Int) (xs : List C3) (ms ts bs : List Int) : Int := if stOk R xs ms ts bs = true then great ms ts ms.length else 0
def leastG (R : Int) (xs : List C3) (ms ts bs : List Int) : Int := if stOk R xs ms ts bs = true ∧ ms.sum ≠ 0 then least ms ts ms.length else 0
/-- A leaf's share in thousandths. -/
def permN (t m : Int) : Int := if m ≤ 0 then 0 else 1000 * t / m
def shareG (R : Int) (xs : List C3) (ms ts bs : List Int) (i : Int) : Int := if stOk R xs ms ts bs = true ∧ 0 ≤ i ∧ i < ms.length then permN (tsAt ts i.toNat) (msAt ms i.toNat) else 0

/-- What a leaf of a valid state has: its mass and its tracer. -/
theorem pair_at {R : Int} {xs : List C3} {ms ts bs : List Int} (h : stOk R xs ms ts bs = true) {k : Nat} (hk : k < ms.length) :
    ∃ m t, ms[k]? = some m ∧ ts[k]? = some t ∧ msAt ms k = m ∧ tsAt ts k = t ∧ 0 ≤ m ∧ m ≤ 10000000 ∧ 0 ≤ t ∧ t ≤ 1000 * m := by
  obtain ⟨-, ⟨p2, p3, -⟩, p5, -, -⟩ := stOk_parts h
  have hm : ms[k]? = some ms[k] := List.getElem?_eq_getElem hk
  have ht : ts[k]? = some (ts[k]'(by omega)) := List.getElem?_eq_getElem (by omega)
  obtain ⟨a, b, c, d⟩ := of_decide_eq_true (pairs_at p5 hm ht)
  exact ⟨_, _, hm, ht, msAt_of hm, tsAt_of ht, a, b, c, d⟩

theorem ceil_eq {t m : Int} (hm : 0 < m) : (t + m - 1) / m = -(-t / m) := by
  have e1 := Int.mul_ediv_add_emod (t + m - 1) m
  have e2 := Int.mul_ediv_add_emod (-t) m
  have a1 := Int.emod_nonneg (t + m - 1) (show m ≠ 0 by omega)
  have a2 := Int.emod_lt_of_pos (t + m - 1) hm
  have b1 := Int.emod_nonneg (-t) (show m ≠ 0 by omega)
  have b2 := Int.emod_lt_of_pos (-t) hm
  generalize (t + m - 1) / m = q at *
  generalize -t / m = p at *
  generalize (t + m - 1) % m = r at *
  generalize -t % m = s at *
  have e : m * (q + p) = m - 1 - r - s := by rw [Int.mul_add]; omega
  rcases Int.lt_trichotomy (q + p) 0 with h | h | h
  · have : m * (q + p) ≤ m * (-1) := Int.mul_le_mul_of_nonneg_left (by omega) (by omega)
    omega
  · omega
  · have : m * 1 ≤ m * (q + p) := Int.mul_le_mul_of_nonneg_left (by omega) (by omega)
    omega
/-- A share rounded up is at most c just if the tracer is at most c times the mass. -/
theorem up_le {t m c : Int} (hm : 0 < m) : -(-t / m) ≤ c ↔ t ≤ c * m := by
  have : -c ≤ -t / m ↔ -c * m ≤ -t := Int.le_ediv_iff_mul_le hm
  rw [Int.neg_mul] at this
  omega
theorem le_low {t m c : Int} (hm : 0 < m) : c ≤ t / m ↔ c * m ≤ t := Int.le_ediv_iff_mul_le hm
theorem up_bounds {t m : Int} (m0 : 0 ≤ m) (t0 : 0 ≤ t) (t1 : t ≤ 1000 * m) : 0 ≤ upN t m ∧ upN t m ≤ 1000 ∧ -10000000000 * m ≤ 0 := by
  unfold upN
  by_cases h : m ≤ 0
  · rw [if_pos h]; omega
  · rw [if_neg h]
    have a := (up_le (t := t) (m := m) (c := 1000) (by omega)).2 (by omega)
    refine ⟨?_, a, by omega⟩
    have : -t / m ≤ 0 := by
      have := Int.ediv_le_ediv (show 0 < m by omega) (show -t ≤ 0 by omega)
      simpa using this
    omega
theorem low_bounds {t m : Int} (m0 : 0 < m) (t0 : 0 ≤ t) (t1 : t ≤ 1000 * m) : 0 ≤ t / m ∧ t / m ≤ 1000 := by
  refine ⟨Int.ediv_nonneg t0 (by omega), ?_⟩
  exact Int.ediv_le_of_le_mul m0 t1

theorem great_bounds {R : Int} {xs : List C3} {ms ts bs : List Int} (h : stOk R xs ms ts bs = true) : ∀ n, n ≤ ms.length → 0 ≤ great ms ts n ∧ great ms ts n ≤ 1000 := by
  intro n
  induction n with
  | zero => intro _; simp [great]
  | succ n ih =>
    intro hn
    obtain ⟨m, t, -, -, em, et, m0, m1, t0, t1⟩ := pair_at h (show n < ms.length by omega)
    obtain ⟨u0, u1, -⟩ := up_bounds m0 t0 t1
    have := ih (by omega)
    rw [great, em, et]
    omega
theorem least_bounds {R : Int} {xs : List C3} {ms ts bs : List Int} (h : stOk R xs ms ts bs = true) : ∀ n, n ≤ ms.length → 0 ≤ least ms ts n ∧ least ms ts n ≤ 1000 := by
  intro n
  induction n with
  | zero => intro _; simp [least]
  | succ n ih =>
    intro hn
    obtain ⟨m, t, -, -, em, et, m0, m1, t0, t1⟩ := pair_at h (show n < ms.length by omega)
    have := ih (by omega)
    rw [least, em, et]
    split
    · obtain ⟨l0, l1⟩ := low_bounds (m := m) (t := t) (by omega) t0 t1
      omega
    · exact this
theorem leastM_is {R : Int} {xs : List C3} {ms ts bs : List Int} (h : stOk R xs ms ts bs = true) : ∀ n, n ≤ ms.length → (leastM ms ts n = -1 ∧ least ms ts n = 1000 ∧ (ms.take n).sum = 0) ∨ (0 ≤ leastM ms ts n ∧ leastM ms ts n = least ms ts n ∧ 0 < (ms.take n).sum) := by
  intro n
  induction n with
  | zero => intro _; left; simp [least, leastM]
  | succ n ih =>
    intro hn
    obtain ⟨m, t, hm, -, em, et, m0, m1, t0, t1⟩ := pair_at h (show n < ms.length by omega)
    obtain ⟨b0, b1⟩ := least_bounds h n (by omega)
    rw [least, leastM, em, et, sum_take hm]
    by_cases hp : 0 < m
    · obtain ⟨l0, l1⟩ := low_bounds hp t0 t1
      generalize t / m = q at *
      rw [if_pos hp]
      right
      rcases ih (by omega) with ⟨h1, h2, h3⟩ | ⟨h1, h2, h3⟩
      · rw [if_pos ⟨hp, Or.inl (by omega)⟩]
        exact ⟨l0, by omega, by omega⟩
      · by_cases hq : q < leastM ms ts n
        · rw [if_pos ⟨hp, Or.inr hq⟩]
          exact ⟨l0, by omega, by omega⟩
        · rw [if_neg (fun hh => by rcases hh.2 with g | g <;> omega)]
          exact ⟨h1, by omega, by omega⟩
    · rw [if_neg hp, if_neg (fun hh => hp hh.1)]
      obtain rfl : m = 0 := by omega
      rw [Int.add_zero]
      exact ih (by omega)
theorem leastM_max {R : Int} {xs : List C3} {ms ts bs : List Int} (h : stOk R xs ms ts bs = true) : max (leastM ms ts ms.length) 0 = leastG R xs ms ts bs := by
  unfold leastG
  rcases leastM_is h ms.length (Nat.le_refl _) with ⟨h1, h2, h3⟩ | ⟨h1, h2, h3⟩
  · rw [List.take_length] at h3
    rw [if_neg (fun hh => hh.2 h3)]
    omega
  · rw [List.take_length] at h3
    rw [if_pos ⟨h, by omega⟩]
    omega
/-- The greatest share is at most c just if every tracer is at most c times its mass. -/
theorem great_le {R : Int} {xs : List C3} {ms ts bs : List Int} (h : stOk R xs ms ts bs = true) {c : Int} (hc : 0 ≤ c) : ∀ n, n ≤ ms.length → (great ms ts n ≤ c ↔ ∀ k, k < n → tsAt ts k ≤ c * msAt ms k) := by
  intro n
  induction n with
  | zero => intro _; exact ⟨fun _ k hk => absurd hk (Nat.not_lt_zero k), fun _ => hc⟩
  | succ n ih =>
    intro hn
    obtain ⟨m, t, -, -, em, et, m0, m1, t0, t1⟩ := pair_at h (show n < ms.length by omega)
    have e : upN t m ≤ c ↔ t ≤ c * m := by
      unfold upN
      by_cases hp : m ≤ 0
      · obtain rfl : m = 0 := by omega
        rw [if_pos hp, Int.mul_zero]
        omega
      · rw [if_neg hp]
        exact up_le (by omega)
    rw [great, em, et]
    constructor
    · intro hh k hk
      by_cases hkn : k = n
      · subst hkn; rw [em, et]; exact e.1 (by omega)
      · exact (ih (by omega)).1 (by omega) k (by omega)
    · intro hh
      have h1 := (ih (by omega)).2 fun k hk => hh k (by omega)
      have h2 := hh n (by omega)
      rw [em, et] at h2
      have := e.2 h2
      omega
theorem le_least {R : Int} {xs : List C3} {ms ts bs : List Int} (h : stOk R xs ms ts bs = true) {c : Int} (hc : c ≤ 1000) : ∀ n, n ≤ ms.length → (c ≤ least ms ts n ↔ ∀ k, k < n → c * msAt ms k ≤ tsAt ts k) := by
  intro n
  induction n with
  | zero => intro _; exact ⟨fun _ k hk => absurd hk (Nat.not_lt_zero k), fun _ => hc⟩
  | succ n ih =>
    intro hn
    obtain ⟨m, t, -, -, em, et, m0, m1, t0, t1⟩ := pair_at h (show n < ms.length by omega)
    rw [least, em, et]
    have e : 0 < m → (c ≤ t / m ↔ c * m ≤ t) := fun hp => le_low hp
    constructor
    · intro hh k hk
      by_cases hkn : k = n
      · subst hkn; rw [em, et]
        by_cases hp : 0 < m
        · rw [if_pos hp] at hh; exact (e hp).1 (by omega)
        · obtain rfl : m = 0 := by omega
          rw [Int.mul_zero]; exact t0
      · refine (ih (by omega)).1 ?_ k (by omega)
        split at hh <;> omega
    · intro hh
      have h1 := (ih (by omega)).2 fun k hk => hh k (by omega)
      have h2 := hh n (by omega)
      rw [em, et] at h2
      by_cases hp : 0 < m
      · rw [if_pos hp]; have := (e hp).2 h2; omega
      · rw [if_neg hp]; exact h1

/-- All tracers of a list of pairs keep a bound. -/
def keepsUp (c : Int) (ms ts : List Int) : Prop := ∀ (k : Nat) (m t : Int), ms[k]? = some m → ts[k]? = some t → t ≤ c * m
def keepsLow (c : Int) (ms ts : List Int) : Prop := ∀ (k : Nat) (m t : Int), ms[k]? = some m → ts[k]? = some t → c * m ≤ t
theorem share_up {t m p c : Int} (hm : 0 ≤ m) (hm1 : m ≤ 10000000) (ht : 0 ≤ t) (ht1 : t ≤ 1000 * m) (hp : 0 ≤ p) (hp1 : p ≤ m) (hc : t ≤ c * m) : shareOf t p m ≤ c * p ∧ t - shareOf t p m ≤ c * (m - p) := by
  by_cases h0 : m < 1
  · obtain rfl : m = 0 := by omega
    obtain rfl : p = 0 := by omega
    rw [share_none (by omega)]
    omega
  · obtain ⟨e, -⟩ := share_bounds (t := t) (p := p) (w := m) (by omega) hm1 hp hp1 ht ht1
    rw [e]
    have a := Int.mul_le_mul_of_nonneg_right hc hp
    have b := Int.mul_le_mul_of_nonneg_right hc (show 0 ≤ m - p by omega)
    refine ⟨?_, ?_⟩
    · exact Int.ediv_le_of_le_mul (by omega) (by rw [show c * p * m = c * m * p by rw [Int.mul_assoc, Int.mul_comm p, ← Int.mul_assoc]]; exact a)
    · have : t - c * (m - p) ≤ t * p / m := by
        rw [le_low (by omega), Int.sub_mul]
        rw [Int.mul_sub] at b
        rw [show c * (m - p) * m = c * m * (m - p) by rw [Int.mul_assoc, Int.mul_comm (m - p), ← Int.mul_assoc]]
        omega
      omega
theorem share_low {t m p c : Int} (hm : 0 ≤ m) (hm1 : m ≤ 10000000) (ht : 0 ≤ t) (ht1 : t ≤ 1000 * m) (hp : 0 ≤ p) (hp1 : p ≤ m) (hc : c * m ≤ t) : c * p ≤ shareOf t p m ∧ c * (m - p) ≤ t - shareOf t p m := by
  by_cases h0 : m < 1
  · obtain rfl : m = 0 := by omega
    obtain rfl : p = 0 := by omega
    rw [share_none (by omega)]
    omega
  · obtain ⟨e, -⟩ := share_bounds (t := t) (p := p) (w := m) (by omega) hm1 hp hp1 ht ht1
    rw [e]
    have a := Int.mul_le_mul_of_nonneg_right hc hp
    have b := Int.mul_le_mul_of_nonneg_right hc (show 0 ≤ m - p by omega)
    refine ⟨?_, ?_⟩
    · rw [le_low (by omega), show c * p * m = c * m * p by rw [Int.mul_assoc, Int.mul_comm p, ← Int.mul_assoc]]
      exact a
    · have : t * p / m ≤ t - c * (m - p) := Int.ediv_le_of_le_mul (by omega) (by
        rw [Int.sub_mul, show c * (m - p) * m = c * m * (m - p) by rw [Int.mul_assoc, Int.mul_comm (m - p), ← Int.mul_assoc]]
        rw [Int.mul_sub] at b
        rw [Int.mul_sub] at b
        rw [Int.mul_sub]
        omega)
      omega
theorem split_keeps {ms ts : List Int} {k : Nat} {m t : Int} {P : Int → Int → Prop} (hl : ts.length = ms.length) (hm : ms[k]? = some m) (ht : ts[k]? = some t) (h1 : P (leftM m) (leftT m t)) (h2 : P (m - leftM m) (t - leftT m t)) (h : ∀ (j : Nat) (m t : Int), ms[j]? = some m → ts[j]? = some t → P m t) :
    ∀ (j : Nat) (m' t' : Int), (splitM ms k)[j]? = some m' → (splitT ms ts k)[j]? = some t' → P m' t' := by
  have hk := (List.getElem?_eq_some_iff.1 hm).1
  intro j m' t' hm' ht'
  unfold splitM at hm'
  unfold splitT at ht'
  rw [atI_of hm] at hm' ht'
  rw [atI_of ht] at ht'
  obtain ⟨q0, q1, q2, q3⟩ := two_at (a := leftM m) (b := m - leftM m) hk
  obtain ⟨r0, r1, r2, r3⟩ := two_at (xs := ts) (a := leftT m t) (b := t - leftT m t) (by omega : k < ts.length)
  rcases Nat.lt_trichotomy j k with hj | rfl | hj
  · rw [q2 j hj] at hm'; rw [r2 j hj] at ht'; exact h j m' t' hm' ht'
  · rw [q0] at hm'; rw [r0] at ht'; cases hm'; cases ht'; exact h1
  · by_cases e : j = k + 1
    · subst e; rw [q1] at hm'; rw [r1] at ht'; cases hm'; cases ht'; exact h2
    · obtain ⟨j, rfl⟩ : ∃ i, j = i + 1 := ⟨j - 1, by omega⟩
      rw [q3 j (by omega)] at hm'; rw [r3 j (by omega)] at ht'; exact h j m' t' hm' ht'
theorem up_split {c : Int} {ms ts : List Int} {k : Nat} (hl : ts.length = ms.length) (hk : k < ms.length) (hp : pairsOk ms ts = true) (h : keepsUp c ms ts) : keepsUp c (splitM ms k) (splitT ms ts k) := by
  have hm : ms[k]? = some ms[k] := List.getElem?_eq_getElem hk
  have ht : ts[k]? = some (ts[k]'(by omega)) := List.getElem?_eq_getElem (by omega)
  obtain ⟨m0, m1, t0, t1⟩ := of_decide_eq_true (pairs_at hp hm ht)
  obtain ⟨b1, b2, -⟩ := leftM_bounds m0
  obtain ⟨s1, s2⟩ := share_up m0 m1 t0 t1 b1 b2 (h k _ _ hm ht)
  exact split_keeps (P := fun m t => t ≤ c * m) hl hm ht s1 s2 h
theorem low_split {c : Int} {ms ts : List Int} {k : Nat} (hl : ts.length = ms.length) (hk : k < ms.length) (hp : pairsOk ms ts = true) (h : keepsLow c ms ts) : keepsLow c (splitM ms k) (splitT ms ts k) := by
  have hm : ms[k]? = some ms[k] := List.getElem?_eq_getElem hk
  have ht : ts[k]? = some (ts[k]'(by omega)) := List.getElem?_eq_getElem (by omega)
  obtain ⟨m0, m1, t0, t1⟩ := of_decide_eq_true (pairs_at hp hm ht)
  obtain ⟨b1, b2, -⟩ := leftM_bounds m0
  obtain ⟨s1, s2⟩ := share_low m0 m1 t0 t1 b1 b2 (h k _ _ hm ht)
  exact split_keeps (P := fun m t => c * m ≤ t) hl hm ht s1 s2 h
theorem step_keeps {R c : Int} {s : Tr} {bs : List Int} (h : PreS R s.1 s.2.1 s.2.2 bs) (hg : ¬ firstGap s.1 < 0) : (keepsUp c s.2.1 s.2.2 → keepsUp c (stepS s).2.1 (stepS s).2.2) ∧ (keepsLow c s.2.1 s.2.2 → keepsLow c (stepS s).2.1 (stepS s).2.2) := by
  rcases first_cases s.1 with ⟨e, -⟩ | ⟨k, e, hk, -⟩
  · omega
  · obtain ⟨x, hx, hl⟩ := coarser_ok hk (mesh_parts h.mesh).1
    have he : (firstGap s.1).toNat = k := by omega
    have hkl := (List.getElem?_eq_some_iff.1 hx).1
    have h1 := h.lm; have h2 := h.lt
    unfold stepS cutAt
    rw [he]
    exact ⟨fun q => up_split (by omega) (by omega) h.prs q, fun q => low_split (by omega) (by omega) h.prs q⟩
theorem balS_keeps {R c : Int} {bs : List Int} : ∀ (f : Nat) (s : Tr), PreS R s.1 s.2.1 s.2.2 bs → (keepsUp c s.2.1 s.2.2 → keepsUp c (balS f s).2.1 (balS f s).2.2) ∧ (keepsLow c s.2.1 s.2.2 → keepsLow c (balS f s).2.1 (balS f s).2.2)
  | 0, s, h => ⟨fun q => q, fun q => q⟩
  | f + 1, s, h => by
    by_cases hg : firstGap s.1 < 0
    · rw [balS_done hg]; exact ⟨fun q => q, fun q => q⟩
    · rw [balS_next hg]
      obtain ⟨q1, -⟩ := step_pre h hg
      obtain ⟨r1, r2⟩ := step_keeps (c := c) h hg
      obtain ⟨t1, t2⟩ := balS_keeps (c := c) f _ q1
      exact ⟨fun q => t1 (r1 q), fun q => t2 (r2 q)⟩
theorem br_keeps {R i c : Int} {xs : List C3} {ms ts bs : List Int} : (keepsUp c ms ts → keepsUp c (brS R xs ms ts bs i).2.1 (brS R xs ms ts bs i).2.2) ∧ (keepsLow c ms ts → keepsLow c (brS R xs ms ts bs i).2.1 (brS R xs ms ts bs i).2.2) := by
  cases hc : brB R xs ms ts bs i with
  | false =>
    rw [show brS R xs ms ts bs i = (xs, ms, ts) by simp [brS, hc]]
    exact ⟨fun q => q, fun q => q⟩
  | true =>
    obtain ⟨hp, hf, k, x, rfl, hx, ho, hl, hq, e⟩ := brB_parts hc
    have hk := (List.getElem?_eq_some_iff.1 hx).1
    have h1 := hp.lm; have h2 := hp.lt
    rw [e]
    obtain ⟨r1, r2⟩ := balS_keeps (R := R) (bs := bs) (c := c) 128 (split2 xs k, splitM ms k, splitT ms ts k) hq
    exact ⟨fun q => r1 (up_split (by omega) (by omega) hp.prs q), fun q => r2 (low_split (by omega) (by omega) hp.prs q)⟩
theorem keepsUp_iff {R : Int} {xs : List C3} {ms ts bs : List Int} (h : stOk R xs ms ts bs = true) {c : Int} (hc : 0 ≤ c) : keepsUp c ms ts ↔ great ms ts ms.length ≤ c := by
  rw [great_le h hc _ (Nat.le_refl _)]
  constructor
  · intro q k hk
    obtain ⟨m, t, hm, ht, em, et, -⟩ := pair_at h hk
    rw [em, et]; exact q k m t hm ht
  · intro q k m t hm ht
    have := q k (List.getElem?_eq_some_iff.1 hm).1
    rwa [msAt_of hm, tsAt_of ht] at this
theorem keepsLow_iff {R : Int} {xs : List C3} {ms ts bs : List Int} (h : stOk R xs ms ts bs = true) {c : Int} (hc : c ≤ 1000) : keepsLow c ms ts ↔ c ≤ least ms ts ms.length := by
  rw [le_least h hc _ (Nat.le_refl _)]
  constructor
  · intro q k hk
    obtain ⟨m, t, hm, ht, em, et, -⟩ := pair_at h hk
    rw [em, et]; exact q k m t hm ht
  · intro q k m t hm ht
    have := q k (List.getElem?_eq_some_iff.1 hm).1
    rwa [msAt_of hm, tsAt_of ht] at this
/-- Refining never widens the range of the shares; the range is one. -/
theorem shares_kept {R i : Int} {xs : List C3} {ms ts bs : List Int} (h : stOk R xs ms ts bs = true) :
    greatG R (brS R xs ms ts bs i).1 (brS R xs ms ts bs i).2.1 (brS R xs ms ts bs i).2.2 bs ≤ greatG R xs ms ts bs
    ∧ leastG R xs ms ts bs ≤ leastG R (brS R xs ms ts bs i).1 (brS R xs ms ts bs i).2.1 (brS R xs ms ts bs i).2.2 bs
    ∧ leastG R xs ms ts bs ≤ greatG R xs ms ts bs ∧ greatG R xs ms ts bs ≤ 1000 := by
  obtain ⟨o1, o2, -⟩ := br_ok (i := i) h
  obtain ⟨g0, g1⟩ := great_bounds h _ (Nat.le_refl _)
  obtain ⟨l0, l1⟩ := least_bounds h _ (Nat.le_refl _)
  obtain ⟨k1, -⟩ := br_keeps (R := R) (i := i) (c := great ms ts ms.length) (xs := xs) (ms := ms) (ts := ts) (bs := bs)
  obtain ⟨-, k2⟩ := br_keeps (R := R) (i := i) (c := least ms ts ms.length) (xs := xs) (ms := ms) (ts := ts) (bs := bs)
  have a1 := (keepsUp_iff o1 g0).1 (k1 ((keepsUp_iff h g0).2 (Int.le_refl _)))
  have a2 := (keepsLow_iff o1 l1).1 (k2 ((keepsLow_iff h l1).2 (Int.le_refl _)))
  have eg : greatG R xs ms ts bs = great ms ts ms.length := if_pos h
  have eg' : greatG R (brS R xs ms ts bs i).1 (brS R xs ms ts bs i).2.1 (brS R xs ms ts bs i).2.2 bs = great (brS R xs ms ts bs i).2.1 (brS R xs ms ts bs i).2.2 (brS R xs ms ts bs i).2.1.length := if_pos o1
  rw [eg, eg']
  by_cases hs : ms.sum = 0
  · rw [show leastG R xs ms ts bs = 0 from if_neg (fun hh => hh.2 hs), show leastG R (brS R xs ms ts bs i).1 (brS R xs ms ts bs i).2.1 (brS R xs ms ts bs i).2.2 bs = 0 from if_neg (fun hh => hh.2 (o2.trans hs))]
    exact ⟨a1, by omega, by omega, g1⟩
  · rw [show leastG R xs ms ts bs = _ from if_pos ⟨h, hs⟩, show leastG R (brS R xs ms ts bs i).1 (brS R xs ms ts bs i).2.1 (brS R xs ms ts bs i).2.2 bs = _ from if_pos ⟨o1, fun q => hs (o2.symm.trans q)⟩]
    refine ⟨a1, a2, ?_, g1⟩
    -- a leaf with a mass: its share lies between both
    obtain ⟨k, hk, hm⟩ : ∃ k, k < ms.length ∧ 0 < msAt ms k := by
      refine Classical.byContradiction fun hn => hs ?_
      have hz : ∀ x ∈ ms, x = 0 := fun x hx => by
        obtain ⟨k, hk⟩ := List.getElem?_of_mem hx
        have hkl := (List.getElem?_eq_some_iff.1 hk).1
        obtain ⟨m, t, hm, -, em, -, m0, -⟩ := pair_at h hkl
        rw [hk] at hm
        cases hm
        by_cases hx0 : 0 < x
        · exact absurd ⟨k, hkl, by rw [em]; exact hx0⟩ hn
        · omega
      clear hn
      have : ∀ l : List Int, (∀ x ∈ l, x = 0) → l.sum = 0 := fun l => by
        induction l with
        | nil => intro _; rfl
        | cons y ys ih => intro q; rw [List.sum_cons, ih fun z hz' => q z (List.mem_cons_of_mem _ hz'), q y (List.mem_cons_self ..)]; rfl
      exact this ms hz
    obtain ⟨m, t, hm1, ht1, em, et, -⟩ := pair_at h hk
    have b1 := (keepsUp_iff h g0).2 (Int.le_refl _) k m t hm1 ht1
    have b2 := (keepsLow_iff h l1).2 (Int.le_refl _) k m t hm1 ht1
    rw [em] at hm
    exact Int.le_of_mul_le_mul_right (Int.le_trans b2 b1) hm

/-- FnCarried's bounds. -/
theorem carried {t m r l : Int} (hm : 1 ≤ m) (hm1 : m ≤ 10000000) (ht : 0 ≤ t) (ht1 : t ≤ 1000 * m) (hr : 0 ≤ r) (hl : 0 ≤ l) (hrl : r + l ≤ m) :
    t / m * r ≤ shareOf t r m ∧ shareOf t r m ≤ (t + m - 1) / m * r
    ∧ t / m * l ≤ shareOf t (r + l) m - shareOf t r m ∧ shareOf t (r + l) m - shareOf t r m ≤ (t + m - 1) / m * l
    ∧ t / m * (m - r - l) ≤ t - shareOf t (r + l) m ∧ t - shareOf t (r + l) m ≤ (t + m - 1) / m * (m - r - l) := by
  have c1 : t ≤ (t + m - 1) / m * m := by rw [ceil_eq (by omega)]; exact (up_le (by omega)).1 (Int.le_refl _)
  have c2 : t / m * m ≤ t := (le_low (by omega)).1 (Int.le_refl _)
  obtain ⟨a1, a2⟩ := share_up (p := r) (by omega) hm1 ht ht1 hr (by omega) c1
  obtain ⟨b1, b2⟩ := share_low (p := r) (by omega) hm1 ht ht1 hr (by omega) c2
  obtain ⟨d1, d2⟩ := share_up (p := r + l) (by omega) hm1 ht ht1 (by omega) hrl c1
  obtain ⟨e1, e2⟩ := share_low (p := r + l) (by omega) hm1 ht ht1 (by omega) hrl c2
  obtain ⟨f1, -⟩ := share_bounds (t := t) (p := r) (w := m) hm hm1 hr (by omega) ht ht1
  obtain ⟨f2, -⟩ := share_bounds (t := t) (p := r + l) (w := m) hm hm1 (by omega) hrl ht ht1
  have hsub : m - r - l = m - (r + l) := by omega
  rw [hsub]
  refine ⟨b1, a1, ?_, ?_, e2, d2⟩
  · -- floor (t (r+l) / m) - floor (t r / m) is at least low * l
    rw [f1, f2]
    have h1 := Int.mul_le_mul_of_nonneg_right c2 hl
    have : t * r / m + t / m * l ≤ t * (r + l) / m := by
      rw [← Int.add_mul_ediv_right _ _ (show m ≠ 0 by omega)]
      refine Int.ediv_le_ediv (by omega) ?_
      rw [Int.mul_add, show t / m * l * m = t / m * m * l by rw [Int.mul_assoc, Int.mul_comm l, ← Int.mul_assoc]]
      omega
    omega
  · rw [f1, f2]
    have h1 := Int.mul_le_mul_of_nonneg_right c1 hl
    have : t * (r + l) / m ≤ t * r / m + (t + m - 1) / m * l := by
      rw [← Int.add_mul_ediv_right _ _ (show m ≠ 0 by omega)]
      refine Int.ediv_le_ediv (by omega) ?_
      rw [Int.mul_add, show (t + m - 1) / m * l * m = (t + m - 1) / m * m * l by rw [Int.mul_assoc, Int.mul_comm l, ← Int.mul_assoc]]
      omega
    omega
end Go.Proofs.Ytaccigmkddomaaa.State
