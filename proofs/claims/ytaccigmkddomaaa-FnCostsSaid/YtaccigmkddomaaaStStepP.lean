/- States: active faces, a tick, ticks, the flux through a face in them, as numbers: what they are, that a tick of a valid state is valid, keeps the sums and the range of the shares. Plain lemmas.
   Conditions: none. -/
import Derived.Test.YtaccigmkddomaaaStTrcP
import Derived.Test.YtaccigmkddomaaaMBalAll
set_option maxRecDepth 100000
namespace Go.Proofs.Ytaccigmkddomaaa.State
open Go.ChangeShapes Go.WideShapes Go.ChangeAt Go.RowKit Go.Proofs.Ytaccigmkddomaaa.Cell Go.Proofs.Ytaccigmkddomaaa.Mesh

/-- A list of n numbers. -/
def gen (n : Nat) (g : Nat → Int) : List Int := (List.range n).map g
theorem gen_len (n : Nat) (g : Nat → Int) : (gen n g).length = n := by simp [gen]
theorem gen_at {n k : Nat} (g : Nat → Int) (h : k < n) : (gen n g)[k]? = some (g k) := by simp [gen, h]
theorem gen_congr {n : Nat} {g g' : Nat → Int} (h : ∀ k, k < n → g k = g' k) : gen n g = gen n g' :=
  List.map_congr_left fun k hk => h k (List.mem_range.1 hk)
theorem gen_set (n i : Nat) (g : Nat → Int) (v : Int) : (gen n g).set i v = gen n (fun k => if k = i then v else g k) := by
  refine List.ext_getElem? fun j => ?_
  by_cases hj : j < n
  · rw [gen_at _ hj]
    by_cases e : j = i
    · subst e; rw [List.getElem?_set_self (by rw [gen_len]; exact hj), if_pos rfl]
    · rw [List.getElem?_set_ne (Ne.symm e), gen_at _ hj, if_neg e]
  · rw [List.getElem?_eq_none (by rw [List.length_set, gen_len]; omega), List.getElem?_eq_none (by rw [gen_len]; omega)]
theorem gen_ms (xs : List Int) : gen xs.length (msAt xs) = xs := by
  refine List.ext_getElem? fun j => ?_
  by_cases hj : j < xs.length
  · rw [gen_at _ hj, List.getElem?_eq_getElem hj, msAt_of (List.getElem?_eq_getElem hj)]
  · rw [List.getElem?_eq_none (by rw [gen_len]; omega), List.getElem?_eq_none (by omega)]
theorem gen_ts (xs : List Int) : gen xs.length (tsAt xs) = xs := gen_ms xs
theorem ms_gen {n k : Nat} {g : Nat → Int} (h : k < n) : msAt (gen n g) k = g k := msAt_of (gen_at g h)
theorem ts_gen {n k : Nat} {g : Nat → Int} (h : k < n) : tsAt (gen n g) k = g k := tsAt_of (gen_at g h)
theorem ms_out {xs : List Int} {k : Nat} (h : xs.length ≤ k) : msAt xs k = 0 := by simp [msAt, List.getElem?_eq_none h]
theorem ts_out {xs : List Int} {k : Nat} (h : xs.length ≤ k) : tsAt xs k = 0 := ms_out h
theorem gen_succ (n : Nat) (g : Nat → Int) : gen (n + 1) g = gen n g ++ [g n] := by simp [gen, List.range_succ]

/-- What lies to the left of a place. -/
def prev (f : Nat → Int) : Nat → Int
  | 0 => 0
  | k + 1 => f k
theorem prev_nil (f : Nat → Int) : prev f 0 = 0 := rfl
theorem prev_congr {f g : Nat → Int} {k : Nat} (h : ∀ j, j + 1 = k → f j = g j) : prev f k = prev g k := by
  cases k with
  | zero => rfl
  | succ k => exact h k rfl
theorem prev_zero {f : Nat → Int} (h : ∀ j, f j = 0) (k : Nat) : prev f k = 0 := by
  cases k with
  | zero => rfl
  | succ k => exact h k
/-- What stands when D has moved from each place to its right. -/
def movF (D x : Nat → Int) (k : Nat) : Int := x k - D k + prev D k
theorem sum_mov (D x : Nat → Int) : ∀ n, (gen n (movF D x)).sum = (gen n x).sum - prev D n
  | 0 => by simp [gen, prev]
  | n + 1 => by
    rw [gen_succ, gen_succ, sum_snoc, sum_snoc, sum_mov D x n, show prev D (n + 1) = D n from rfl]
    unfold movF
    omega
theorem mov_zero {D x : Nat → Int} (h : ∀ j, D j = 0) (k : Nat) : movF D x k = x k := by unfold movF; rw [h, prev_zero h]; omega
/-- Only the places of F. -/
def onl (F : List Nat) (D : Nat → Int) (k : Nat) : Int := if k ∈ F then D k else 0
theorem onl_nil (D : Nat → Int) (k : Nat) : onl [] D k = 0 := if_neg (by simp)
theorem onl_all {F : List Nat} {D : Nat → Int} (h : ∀ k, k ∉ F → D k = 0) (k : Nat) : onl F D k = D k := by
  unfold onl; split
  · rfl
  · rename_i hk; exact (h k hk).symm
/-- One place more moves. -/
theorem mov_next {n i : Nat} {F : List Nat} {D x : Nat → Int} (hi : i ∉ F) :
    ((gen n (movF (onl F D) x)).set i (movF (onl F D) x i - D i)).set (i + 1) (movF (onl F D) x (i + 1) + D i) = gen n (movF (onl (F ++ [i]) D) x) := by
  rw [gen_set, gen_set]
  refine gen_congr fun k _ => ?_
  have hm : ∀ j, onl (F ++ [i]) D j = if j = i then D i else onl F D j := fun j => by
    unfold onl
    by_cases e : j = i
    · subst e; simp
    · simp [e]
  have hi0 : onl F D i = 0 := if_neg hi
  by_cases e1 : k = i + 1
  · subst e1
    rw [if_pos rfl]
    unfold movF
    rw [hm (i + 1), if_neg (by omega), show prev (onl (F ++ [i]) D) (i + 1) = onl (F ++ [i]) D i from rfl, hm i, if_pos rfl, show prev (onl F D) (i + 1) = onl F D i from rfl, hi0]
    omega
  · rw [if_neg e1]
    have hp : prev (onl (F ++ [i]) D) k = prev (onl F D) k := prev_congr fun j hj => by rw [hm j, if_neg (by omega)]
    by_cases e : k = i
    · subst e
      rw [if_pos rfl]
      unfold movF
      rw [hp, hm k, if_pos rfl, hi0]
      omega
    · rw [if_neg e]
      unfold movF
      rw [hp, hm k, if_neg e]

/-- IsActive. -/
def actN (t l : Int) : Bool := decide (0 ≤ t ∧ 0 ≤ l ∧ l ≤ 4 ∧ t % widthOf l = 0)
theorem act_neg {t l : Int} (h : t < 0) : actN t l = false := decide_eq_false (by omega)
theorem act_out {t l : Int} (h : l < 0) : actN t l = false := decide_eq_false (by omega)
/-- The active ones of the first n faces. -/
def actF (xs : List C3) (t : Int) (n : Nat) : List Nat := (List.range n).filter fun k => actN t (faceAt xs k)
theorem actF_zero (xs : List C3) (t : Int) : actF xs t 0 = [] := rfl
theorem actF_succ (xs : List C3) (t : Int) (n : Nat) : actF xs t (n + 1) = if actN t (faceAt xs n) = true then actF xs t n ++ [n] else actF xs t n := by
  unfold actF
  rw [List.range_succ, List.filter_append]
  cases h : actN t (faceAt xs n) <;> simp [h]
theorem actF_mem {xs : List C3} {t : Int} {n k : Nat} : k ∈ actF xs t n ↔ k < n ∧ actN t (faceAt xs k) = true := by simp [actF]
theorem actF_len (xs : List C3) (t : Int) (n : Nat) : (actF xs t n).length ≤ n := by
  have := List.length_filter_le (fun k => actN t (faceAt xs k)) (List.range n)
  rw [List.length_range] at this
  exact this
theorem actF_nodup (xs : List C3) (t : Int) (n : Nat) : (actF xs t n).Nodup := List.Nodup.sublist List.filter_sublist List.nodup_range
def toI (F : List Nat) : List Int := F.map fun k : Nat => (k : Int)
theorem toI_len (F : List Nat) : (toI F).length = F.length := by simp [toI]
theorem toI_at {F : List Nat} {j k : Nat} (h : F[j]? = some k) : (toI F)[j]? = some (k : Int) := by simp [toI, h]
theorem toI_snoc (F : List Nat) (k : Nat) : toI (F ++ [k]) = toI F ++ [(k : Int)] := by simp [toI]
/-- ActiveFaces. -/
def actG (R : Int) (xs : List C3) (t : Int) : List Int := if meshOk R xs = true then toI (actF xs t (xs.length - 1)) else []
theorem take_notin {F : List Nat} (h : F.Nodup) {j k : Nat} (hk : F[j]? = some k) : k ∉ F.take j := by
  intro hm
  obtain ⟨i, hi⟩ := List.getElem?_of_mem hm
  have hil := (List.getElem?_eq_some_iff.1 hi).1
  rw [List.length_take] at hil
  rw [List.getElem?_take_of_lt (by omega)] at hi
  have hi2 := List.getElem?_eq_some_iff.1 hi
  have hj2 := List.getElem?_eq_some_iff.1 hk
  have := (List.getElem_inj h).1 (hi2.2.trans hj2.2.symm)
  omega
theorem take_snocN {F : List Nat} {k i : Nat} (h : F[k]? = some i) : F.take (k + 1) = F.take k ++ [i] := by rw [List.take_add_one, h]; rfl

/-- The flux through a face in the tick t. -/
def flowAt (xs : List C3) (ms bs : List Int) (t : Int) (k : Nat) : Int := if k + 1 < xs.length ∧ actN t (faceAt xs k) = true then fluxAt xs ms bs k else 0
/-- What leaves a leaf to its right and to its left. -/
def flowR (f : Nat → Int) (k : Nat) : Int := max (f k) 0
def flowL (f : Nat → Int) (k : Nat) : Int := max (-(prev f k)) 0
def outA (f : Nat → Int) (ms ts : List Int) (k : Nat) : Int := outR (tsAt ts k) (msAt ms k) (flowR f k) (flowL f k)
def outC (f : Nat → Int) (ms ts : List Int) (k : Nat) : Int := outL (tsAt ts k) (msAt ms k) (flowR f k) (flowL f k)
def trcF (f : Nat → Int) (ms ts : List Int) (k : Nat) : Int := outA f ms ts k - outC f ms ts (k + 1)
def stepM (xs : List C3) (ms bs : List Int) (t : Int) : List Int := gen ms.length (movF (flowAt xs ms bs t) (msAt ms))
def stepT (xs : List C3) (ms ts bs : List Int) (t : Int) : List Int := gen ms.length (movF (trcF (flowAt xs ms bs t) ms ts) (tsAt ts))
theorem stepM_len (xs : List C3) (ms bs : List Int) (t : Int) : (stepM xs ms bs t).length = ms.length := gen_len _ _
theorem stepT_len (xs : List C3) (ms ts bs : List Int) (t : Int) : (stepT xs ms ts bs t).length = ms.length := gen_len _ _

theorem share_zero (t m : Int) : shareOf t 0 m = 0 := by
  unfold shareOf
  split
  · simp
  · rfl
theorem outA_zero {f : Nat → Int} {ms ts : List Int} {k : Nat} (h : f k ≤ 0) : outA f ms ts k = 0 := by
  unfold outA outR
  rw [show flowR f k = 0 by unfold flowR; omega]
  split
  · exact share_zero _ _
  · rfl
theorem outC_zero {f : Nat → Int} {ms ts : List Int} {k : Nat} (h : 0 ≤ prev f k) : outC f ms ts k = 0 := by
  unfold outC outL
  rw [show flowL f k = 0 by unfold flowL; omega, Int.add_zero]
  split
  · omega
  · rfl
theorem outA_out {f : Nat → Int} {ms ts : List Int} {k : Nat} (h : ms.length ≤ k) : outA f ms ts k = 0 := by
  unfold outA outR outB
  rw [ms_out h]
  exact if_neg (by simp)
theorem outC_out {f : Nat → Int} {ms ts : List Int} {k : Nat} (h : ms.length ≤ k) : outC f ms ts k = 0 := by
  unfold outC outL outB
  rw [ms_out h]
  exact if_neg (by simp)
theorem trc_zero {f : Nat → Int} {ms ts : List Int} {k : Nat} (h : f k = 0) : trcF f ms ts k = 0 := by
  unfold trcF
  rw [outA_zero (by omega), outC_zero (by show 0 ≤ f k; omega)]
  omega
theorem trc_pos {f : Nat → Int} {ms ts : List Int} {k : Nat} (h : 0 ≤ f k) : trcF f ms ts k = outA f ms ts k := by
  unfold trcF
  rw [outC_zero (by show 0 ≤ f k; exact h)]
  omega
theorem trc_neg {f : Nat → Int} {ms ts : List Int} {k : Nat} (h : f k ≤ 0) : trcF f ms ts k = -(outC f ms ts (k + 1)) := by
  unfold trcF
  rw [outA_zero h]
  omega
theorem flow_out {xs : List C3} {ms bs : List Int} {t : Int} {k : Nat} (h : xs.length ≤ k + 1) : flowAt xs ms bs t k = 0 := if_neg (by omega)
theorem flow_idle {xs : List C3} {ms bs : List Int} {t : Int} {k : Nat} (h : k ∉ actF xs t (xs.length - 1)) : flowAt xs ms bs t k = 0 :=
  if_neg fun hh => h (actF_mem.2 ⟨by omega, hh.2⟩)
theorem flow_act {xs : List C3} {ms bs : List Int} {t : Int} {k : Nat} (h : k ∈ actF xs t (xs.length - 1)) : flowAt xs ms bs t k = fluxAt xs ms bs k := by
  obtain ⟨h1, h2⟩ := actF_mem.1 h
  exact if_pos ⟨by omega, h2⟩
theorem flow_neg {xs : List C3} {ms bs : List Int} {t : Int} (h : t < 0) (k : Nat) : flowAt xs ms bs t k = 0 := if_neg (by rw [act_neg h]; simp)
theorem stepM_neg {xs : List C3} {ms bs : List Int} {t : Int} (h : t < 0) : stepM xs ms bs t = ms :=
  (gen_congr fun k _ => mov_zero (fun j => flow_neg h j) k).trans (gen_ms ms)
theorem stepT_neg {xs : List C3} {ms ts bs : List Int} {t : Int} (hl : ts.length = ms.length) (h : t < 0) : stepT xs ms ts bs t = ts := by
  refine (gen_congr fun k _ => mov_zero (fun j => trc_zero (flow_neg h j)) k).trans ?_
  rw [← hl]; exact gen_ts ts

/-- What leaves a leaf of a valid state is at most half of its mass. -/
theorem flow_facts {R : Int} {xs : List C3} {ms ts bs : List Int} (h : stOk R xs ms ts bs = true) (t : Int) {k : Nat} (hk : k < ms.length) :
    0 ≤ flowR (flowAt xs ms bs t) k ∧ 0 ≤ flowL (flowAt xs ms bs t) k ∧ flowR (flowAt xs ms bs t) k ≤ msAt ms k / 4 ∧ flowL (flowAt xs ms bs t) k ≤ msAt ms k / 4 := by
  obtain ⟨-, ⟨p2, p3, p4⟩, -, -, -⟩ := stOk_parts h
  obtain ⟨m, tt, -, -, em, -, m0, m1, -⟩ := pair_at h hk
  rw [em]
  have h1 : flowAt xs ms bs t k ≤ m / 4 := by
    unfold flowAt
    split
    · rename_i hh; rw [← em]; exact (flux_facts h hh.1).1
    · omega
  have h2 : -(prev (flowAt xs ms bs t) k) ≤ m / 4 := by
    cases k with
    | zero => show -(0 : Int) ≤ _; omega
    | succ k =>
      show -(flowAt xs ms bs t k) ≤ _
      unfold flowAt
      split
      · rename_i hh; rw [← em]; exact (flux_facts h hh.1).2.1
      · omega
  unfold flowR flowL
  omega
theorem flow_bounds {R : Int} {xs : List C3} {ms ts bs : List Int} (h : stOk R xs ms ts bs = true) (t : Int) (k : Nat) : -2500000 ≤ flowAt xs ms bs t k ∧ flowAt xs ms bs t k ≤ 2500000 := by
  obtain ⟨-, ⟨p2, p3, p4⟩, -, -, -⟩ := stOk_parts h
  unfold flowAt
  split
  · rename_i hh
    obtain ⟨f1, f2, -⟩ := flux_facts h hh.1
    obtain ⟨m, tt, -, -, em, -, m0, m1, -⟩ := pair_at h (show k < ms.length by omega)
    obtain ⟨m', tt', -, -, em', -, m0', m1', -⟩ := pair_at h (show k + 1 < ms.length by omega)
    rw [em] at f1; rw [em'] at f2
    omega
  · omega
/-- What leaves a leaf, and what stays, keep a bound of its share. -/
theorem out_up {t m r l c : Int} (hm : 0 ≤ m) (hm1 : m ≤ 10000000) (ht : 0 ≤ t) (ht1 : t ≤ 1000 * m) (hr : 0 ≤ r) (hl : 0 ≤ l) (hrl : r + l ≤ m) (hc : t ≤ c * m) :
    outR t m r l ≤ c * r ∧ outL t m r l ≤ c * l ∧ t - outR t m r l - outL t m r l ≤ c * (m - r - l) := by
  by_cases h0 : m < 1
  · obtain rfl : m = 0 := by omega
    obtain rfl : r = 0 := by omega
    obtain rfl : l = 0 := by omega
    have hb : ¬ outB t 0 0 0 = true := by unfold outB; simp
    unfold outR outL
    rw [if_neg hb, if_neg hb]
    omega
  · have hb : outB t m r l = true := decide_eq_true ⟨by omega, hm1, ht, ht1, hr, hl, by omega⟩
    unfold outR outL
    rw [if_pos hb, if_pos hb]
    obtain ⟨-, a1, -, a2, -, a3⟩ := carried (r := r) (l := l) (show 1 ≤ m by omega) hm1 ht ht1 hr hl hrl
    have hq : (t + m - 1) / m ≤ c := by rw [ceil_eq (by omega)]; exact (up_le (by omega)).2 hc
    have b1 := Int.mul_le_mul_of_nonneg_right hq hr
    have b2 := Int.mul_le_mul_of_nonneg_right hq hl
    have b3 := Int.mul_le_mul_of_nonneg_right hq (show 0 ≤ m - r - l by omega)
    omega
theorem out_low {t m r l c : Int} (hm : 0 ≤ m) (hm1 : m ≤ 10000000) (ht : 0 ≤ t) (ht1 : t ≤ 1000 * m) (hr : 0 ≤ r) (hl : 0 ≤ l) (hrl : r + l ≤ m) (hc : c * m ≤ t) :
    c * r ≤ outR t m r l ∧ c * l ≤ outL t m r l ∧ c * (m - r - l) ≤ t - outR t m r l - outL t m r l := by
  by_cases h0 : m < 1
  · obtain rfl : m = 0 := by omega
    obtain rfl : r = 0 := by omega
    obtain rfl : l = 0 := by omega
    have hb : ¬ outB t 0 0 0 = true := by unfold outB; simp
    unfold outR outL
    rw [if_neg hb, if_neg hb]
    omega
  · have hb : outB t m r l = true := decide_eq_true ⟨by omega, hm1, ht, ht1, hr, hl, by omega⟩
    unfold outR outL
    rw [if_pos hb, if_pos hb]
    obtain ⟨a1, -, a2, -, a3, -⟩ := carried (r := r) (l := l) (show 1 ≤ m by omega) hm1 ht ht1 hr hl hrl
    have hq : c ≤ t / m := (le_low (by omega)).2 hc
    have b1 := Int.mul_le_mul_of_nonneg_right hq hr
    have b2 := Int.mul_le_mul_of_nonneg_right hq hl
    have b3 := Int.mul_le_mul_of_nonneg_right hq (show 0 ≤ m - r - l by omega)
    omega
/-- A leaf after a tick: its mass and its tracer, by parts. -/
theorem parts_at {xs : List C3} {ms ts bs : List Int} {t : Int} {k : Nat} :
    movF (flowAt xs ms bs t) (msAt ms) k = (msAt ms k - flowR (flowAt xs ms bs t) k - flowL (flowAt xs ms bs t) k) + prev (flowR (flowAt xs ms bs t)) k + flowL (flowAt xs ms bs t) (k + 1)
    ∧ movF (trcF (flowAt xs ms bs t) ms ts) (tsAt ts) k = (tsAt ts k - outA (flowAt xs ms bs t) ms ts k - outC (flowAt xs ms bs t) ms ts k) + prev (outA (flowAt xs ms bs t) ms ts) k + outC (flowAt xs ms bs t) ms ts (k + 1) := by
  generalize flowAt xs ms bs t = f
  unfold movF
  cases k with
  | zero =>
    have h0 : outC f ms ts 0 = 0 := outC_zero (Int.le_refl _)
    have e1 : flowL f 0 = 0 := by unfold flowL; rw [prev_nil]; omega
    have e2 : flowL f (0 + 1) = max (-(f 0)) 0 := rfl
    have e3 : flowR f 0 = max (f 0) 0 := rfl
    rw [h0, e1, e2, e3, prev_nil, prev_nil, prev_nil, prev_nil]
    unfold trcF
    refine ⟨by omega, by omega⟩
  | succ k =>
    have e2 : flowL f (k + 1 + 1) = max (-(f (k + 1))) 0 := rfl
    have e1 : flowL f (k + 1) = max (-(f k)) 0 := rfl
    have e3 : flowR f (k + 1) = max (f (k + 1)) 0 := rfl
    have e4 : prev (flowR f) (k + 1) = max (f k) 0 := rfl
    have e5 : prev f (k + 1) = f k := rfl
    have e6 : prev (outA f ms ts) (k + 1) = outA f ms ts k := rfl
    have e7 : prev (trcF f ms ts) (k + 1) = trcF f ms ts k := rfl
    rw [e1, e2, e3, e4, e5, e6, e7]
    unfold trcF
    refine ⟨by omega, by omega⟩
theorem out_keeps_up {R : Int} {xs : List C3} {ms ts bs : List Int} (h : stOk R xs ms ts bs = true) (t : Int) {c : Int} (hc : keepsUp c ms ts) {k : Nat} (hk : k < ms.length) :
    outA (flowAt xs ms bs t) ms ts k ≤ c * flowR (flowAt xs ms bs t) k ∧ outC (flowAt xs ms bs t) ms ts k ≤ c * flowL (flowAt xs ms bs t) k ∧ tsAt ts k - outA (flowAt xs ms bs t) ms ts k - outC (flowAt xs ms bs t) ms ts k ≤ c * (msAt ms k - flowR (flowAt xs ms bs t) k - flowL (flowAt xs ms bs t) k) := by
  obtain ⟨f1, f2, f3, f4⟩ := flow_facts h t hk
  obtain ⟨m, tt, hm, ht, em, et, m0, m1, t0, t1⟩ := pair_at h hk
  have := hc k m tt hm ht
  rw [← em] at this m0 m1 t1
  rw [← et] at this t0 t1
  exact out_up m0 m1 t0 t1 f1 f2 (by omega) this
theorem out_keeps_low {R : Int} {xs : List C3} {ms ts bs : List Int} (h : stOk R xs ms ts bs = true) (t : Int) {c : Int} (hc : keepsLow c ms ts) {k : Nat} (hk : k < ms.length) :
    c * flowR (flowAt xs ms bs t) k ≤ outA (flowAt xs ms bs t) ms ts k ∧ c * flowL (flowAt xs ms bs t) k ≤ outC (flowAt xs ms bs t) ms ts k ∧ c * (msAt ms k - flowR (flowAt xs ms bs t) k - flowL (flowAt xs ms bs t) k) ≤ tsAt ts k - outA (flowAt xs ms bs t) ms ts k - outC (flowAt xs ms bs t) ms ts k := by
  obtain ⟨f1, f2, f3, f4⟩ := flow_facts h t hk
  obtain ⟨m, tt, hm, ht, em, et, m0, m1, t0, t1⟩ := pair_at h hk
  have := hc k m tt hm ht
  rw [← em] at this m0 m1 t1
  rw [← et] at this t0 t1
  exact out_low m0 m1 t0 t1 f1 f2 (by omega) this
theorem flowL_out {xs : List C3} {ms bs : List Int} {t : Int} {k : Nat} (h : xs.length ≤ k) : flowL (flowAt xs ms bs t) k = 0 := by
  unfold flowL
  cases k with
  | zero => rw [prev_nil]; omega
  | succ k => rw [show prev (flowAt xs ms bs t) (k + 1) = flowAt xs ms bs t k from rfl, flow_out h]; omega
theorem keeps_at_up {R : Int} {xs : List C3} {ms ts bs : List Int} (h : stOk R xs ms ts bs = true) (t : Int) {c : Int} (hc : keepsUp c ms ts) {k : Nat} (hk : k < ms.length) :
    movF (trcF (flowAt xs ms bs t) ms ts) (tsAt ts) k ≤ c * movF (flowAt xs ms bs t) (msAt ms) k := by
  obtain ⟨-, ⟨p2, p3, p4⟩, -, -, -⟩ := stOk_parts h
  obtain ⟨q1, q2⟩ := parts_at (xs := xs) (ms := ms) (ts := ts) (bs := bs) (t := t) (k := k)
  rw [q1, q2, Int.mul_add, Int.mul_add]
  obtain ⟨-, -, a1⟩ := out_keeps_up h t hc hk
  have a2 : prev (outA (flowAt xs ms bs t) ms ts) k ≤ c * prev (flowR (flowAt xs ms bs t)) k := by
    cases k with
    | zero => show (0 : Int) ≤ c * 0; omega
    | succ k => exact (out_keeps_up h t hc (show k < ms.length by omega)).1
  have a3 : outC (flowAt xs ms bs t) ms ts (k + 1) ≤ c * flowL (flowAt xs ms bs t) (k + 1) := by
    by_cases hk1 : k + 1 < ms.length
    · exact (out_keeps_up h t hc hk1).2.1
    · rw [outC_out (by omega), flowL_out (by omega)]; omega
  omega
theorem keeps_at_low {R : Int} {xs : List C3} {ms ts bs : List Int} (h : stOk R xs ms ts bs = true) (t : Int) {c : Int} (hc : keepsLow c ms ts) {k : Nat} (hk : k < ms.length) :
    c * movF (flowAt xs ms bs t) (msAt ms) k ≤ movF (trcF (flowAt xs ms bs t) ms ts) (tsAt ts) k := by
  obtain ⟨-, ⟨p2, p3, p4⟩, -, -, -⟩ := stOk_parts h
  obtain ⟨q1, q2⟩ := parts_at (xs := xs) (ms := ms) (ts := ts) (bs := bs) (t := t) (k := k)
  rw [q1, q2, Int.mul_add, Int.mul_add]
  obtain ⟨-, -, a1⟩ := out_keeps_low h t hc hk
  have a2 : c * prev (flowR (flowAt xs ms bs t)) k ≤ prev (outA (flowAt xs ms bs t) ms ts) k := by
    cases k with
    | zero => show c * 0 ≤ (0 : Int); omega
    | succ k => exact (out_keeps_low h t hc (show k < ms.length by omega)).1
  have a3 : c * flowL (flowAt xs ms bs t) (k + 1) ≤ outC (flowAt xs ms bs t) ms ts (k + 1) := by
    by_cases hk1 : k + 1 < ms.length
    · exact (out_keeps_low h t hc hk1).2.1
    · rw [outC_out (by omega), flowL_out (by omega)]; omega
  omega
theorem step_up {R : Int} {xs : List C3} {ms ts bs : List Int} (h : stOk R xs ms ts bs = true) (t : Int) {c : Int} (hc : keepsUp c ms ts) : keepsUp c (stepM xs ms bs t) (stepT xs ms ts bs t) := by
  intro k m' t' hm ht
  have hk : k < ms.length := by have := (List.getElem?_eq_some_iff.1 hm).1; rwa [stepM_len] at this
  rw [show stepM xs ms bs t = gen ms.length _ from rfl, gen_at _ hk] at hm
  rw [show stepT xs ms ts bs t = gen ms.length _ from rfl, gen_at _ hk] at ht
  cases hm; cases ht
  exact keeps_at_up h t hc hk
theorem step_low {R : Int} {xs : List C3} {ms ts bs : List Int} (h : stOk R xs ms ts bs = true) (t : Int) {c : Int} (hc : keepsLow c ms ts) : keepsLow c (stepM xs ms bs t) (stepT xs ms ts bs t) := by
  intro k m' t' hm ht
  have hk : k < ms.length := by have := (List.getElem?_eq_some_iff.1 hm).1; rwa [stepM_len] at this
  rw [show stepM xs ms bs t = gen ms.length _ from rfl, gen_at _ hk] at hm
  rw [show stepT xs ms ts bs t = gen ms.length _ from rfl, gen_at _ hk] at ht
  cases hm; cases ht
  exact keeps_at_low h t hc hk
theorem prev_flow_end {xs : List C3} {ms bs : List Int} {t : Int} {n : Nat} (h : xs.length ≤ n) : prev (flowAt xs ms bs t) n = 0 := by
  cases n with
  | zero => rfl
  | succ n => exact flow_out h
theorem prev_trc_end {xs : List C3} {ms ts bs : List Int} {t : Int} {n : Nat} (h : xs.length ≤ n) : prev (trcF (flowAt xs ms bs t) ms ts) n = 0 := by
  cases n with
  | zero => rfl
  | succ n => exact trc_zero (flow_out h)
/-- The sums stay. -/
theorem step_sums {R : Int} {xs : List C3} {ms ts bs : List Int} (h : stOk R xs ms ts bs = true) (t : Int) : (stepM xs ms bs t).sum = ms.sum ∧ (stepT xs ms ts bs t).sum = ts.sum := by
  obtain ⟨-, ⟨p2, p3, p4⟩, -, -, -⟩ := stOk_parts h
  unfold stepM stepT
  rw [sum_mov, sum_mov, prev_flow_end (by omega), prev_trc_end (by omega), gen_ms, ← p3, gen_ts]
  omega
/-- A part of a sum of numbers that are not negative. -/
theorem le_sum {xs : List Int} (h : ∀ x ∈ xs, 0 ≤ x) {x : Int} (hx : x ∈ xs) : x ≤ xs.sum := by
  induction xs with
  | nil => cases hx
  | cons y ys ih =>
    have hs : 0 ≤ ys.sum := by
      have : ∀ l : List Int, (∀ x ∈ l, 0 ≤ x) → 0 ≤ l.sum := fun l => by
        induction l with
        | nil => intro _; exact Int.le_refl _
        | cons z zs ihz => intro q; rw [List.sum_cons]; have := q z (List.mem_cons_self ..); have := ihz fun a ha => q a (List.mem_cons_of_mem _ ha); omega
      exact this ys fun a ha => h a (List.mem_cons_of_mem _ ha)
    rw [List.sum_cons]
    have hy := h y (List.mem_cons_self ..)
    rcases List.mem_cons.1 hx with rfl | hx
    · omega
    · have := ih (fun a ha => h a (List.mem_cons_of_mem _ ha)) hx; omega
/-- A tick of a valid state is valid. -/
theorem step_ok {R : Int} {xs : List C3} {ms ts bs : List Int} (h : stOk R xs ms ts bs = true) (t : Int) : stOk R xs (stepM xs ms bs t) (stepT xs ms ts bs t) bs = true := by
  obtain ⟨p1, ⟨p2, p3, p4⟩, p5, p6, p7⟩ := stOk_parts h
  obtain ⟨s1, s2⟩ := step_sums h t
  have hup : keepsUp 1000 ms ts := fun k m t' hm ht => (of_decide_eq_true (pairs_at p5 hm ht)).2.2.2
  have hlow : keepsLow 0 ms ts := fun k m t' hm ht => by have := (of_decide_eq_true (pairs_at p5 hm ht)).2.2.1; omega
  have hm0 : ∀ k, k < ms.length → 0 ≤ movF (flowAt xs ms bs t) (msAt ms) k := fun k hk => by
    obtain ⟨q1, -⟩ := parts_at (xs := xs) (ms := ms) (ts := ts) (bs := bs) (t := t) (k := k)
    rw [q1]
    obtain ⟨f1, f2, f3, f4⟩ := flow_facts h t hk
    obtain ⟨m, tt, hm, ht, em, et, m0, m1, t0, t1⟩ := pair_at h hk
    rw [em] at f3 f4 ⊢
    have g1 : 0 ≤ prev (flowR (flowAt xs ms bs t)) k := by
      cases k with
      | zero => exact Int.le_refl _
      | succ k => show 0 ≤ max _ _; omega
    have g2 : 0 ≤ flowL (flowAt xs ms bs t) (k + 1) := by unfold flowL; omega
    omega
  have hin : ∀ x ∈ stepM xs ms bs t, 0 ≤ x := fun x hx => by
    obtain ⟨k, hk⟩ := List.getElem?_of_mem hx
    have hkl : k < ms.length := by have := (List.getElem?_eq_some_iff.1 hk).1; rwa [stepM_len] at this
    rw [show stepM xs ms bs t = gen ms.length _ from rfl, gen_at _ hkl] at hk
    cases hk
    exact hm0 k hkl
  refine stOk_mk p1 ⟨by rw [stepM_len]; exact p2, by rw [stepT_len, stepM_len], p4⟩ ?_ p6 (by omega)
  refine pairs_all (n := ms.length) (stepM_len ..) (stepT_len ..) fun j m t' hj hm ht => ?_
  have a1 := step_up h t hup j m t' hm ht
  have a2 := step_low h t hlow j m t' hm ht
  have hmm := List.mem_of_getElem? hm
  have a3 := le_sum hin hmm
  have a4 := hin m hmm
  exact decide_eq_true ⟨a4, by omega, by omega, a1⟩

/-- StepState's masses and tracers. -/
def tickS (R : Int) (xs : List C3) (bs : List Int) (p : List Int × List Int) (t : Int) : List Int × List Int := if stOk R xs p.1 p.2 bs = true then (stepM xs p.1 bs t, stepT xs p.1 p.2 bs t) else p
theorem tick_ok {R : Int} {xs : List C3} {bs : List Int} {p : List Int × List Int} (h : stOk R xs p.1 p.2 bs = true) (t : Int) : tickS R xs bs p t = (stepM xs p.1 bs t, stepT xs p.1 p.2 bs t) := if_pos h
theorem tick_bad {R : Int} {xs : List C3} {bs : List Int} {p : List Int × List Int} (h : stOk R xs p.1 p.2 bs = false) (t : Int) : tickS R xs bs p t = p := if_neg (by rw [h]; simp)
theorem tick_neg {R : Int} {xs : List C3} {bs : List Int} {p : List Int × List Int} {t : Int} (h : t < 0) : tickS R xs bs p t = p := by
  unfold tickS
  split
  · rename_i hh
    obtain ⟨-, ⟨p2, p3, p4⟩, -⟩ := stOk_parts hh
    rw [stepM_neg h, stepT_neg p3 h]
  · rfl
/-- The ticks from t on. -/
def ticks (R : Int) (xs : List C3) (bs : List Int) (p : List Int × List Int) (t : Int) : Nat → List Int × List Int
  | 0 => p
  | n + 1 => tickS R xs bs (ticks R xs bs p t n) (t + n)
theorem tick_valid {R : Int} {xs : List C3} {bs : List Int} {p : List Int × List Int} (t : Int) : stOk R xs (tickS R xs bs p t).1 (tickS R xs bs p t).2 bs = stOk R xs p.1 p.2 bs := by
  cases h : stOk R xs p.1 p.2 bs with
  | true => rw [tick_ok h]; exact step_ok h t
  | false => rw [tick_bad h]; exact h
theorem tick_lens {R : Int} {xs : List C3} {bs : List Int} {p : List Int × List Int} (t : Int) : (tickS R xs bs p t).1.length = p.1.length ∧ (tickS R xs bs p t).2.length = p.2.length := by
  unfold tickS
  split
  · rename_i h
    obtain ⟨-, ⟨p2, p3, p4⟩, -⟩ := stOk_parts h
    exact ⟨stepM_len .., (stepT_len ..).trans p3.symm⟩
  · exact ⟨rfl, rfl⟩
theorem ticks_valid {R : Int} {xs : List C3} {bs : List Int} {p : List Int × List Int} (t : Int) : ∀ n, stOk R xs (ticks R xs bs p t n).1 (ticks R xs bs p t n).2 bs = stOk R xs p.1 p.2 bs
  | 0 => rfl
  | n + 1 => (tick_valid _).trans (ticks_valid t n)
theorem ticks_lens {R : Int} {xs : List C3} {bs : List Int} {p : List Int × List Int} (t : Int) : ∀ n, (ticks R xs bs p t n).1.length = p.1.length ∧ (ticks R xs bs p t n).2.length = p.2.length
  | 0 => ⟨rfl, rfl⟩
  | n + 1 => ⟨(tick_lens _).1.trans (ticks_lens t n).1, (tick_lens _).2.trans (ticks_lens t n).2⟩
theorem ticks_bad {R : Int} {xs : List C3} {bs : List Int} {p : List Int × List Int} (h : stOk R xs p.1 p.2 bs = false) (t : Int) : ∀ n, ticks R xs bs p t n = p
  | 0 => rfl
  | n + 1 => by rw [ticks, ticks_bad h t n, tick_bad h]
theorem tick_sums {R : Int} {xs : List C3} {bs : List Int} {p : List Int × List Int} (t : Int) : (tickS R xs bs p t).1.sum = p.1.sum ∧ (tickS R xs bs p t).2.sum = p.2.sum := by
  unfold tickS
  split
  · rename_i h; exact step_sums h t
  · exact ⟨rfl, rfl⟩
theorem ticks_sums {R : Int} {xs : List C3} {bs : List Int} {p : List Int × List Int} (t : Int) : ∀ n, (ticks R xs bs p t n).1.sum = p.1.sum ∧ (ticks R xs bs p t n).2.sum = p.2.sum
  | 0 => ⟨rfl, rfl⟩
  | n + 1 => ⟨(tick_sums _).1.trans (ticks_sums t n).1, (tick_sums _).2.trans (ticks_sums t n).2⟩
theorem tick_up {R c : Int} {xs : List C3} {bs : List Int} {p : List Int × List Int} (t : Int) (h : keepsUp c p.1 p.2) : keepsUp c (tickS R xs bs p t).1 (tickS R xs bs p t).2 := by
  unfold tickS
  split
  · rename_i hh; exact step_up hh t h
  · exact h
theorem tick_low {R c : Int} {xs : List C3} {bs : List Int} {p : List Int × List Int} (t : Int) (h : keepsLow c p.1 p.2) : keepsLow c (tickS R xs bs p t).1 (tickS R xs bs p t).2 := by
  unfold tickS
  split
  · rename_i hh; exact step_low hh t h
  · exact h
theorem ticks_up {R c : Int} {xs : List C3} {bs : List Int} {p : List Int × List Int} (t : Int) (h : keepsUp c p.1 p.2) : ∀ n, keepsUp c (ticks R xs bs p t n).1 (ticks R xs bs p t n).2
  | 0 => h
  | n + 1 => tick_up _ (ticks_up t h n)
theorem ticks_low {R c : Int} {xs : List C3} {bs : List Int} {p : List Int × List Int} (t : Int) (h : keepsLow c p.1 p.2) : ∀ n, keepsLow c (ticks R xs bs p t n).1 (ticks R xs bs p t n).2
  | 0 => h
  | n + 1 => tick_low _ (ticks_low t h n)
/-- FnShareRange: no tick widens the range of the shares. -/
theorem ticks_range {R : Int} {xs : List C3} {ms ts bs : List Int} (h : stOk R xs ms ts bs = true) (t : Int) (n : Nat) :
    greatG R xs (ticks R xs bs (ms, ts) t n).1 (ticks R xs bs (ms, ts) t n).2 bs ≤ greatG R xs ms ts bs ∧ leastG R xs ms ts bs ≤ leastG R xs (ticks R xs bs (ms, ts) t n).1 (ticks R xs bs (ms, ts) t n).2 bs := by
  have o1 : stOk R xs (ticks R xs bs (ms, ts) t n).1 (ticks R xs bs (ms, ts) t n).2 bs = true := (ticks_valid t n).trans h
  obtain ⟨g0, g1⟩ := great_bounds h _ (Nat.le_refl _)
  obtain ⟨l0, l1⟩ := least_bounds h _ (Nat.le_refl _)
  have a1 := (keepsUp_iff o1 g0).1 (ticks_up (R := R) (xs := xs) (bs := bs) (p := (ms, ts)) t ((keepsUp_iff h g0).2 (Int.le_refl _)) n)
  have a2 := (keepsLow_iff o1 l1).1 (ticks_low (R := R) (xs := xs) (bs := bs) (p := (ms, ts)) t ((keepsLow_iff h l1).2 (Int.le_refl _)) n)
  refine ⟨?_, ?_⟩
  · rw [show greatG R xs ms ts bs = _ from if_pos h, show greatG R xs (ticks R xs bs (ms, ts) t n).1 (ticks R xs bs (ms, ts) t n).2 bs = _ from if_pos o1]
    exact a1
  · by_cases hs : ms.sum = 0
    · rw [show leastG R xs ms ts bs = 0 from if_neg (fun hh => hh.2 hs)]
      unfold leastG
      split
      · exact (least_bounds o1 _ (Nat.le_refl _)).1
      · exact Int.le_refl _
    · rw [show leastG R xs ms ts bs = _ from if_pos ⟨h, hs⟩, show leastG R xs (ticks R xs bs (ms, ts) t n).1 (ticks R xs bs (ms, ts) t n).2 bs = _ from if_pos ⟨o1, fun q => hs ((ticks_sums (R := R) (xs := xs) (bs := bs) (p := (ms, ts)) t n).1.symm.trans q)⟩]
      exact a2

/-- The flux through a face in the first n ticks. -/
def sumF (R : Int) (xs : List C3) (bs : List Int) (p : List Int × List Int) (k : Nat) : Nat → Int
  | 0 => 0
  | n + 1 => sumF R xs bs p k n + flowAt xs (ticks R xs bs p 0 n).1 bs n k
def fsumG (R : Int) (xs : List C3) (ms ts bs : List Int) (i : Int) : Int := if stOk R xs ms ts bs = true ∧ 0 ≤ i ∧ i + 1 < xs.length then sumF R xs bs (ms, ts) i.toNat 16 else 0
theorem sumF_bounds {R : Int} {xs : List C3} {ms ts bs : List Int} (h : stOk R xs ms ts bs = true) (k : Nat) : ∀ n : Nat, -2500000 * (n : Int) ≤ sumF R xs bs (ms, ts) k n ∧ sumF R xs bs (ms, ts) k n ≤ 2500000 * (n : Int)
  | 0 => by simp [sumF]
  | n + 1 => by
    have ih := sumF_bounds h k n
    have hv : stOk R xs (ticks R xs bs (ms, ts) 0 n).1 (ticks R xs bs (ms, ts) 0 n).2 bs = true := (ticks_valid 0 n).trans h
    have hb := flow_bounds hv (n : Int) k
    rw [sumF]
    push_cast
    omega
/-- The masses change by the fluxes through both faces. -/
theorem macro_at {R : Int} {xs : List C3} {ms ts bs : List Int} (h : stOk R xs ms ts bs = true) {k : Nat} (hk : k < ms.length) : ∀ n : Nat, msAt (ticks R xs bs (ms, ts) 0 n).1 k = msAt ms k + prev (fun j => sumF R xs bs (ms, ts) j n) k - sumF R xs bs (ms, ts) k n
  | 0 => by
    rw [show (ticks R xs bs (ms, ts) 0 0).1 = ms from rfl, show sumF R xs bs (ms, ts) k 0 = 0 from rfl, prev_zero (f := fun j => sumF R xs bs (ms, ts) j 0) (fun _ => rfl)]
    omega
  | n + 1 => by
    have ih := macro_at h hk n
    have hv : stOk R xs (ticks R xs bs (ms, ts) 0 n).1 (ticks R xs bs (ms, ts) 0 n).2 bs = true := (ticks_valid 0 n).trans h
    have hl : (ticks R xs bs (ms, ts) 0 n).1.length = ms.length := (ticks_lens 0 n).1
    have e : (ticks R xs bs (ms, ts) 0 (n + 1)).1 = stepM xs (ticks R xs bs (ms, ts) 0 n).1 bs n := by
      rw [ticks, tick_ok hv, show (0 : Int) + (n : Int) = (n : Int) by omega]
    rw [e, show stepM xs (ticks R xs bs (ms, ts) 0 n).1 bs n = gen _ _ from rfl, ms_gen (by omega)]
    unfold movF
    rw [ih, sumF]
    cases k with
    | zero => show _ + (0 : Int) - _ - _ + 0 = _ + 0 - _; omega
    | succ k =>
      rw [show prev (fun j => sumF R xs bs (ms, ts) j n) (k + 1) = sumF R xs bs (ms, ts) k n from rfl, show prev (fun j => sumF R xs bs (ms, ts) j (n + 1)) (k + 1) = sumF R xs bs (ms, ts) k n + flowAt xs (ticks R xs bs (ms, ts) 0 n).1 bs n k from rfl, show prev (flowAt xs (ticks R xs bs (ms, ts) 0 n).1 bs (n : Int)) (k + 1) = flowAt xs (ticks R xs bs (ms, ts) 0 n).1 bs n k from rfl]
      omega

/-- How many faces are active in n ticks from t on; how many should be. -/
def cntA (xs : List C3) (m : Nat) (t : Int) : Nat → Int
  | 0 => 0
  | n + 1 => cntA xs m t n + (actF xs (t + n) m).length
def wantA (xs : List C3) : Nat → Int
  | 0 => 0
  | k + 1 => wantA xs k + 2 ^ (faceAt xs k).toNat
/-- A single face. -/
def oneA (l t : Int) : Nat → Int
  | 0 => 0
  | n + 1 => oneA l t n + (if actN (t + n) l = true then 1 else 0)
theorem cntA_succ (xs : List C3) (m : Nat) (t : Int) : ∀ n, cntA xs (m + 1) t n = cntA xs m t n + oneA (faceAt xs m) t n
  | 0 => rfl
  | n + 1 => by
    rw [cntA, cntA, oneA, cntA_succ xs m t n, actF_succ]
    split
    · rw [List.length_append]; simp; omega
    · omega
theorem cntA_zero (xs : List C3) (t : Int) : ∀ n, cntA xs 0 t n = 0
  | 0 => rfl
  | n + 1 => by rw [cntA, cntA_zero xs t n, actF_zero]; rfl
theorem oneA_is {l q : Int} (l0 : 0 ≤ l) (l1 : l ≤ 4) (hq : 0 ≤ q) : oneA l (16 * q) 16 = 2 ^ l.toNat := by
  have key : ∀ j : Nat, actN (16 * q + j) l = actN j l := fun j => by
    unfold actN
    rcases lvl l0 l1 with rfl | rfl | rfl | rfl | rfl
    · rw [show widthOf 0 = 16 by decide, decide_eq_decide]; omega
    · rw [show widthOf 1 = 8 by decide, decide_eq_decide]; omega
    · rw [show widthOf 2 = 4 by decide, decide_eq_decide]; omega
    · rw [show widthOf 3 = 2 by decide, decide_eq_decide]; omega
    · rw [show widthOf 4 = 1 by decide, decide_eq_decide]; omega
  have h2 : ∀ n, oneA l (16 * q) n = oneA l 0 n := fun n => by
    induction n with
    | zero => rfl
    | succ n ih => rw [oneA, oneA, ih, key n, show (0 : Int) + (n : Int) = n by omega]
  rw [h2]
  rcases lvl l0 l1 with rfl | rfl | rfl | rfl | rfl <;> decide
theorem cnt_want {xs : List C3} {q : Int} (hq : 0 ≤ q) : ∀ m, (∀ j, j < m → 0 ≤ faceAt xs j ∧ faceAt xs j ≤ 4) → cntA xs m (16 * q) 16 = wantA xs m
  | 0, _ => cntA_zero ..
  | m + 1, h => by
    obtain ⟨a, b⟩ := h m (by omega)
    rw [cntA_succ, cnt_want hq m fun j hj => h j (by omega), wantA, oneA_is a b hq]
theorem wantA_bounds {xs : List C3} : ∀ m : Nat, (∀ j, j < m → 0 ≤ faceAt xs j ∧ faceAt xs j ≤ 4) → 0 ≤ wantA xs m ∧ wantA xs m ≤ 16 * m
  | 0, _ => by simp [wantA]
  | m + 1, h => by
    obtain ⟨a, b⟩ := h m (by omega)
    have := wantA_bounds m fun j hj => h j (by omega)
    obtain ⟨p, q⟩ := pow_small a b
    rw [wantA]
    push_cast
    omega
theorem cntA_bounds (xs : List C3) (m : Nat) (t : Int) : ∀ n : Nat, 0 ≤ cntA xs m t n ∧ cntA xs m t n ≤ n * m
  | 0 => by simp [cntA]
  | n + 1 => by
    have := cntA_bounds xs m t n
    have := actF_len xs (t + n) m
    rw [cntA, show ((n + 1 : Nat) : Int) * (m : Int) = n * m + m by push_cast; rw [Int.add_mul, Int.one_mul]]
    omega

/-- The model's tracer, leaf by leaf: what stands after the first f leaves. -/
def sprF (A C x : Nat → Int) (f k : Nat) : Int := x k - (if k < f then A k + C k else 0) + prev (fun j => if j < f then A j else 0) k + (if k + 1 < f then C (k + 1) else 0)
theorem spr_zero (A C x : Nat → Int) (k : Nat) : sprF A C x 0 k = x k := by
  unfold sprF
  rw [if_neg (by omega), if_neg (by omega), prev_zero (fun j => if_neg (by omega))]
  omega
theorem spr_next {n f : Nat} {A C x : Nat → Int} (h0 : f = 0 → C 0 = 0) :
    gen n (fun k => if k = f then sprF A C x f f - A f - C f else if k = f + 1 then sprF A C x f (f + 1) + A f else if k + 1 = f then sprF A C x f k + C f else sprF A C x f k) = gen n (sprF A C x (f + 1)) := by
  refine gen_congr fun k _ => ?_
  unfold sprF
  cases k with
  | zero =>
    simp only [prev]
    by_cases e : 0 = f
    · subst e; simp; omega
    · by_cases e1 : 0 + 1 = f
      · subst e1; simp
      · rw [if_neg e, if_neg (by omega), if_neg e1, if_pos (by omega), if_pos (by omega), if_pos (by omega), if_pos (by omega)]
  | succ k =>
    simp only [prev]
    by_cases e : k + 1 = f
    · subst e; simp; omega
    · by_cases e1 : k + 1 = f + 1
      · obtain rfl : k = f := by omega
        rw [if_neg (by omega), if_pos rfl, if_neg (by omega), if_neg (by omega), if_neg (by omega), if_neg (by omega), if_pos (by omega), if_neg (by omega)]
        omega
      · by_cases e2 : k + 1 + 1 = f
        · subst e2
          rw [if_neg e, if_neg e1, if_pos rfl, if_pos (by omega), if_pos (by omega), if_neg (by omega), if_pos (by omega), if_pos (by omega), if_pos (by omega)]
          omega
        · rw [if_neg e, if_neg e1, if_neg e2]
          congr 1
          · congr 1
            · congr 1
              by_cases q : k + 1 < f
              · rw [if_pos q, if_pos (by omega)]
              · rw [if_neg q, if_neg (by omega)]
            · by_cases q : k < f
              · rw [if_pos q, if_pos (by omega)]
              · rw [if_neg q, if_neg (by omega)]
          · by_cases q : k + 1 + 1 < f
            · rw [if_pos q, if_pos (by omega)]
            · rw [if_neg q, if_neg (by omega)]
/-- At the end it is what the fluxes moved. -/
theorem spr_end {f : Nat → Int} {ms ts : List Int} {n : Nat} (hn : ms.length ≤ n) : gen n (sprF (outA f ms ts) (outC f ms ts) (tsAt ts) n) = gen n (movF (trcF f ms ts) (tsAt ts)) := by
  refine gen_congr fun k hk => ?_
  unfold sprF movF
  rw [if_pos hk, show (if k + 1 < n then outC f ms ts (k + 1) else 0) = outC f ms ts (k + 1) by
    by_cases q : k + 1 < n
    · rw [if_pos q]
    · rw [if_neg q, outC_out (by omega)]]
  cases k with
  | zero =>
    have h0 : outC f ms ts 0 = 0 := outC_zero (Int.le_refl _)
    simp only [prev, h0, trcF]
    omega
  | succ k =>
    simp only [prev, trcF]
    rw [if_pos (by omega)]
    omega
end Go.Proofs.Ytaccigmkddomaaa.State
