/- Decay of the tracer: what each leaf loses, how often a tracer decays until it is at most a limit, the amount that decays no more, as numbers: a valid state stays valid, the sum of its tracers changes by just that. Plain lemmas.
   Conditions: none. -/
import Derived.Test.YtcboogodphpjbaaStSrcP
set_option maxRecDepth 100000
namespace Go.Proofs.Ytcboogodphpjbaa.State
open Go.ChangeShapes Go.WideShapes Go.ChangeAt Go.RowKit Go.Proofs.Ytcboogodphpjbaa.Cell Go.Proofs.Ytcboogodphpjbaa.Mesh

def rateB (r : Int) : Bool := decide (0 ≤ r ∧ r ≤ 1000)
def tracerB (t : Int) : Bool := decide (0 ≤ t ∧ t ≤ 10000000000)
/-- What a tracer loses. -/
def decN (r t : Int) : Int := t * r / 1000
def decAt (r : Int) (ts : List Int) (j : Nat) : Int := decN r (tsAt ts j)
def lowAt (r : Int) (ts : List Int) (j : Nat) : Int := tsAt ts j - decAt r ts j
def lowT (r : Int) (ts : List Int) : List Int := gen ts.length (lowAt r ts)
/-- What the first n leaves lose. -/
def lossT (r : Int) (ts : List Int) (n : Nat) : Int := (gen n (decAt r ts)).sum
/-- The whole answers, whatever the arguments. -/
def dyB (R : Int) (xs : List C3) (ms ts bs : List Int) (r : Int) : Bool := stOk R xs ms ts bs && rateB r
def dyT (R : Int) (xs : List C3) (ms ts bs : List Int) (r : Int) : List Int := if dyB R xs ms ts bs r = true then lowT r ts else ts
def dyL (R : Int) (xs : List C3) (ms ts bs : List Int) (r : Int) : Int := if dyB R xs ms ts bs r = true then lossT r ts ts.length else 0
/-- How often a tracer t decays until it is at most l, from n on; at most f times. -/
def tk (r l : Int) : Nat → Int → Int → Int
  | 0, _, n => n
  | f + 1, t, n => if l < t then (if decN r t = 0 then -1 else tk r l f (t - decN r t) (n + 1)) else n
def ticksOf (t r l : Int) : Int := if (tracerB t && (tracerB l && rateB r)) = true then tk r l t.toNat t 0 else -1
/-- The amount that decays no more. -/
def stab (r : Int) : Int := if 1 ≤ r ∧ r ≤ 1000 then 999 / r else -1

theorem dec_facts {r t : Int} (hr : rateB r = true) (h0 : 0 ≤ t) : 0 ≤ t * r ∧ t * r ≤ t * 1000 ∧ 0 ≤ decN r t ∧ decN r t ≤ t := by
  obtain ⟨r0, r1⟩ := of_decide_eq_true hr
  have p0 : 0 ≤ t * r := Int.mul_nonneg h0 r0
  have p1 : t * r ≤ t * 1000 := Int.mul_le_mul_of_nonneg_left r1 h0
  unfold decN
  omega

section
variable {R r : Int} {xs : List C3} {ms ts bs : List Int}
theorem decay_facts (h : stOk R xs ms ts bs = true) (hr : rateB r = true) (k : Nat) : 0 ≤ decAt r ts k ∧ decAt r ts k ≤ tsAt ts k ∧ decAt r ts k ≤ 10000000000 ∧ 0 ≤ tsAt ts k * r ∧ tsAt ts k * r ≤ 10000000000000 := by
  obtain ⟨m0, m1, t0, t1⟩ := leaf_range h k
  obtain ⟨p0, p1, p2, p3⟩ := dec_facts hr t0
  unfold decAt
  omega
theorem loss_small (h : stOk R xs ms ts bs = true) (hr : rateB r = true) (n : Nat) : 0 ≤ lossT r ts n ∧ lossT r ts n ≤ n * 10000000000 :=
  sum_small (fun k => ⟨(decay_facts h hr k).1, (decay_facts h hr k).2.2.1⟩) n
theorem left_len : (lowT r ts).length = ts.length := gen_len _ _
theorem left_sum : (lowT r ts).sum = ts.sum - lossT r ts ts.length := by
  have := sum_minus (tsAt ts) (decAt r ts) ts.length
  rw [gen_ts] at this
  exact this
theorem left_ok (h : stOk R xs ms ts bs = true) (hr : rateB r = true) : stOk R xs ms (lowT r ts) bs = true := by
  obtain ⟨h1, ⟨h2, h3, h4⟩, h5, h6, h7⟩ := stOk_parts h
  refine stOk_mk h1 ⟨h2, by rw [left_len]; exact h3, h4⟩ ?_ h6 h7
  refine pairs_all (n := ms.length) rfl (by rw [left_len]; exact h3) fun j m' t' hj hm' ht' => ?_
  have e1 := msAt_of hm'
  have e2 : t' = lowAt r ts j := by
    have := gen_at (lowAt r ts) (show j < ts.length by omega)
    rw [show gen ts.length (lowAt r ts) = lowT r ts from rfl, ht'] at this
    injection this
  have c := leaf_range h j
  have d := decay_facts h hr j
  unfold lowAt at e2
  exact decide_eq_true (by omega)
theorem dy_len : (dyT R xs ms ts bs r).length = ts.length := by
  unfold dyT
  by_cases h : dyB R xs ms ts bs r = true
  · rw [if_pos h]; exact left_len
  · rw [if_neg h]
theorem dy_ok (h : stOk R xs ms ts bs = true) : stOk R xs ms (dyT R xs ms ts bs r) bs = true ∧ (dyT R xs ms ts bs r).sum = ts.sum - dyL R xs ms ts bs r ∧ 0 ≤ dyL R xs ms ts bs r ∧ dyL R xs ms ts bs r ≤ 1280000000000 := by
  unfold dyT dyL
  by_cases hd : dyB R xs ms ts bs r = true
  · rw [if_pos hd, if_pos hd]
    have hr : rateB r = true := by
      unfold dyB at hd
      rw [h] at hd
      exact hd
    have hs := loss_small h hr ts.length
    obtain ⟨z1, z2, z3, z4⟩ := st_sizes h
    refine ⟨left_ok h hr, left_sum, hs.1, ?_⟩
    omega
  · rw [if_neg hd, if_neg hd]
    exact ⟨h, by omega, by omega, by omega⟩
end

theorem tk_stop {r l t : Int} (h : ¬ l < t) : ∀ (f : Nat) (n : Int), tk r l f t n = n
  | 0, _ => rfl
  | _ + 1, _ => if_neg h
theorem tk_none {r l t : Int} (h : l < t) (hd : decN r t = 0) (f : Nat) (n : Int) : tk r l (f + 1) t n = -1 := by rw [tk, if_pos h, if_pos hd]
theorem tk_next {r l t : Int} (h : l < t) (hd : ¬ decN r t = 0) (f : Nat) (n : Int) : tk r l (f + 1) t n = tk r l f (t - decN r t) (n + 1) := by rw [tk, if_pos h, if_neg hd]
theorem stab_facts {r : Int} (h1 : 1 ≤ r) (h2 : r ≤ 1000) : 0 ≤ 999 / r ∧ 999 / r ≤ 999 ∧ 0 ≤ 999 / r * r ∧ 999 / r * r ≤ 999 ∧ 1000 ≤ (999 / r + 1) * r ∧ (999 / r + 1) * r ≤ 1999 := by
  have e := Int.mul_ediv_add_emod 999 r
  have m0 := Int.emod_nonneg 999 (show r ≠ 0 by omega)
  have m1 := Int.emod_lt_of_pos 999 (show 0 < r by omega)
  have q0 : 0 ≤ 999 / r := Int.ediv_nonneg (by omega) (by omega)
  have q1 : 999 / r ≤ 999 := Int.ediv_le_self r (by omega)
  have c : r * (999 / r) = 999 / r * r := Int.mul_comm _ _
  have d : (999 / r + 1) * r = 999 / r * r + r := by rw [Int.add_mul, Int.one_mul]
  rw [c] at e
  generalize 999 / r * r = z at *
  generalize 999 / r = q at *
  omega
theorem stab_dec {r t : Int} (h1 : 1 ≤ r) (h2 : r ≤ 1000) (h : 999 / r < t) : ¬ decN r t = 0 := by
  obtain ⟨-, -, -, -, a, -⟩ := stab_facts h1 h2
  have b : (999 / r + 1) * r ≤ t * r := Int.mul_le_mul_of_nonneg_right (by omega) (by omega)
  unfold decN
  omega
theorem tk_ge {r : Int} (h1 : 1 ≤ r) (h2 : r ≤ 1000) : ∀ (f : Nat) (t n : Int), n ≤ tk r (999 / r) f t n
  | 0, _, n => Int.le_refl n
  | f + 1, t, n => by
    by_cases h : 999 / r < t
    · rw [tk_next h (stab_dec h1 h2 h)]
      have := tk_ge h1 h2 f (t - decN r t) (n + 1)
      omega
    · rw [tk_stop h]
      exact Int.le_refl n
/-- Where the count ends. -/
theorem tk_at {r t n N : Int} {f : Nat} (h1 : 1 ≤ r) (h2 : r ≤ 1000) (hf : t ≤ f) (e : tk r (999 / r) f t n = N) : (n < N → 999 / r < t) ∧ (N ≤ n → t ≤ 999 / r) := by
  refine ⟨fun h => ?_, fun h => ?_⟩
  · rcases Int.lt_or_le (999 / r) t with q | q
    · exact q
    · rw [tk_stop (by omega)] at e
      omega
  · rcases Int.lt_or_le (999 / r) t with q | q
    · have := (stab_facts h1 h2).1
      obtain ⟨g, rfl⟩ : ∃ g, f = g + 1 := ⟨f - 1, by omega⟩
      rw [tk_next q (stab_dec h1 h2 q)] at e
      have := tk_ge h1 h2 g (t - decN r t) (n + 1)
      omega
    · exact q
theorem ticks_stab {r t : Int} (h1 : 1 ≤ r) (h2 : r ≤ 1000) (t0 : 0 ≤ t) (t1 : t ≤ 10000000000) : ticksOf t r (stab r) = tk r (999 / r) t.toNat t 0 := by
  obtain ⟨q0, q1, -⟩ := stab_facts h1 h2
  have e : stab r = 999 / r := if_pos ⟨h1, h2⟩
  rw [ticksOf, e, show tracerB t = true from decide_eq_true ⟨t0, t1⟩, show tracerB (999 / r) = true from decide_eq_true (by omega), show rateB r = true from decide_eq_true (by omega)]
  rfl
end Go.Proofs.Ytcboogodphpjbaa.State
