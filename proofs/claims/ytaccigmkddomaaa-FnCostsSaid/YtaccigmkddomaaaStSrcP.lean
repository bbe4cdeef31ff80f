/- Rain and losses: what falls on each leaf, what each leaf loses, which leaves dry out, as numbers: a valid state stays valid, its sums change by just that. Plain lemmas.
   Conditions: none. -/
import Derived.Test.YtaccigmkddomaaaStRestP
import Derived.Test.YtaccigmkddomaaaStLedP
set_option maxRecDepth 100000
namespace Go.Proofs.Ytaccigmkddomaaa.State
open Go.ChangeShapes Go.WideShapes Go.ChangeAt Go.RowKit Go.Proofs.Ytaccigmkddomaaa.Cell Go.Proofs.Ytaccigmkddomaaa.Mesh

/-- g at the first k places, x behind them. -/
def upto (k : Nat) (g x : Nat → Int) (j : Nat) : Int := if j < k then g j else x j
theorem upto_set {n k : Nat} (g x : Nat → Int) : (gen n (upto k g x)).set k (g k) = gen n (upto (k + 1) g x) := by
  rw [gen_set]
  refine gen_congr fun j _ => ?_
  unfold upto
  by_cases e : j = k
  · subst e; rw [if_pos rfl, if_pos (by omega)]
  · rw [if_neg e]
    by_cases h : j < k
    · rw [if_pos h, if_pos (by omega)]
    · rw [if_neg h, if_neg (by omega)]
theorem upto_zero (n : Nat) (g x : Nat → Int) : gen n (upto 0 g x) = gen n x := gen_congr fun _ _ => if_neg (by omega)
theorem upto_all (n : Nat) (g x : Nat → Int) : gen n (upto n g x) = gen n g := gen_congr fun _ h => if_pos h
theorem upto_here (k : Nat) (g x : Nat → Int) : upto k g x k = x k := if_neg (by omega)

theorem sum_plus (x p : Nat → Int) : ∀ n, (gen n fun j => x j + p j).sum = (gen n x).sum + (gen n p).sum
  | 0 => rfl
  | n + 1 => by rw [gen_succ, gen_succ, gen_succ, sum_snoc, sum_snoc, sum_snoc, sum_plus x p n]; omega
theorem sum_minus (x p : Nat → Int) : ∀ n, (gen n fun j => x j - p j).sum = (gen n x).sum - (gen n p).sum
  | 0 => rfl
  | n + 1 => by rw [gen_succ, gen_succ, gen_succ, sum_snoc, sum_snoc, sum_snoc, sum_minus x p n]; omega
theorem sum_next (n : Nat) (f : Nat → Int) : (gen n f).sum + f n = (gen (n + 1) f).sum := by rw [gen_succ, sum_snoc]
theorem sum_small {f : Nat → Int} {B : Int} (h : ∀ k, 0 ≤ f k ∧ f k ≤ B) (n : Nat) : 0 ≤ (gen n f).sum ∧ (gen n f).sum ≤ n * B := by
  have := sum_bounds (xs := gen n f) (B := B) fun x hx => by
    obtain ⟨k, -, rfl⟩ := List.mem_map.1 hx
    exact h k
  rw [gen_len] at this
  exact this

/-- A leaf's part of what is stated for a whole root. -/
def partN (a : Int) (xs : List C3) (k : Nat) : Int := a * widthOf (lvAt xs k) / 16
/-- An amount of rain, or of a loss. -/
def amtB (a : Int) : Bool := decide (0 ≤ a ∧ a ≤ 10000)
def parts (a : Int) (xs : List C3) : List Int := gen xs.length (partN a xs)
/-- What falls on the first n leaves. -/
def rainN (a : Int) (xs : List C3) (n : Nat) : Int := (gen n (partN a xs)).sum
def wetAt (a : Int) (xs : List C3) (ms : List Int) (j : Nat) : Int := msAt ms j + partN a xs j
def wetM (a : Int) (xs : List C3) (ms : List Int) : List Int := gen ms.length (wetAt a xs ms)
/-- Whether there is room for it. -/
def fits (a : Int) (xs : List C3) (ms : List Int) : Bool := decide (ms.sum + rainN a xs ms.length ≤ 10000000)
def rainM (a : Int) (xs : List C3) (ms : List Int) : List Int := if fits a xs ms = true then wetM a xs ms else ms
def rainL (a : Int) (xs : List C3) (ms : List Int) : Int := if fits a xs ms = true then rainN a xs ms.length else 0
/-- What a leaf loses. -/
def lostM (a : Int) (xs : List C3) (ms : List Int) (j : Nat) : Int := min (partN a xs j) (msAt ms j)
def lostT (a : Int) (xs : List C3) (ms ts : List Int) (j : Nat) : Int := shareOf (tsAt ts j) (lostM a xs ms j) (msAt ms j)
def keptM (a : Int) (xs : List C3) (ms : List Int) (j : Nat) : Int := msAt ms j - lostM a xs ms j
def keptT (a : Int) (xs : List C3) (ms ts : List Int) (j : Nat) : Int := tsAt ts j - lostT a xs ms ts j
def soakM (a : Int) (xs : List C3) (ms : List Int) : List Int := gen ms.length (keptM a xs ms)
def soakT (a : Int) (xs : List C3) (ms ts : List Int) : List Int := gen ms.length (keptT a xs ms ts)
def goneM (a : Int) (xs : List C3) (ms : List Int) (n : Nat) : Int := (gen n (lostM a xs ms)).sum
def goneT (a : Int) (xs : List C3) (ms ts : List Int) (n : Nat) : Int := (gen n (lostT a xs ms ts)).sum
/-- Those of the first n leaves that dry out. -/
def dries (a : Int) (xs : List C3) (ms : List Int) (k : Nat) : Bool := decide (0 < msAt ms k ∧ msAt ms k ≤ partN a xs k)
def driedN (a : Int) (xs : List C3) (ms : List Int) (n : Nat) : Nat := ((List.range n).filter (dries a xs ms)).length
/-- The whole answers, whatever the arguments. -/
def srcB (R : Int) (xs : List C3) (ms ts bs : List Int) (a : Int) : Bool := stOk R xs ms ts bs && amtB a
def rnM (R : Int) (xs : List C3) (ms ts bs : List Int) (a : Int) : List Int := if srcB R xs ms ts bs a = true then rainM a xs ms else ms
def rnL (R : Int) (xs : List C3) (ms ts bs : List Int) (a : Int) : Int := if srcB R xs ms ts bs a = true then rainL a xs ms else 0
def skM (R : Int) (xs : List C3) (ms ts bs : List Int) (a : Int) : List Int := if srcB R xs ms ts bs a = true then soakM a xs ms else ms
def skT (R : Int) (xs : List C3) (ms ts bs : List Int) (a : Int) : List Int := if srcB R xs ms ts bs a = true then soakT a xs ms ts else ts
def skL1 (R : Int) (xs : List C3) (ms ts bs : List Int) (a : Int) : Int := if srcB R xs ms ts bs a = true then goneM a xs ms ms.length else 0
def skL3 (R : Int) (xs : List C3) (ms ts bs : List Int) (a : Int) : Int := if srcB R xs ms ts bs a = true then goneT a xs ms ts ms.length else 0
def drG (R : Int) (xs : List C3) (ms ts bs : List Int) (a : Int) : Int := if srcB R xs ms ts bs a = true then (driedN a xs ms ms.length : Int) else 0

theorem width_range (l : Int) : 0 ≤ widthOf l ∧ widthOf l ≤ 16 := by
  by_cases h : 0 ≤ l ∧ l ≤ 4
  · have := width_pos h.1 h.2; omega
  · rw [show widthOf l = 0 from if_neg h]; omega
theorem part_facts {a : Int} (ha : amtB a = true) (xs : List C3) (k : Nat) : (0 ≤ a * widthOf (lvAt xs k) ∧ a * widthOf (lvAt xs k) ≤ 160000) ∧ 0 ≤ partN a xs k ∧ partN a xs k ≤ 10000 := by
  obtain ⟨a0, a1⟩ := of_decide_eq_true ha
  obtain ⟨w0, w1⟩ := width_range (lvAt xs k)
  have p0 : 0 ≤ a * widthOf (lvAt xs k) := Int.mul_nonneg a0 w0
  have p1 : a * widthOf (lvAt xs k) ≤ a * 16 := Int.mul_le_mul_of_nonneg_left w1 a0
  unfold partN
  omega
theorem rain_small {a : Int} (ha : amtB a = true) (xs : List C3) (n : Nat) : 0 ≤ rainN a xs n ∧ rainN a xs n ≤ n * 10000 :=
  sum_small (fun k => (part_facts ha xs k).2) n
theorem ats_eq (xs : List Int) (k : Nat) : atI xs k = msAt xs k ∧ atI xs k = tsAt xs k := ⟨rfl, rfl⟩

section
variable {R a : Int} {xs : List C3} {ms ts bs : List Int}
/-- A leaf's numbers, at any place. -/
theorem leaf_range (h : stOk R xs ms ts bs = true) (k : Nat) : 0 ≤ msAt ms k ∧ msAt ms k ≤ 10000000 ∧ 0 ≤ tsAt ts k ∧ tsAt ts k ≤ 1000 * msAt ms k := by
  by_cases hk : k < ms.length
  · obtain ⟨a1, a2, a3, a4, a5⟩ := st_at h hk
    rw [(ats_eq ms k).1] at a1 a2 a5
    rw [(ats_eq ts k).2] at a4 a5
    omega
  · have := (st_sizes h).2.2.1
    rw [ms_out (by omega), ts_out (by omega)]
    omega
theorem lost_facts (h : stOk R xs ms ts bs = true) (ha : amtB a = true) (k : Nat) :
    (0 ≤ lostM a xs ms k ∧ lostM a xs ms k ≤ 10000 ∧ lostM a xs ms k ≤ msAt ms k) ∧ (0 ≤ lostT a xs ms ts k ∧ lostT a xs ms ts k ≤ 10000000 ∧ lostT a xs ms ts k ≤ tsAt ts k) ∧ tsAt ts k - lostT a xs ms ts k ≤ 1000 * (msAt ms k - lostM a xs ms k) := by
  obtain ⟨m0, m1, t0, t1⟩ := leaf_range h k
  obtain ⟨-, p0, p1⟩ := part_facts ha xs k
  have q : 0 ≤ lostM a xs ms k ∧ lostM a xs ms k ≤ 10000 ∧ lostM a xs ms k ≤ msAt ms k := by unfold lostM; omega
  refine ⟨q, ?_⟩
  unfold lostT
  by_cases hw : 1 ≤ msAt ms k
  · obtain ⟨-, s1, s2, s3, s4⟩ := share_bounds (t := tsAt ts k) (p := lostM a xs ms k) hw m1 q.1 q.2.2 t0 t1
    omega
  · rw [share_none (by omega)]
    omega
theorem gone_small (h : stOk R xs ms ts bs = true) (ha : amtB a = true) (n : Nat) : (0 ≤ goneM a xs ms n ∧ goneM a xs ms n ≤ n * 10000) ∧ (0 ≤ goneT a xs ms ts n ∧ goneT a xs ms ts n ≤ n * 10000000) :=
  ⟨sum_small (fun k => ⟨(lost_facts h ha k).1.1, (lost_facts h ha k).1.2.1⟩) n, sum_small (fun k => ⟨(lost_facts h ha k).2.1.1, (lost_facts h ha k).2.1.2.1⟩) n⟩
theorem wet_len : (wetM a xs ms).length = ms.length := gen_len _ _
theorem soakM_len : (soakM a xs ms).length = ms.length := gen_len _ _
theorem soakT_len : (soakT a xs ms ts).length = ms.length := gen_len _ _
theorem wet_sum : (wetM a xs ms).sum = ms.sum + rainN a xs ms.length := by
  have := sum_plus (msAt ms) (partN a xs) ms.length
  rw [gen_ms] at this
  exact this
theorem soak_sum (h : stOk R xs ms ts bs = true) : (soakM a xs ms).sum = ms.sum - goneM a xs ms ms.length ∧ (soakT a xs ms ts).sum = ts.sum - goneT a xs ms ts ms.length := by
  have h1 := sum_minus (msAt ms) (lostM a xs ms) ms.length
  have h2 := sum_minus (tsAt ts) (lostT a xs ms ts) ms.length
  have hl := (st_sizes h).2.2.1
  rw [gen_ms] at h1
  rw [← hl, gen_ts, hl] at h2
  exact ⟨h1, h2⟩
theorem wet_ok (h : stOk R xs ms ts bs = true) (ha : amtB a = true) (hf : fits a xs ms = true) : stOk R xs (wetM a xs ms) ts bs = true := by
  obtain ⟨h1, ⟨h2, h3, h4⟩, h5, h6, h7⟩ := stOk_parts h
  have hs : (wetM a xs ms).sum ≤ 10000000 := by rw [wet_sum]; exact of_decide_eq_true hf
  have h0 : ∀ x ∈ wetM a xs ms, 0 ≤ x := fun x hx => by
    obtain ⟨k, -, rfl⟩ := List.mem_map.1 hx
    have := (leaf_range h k).1
    have := (part_facts ha xs k).2.1
    unfold wetAt; omega
  refine stOk_mk h1 ⟨by rw [wet_len]; exact h2, by rw [wet_len]; exact h3, h4⟩ ?_ h6 hs
  refine pairs_all (n := ms.length) wet_len h3 fun j m' t' hj hm' ht' => ?_
  have e1 : atI (wetM a xs ms) j = m' := atI_of hm'
  have e2 : tsAt ts j = t' := tsAt_of ht'
  have e3 : m' = wetAt a xs ms j := by
    have := gen_at (wetAt a xs ms) hj
    rw [show gen ms.length (wetAt a xs ms) = wetM a xs ms from rfl, hm'] at this
    injection this
  have b := at_le_sum h0 j
  have c := leaf_range h j
  have d := (part_facts ha xs j).2
  unfold wetAt at e3
  exact decide_eq_true (by omega)
theorem soak_ok (h : stOk R xs ms ts bs = true) (ha : amtB a = true) : stOk R xs (soakM a xs ms) (soakT a xs ms ts) bs = true := by
  obtain ⟨h1, ⟨h2, h3, h4⟩, h5, h6, h7⟩ := stOk_parts h
  refine stOk_mk h1 ⟨by rw [soakM_len]; exact h2, by rw [soakM_len, soakT_len], h4⟩ ?_ h6 ?_
  · refine pairs_all (n := ms.length) soakM_len soakT_len fun j m' t' hj hm' ht' => ?_
    have e1 : m' = keptM a xs ms j := by
      have := gen_at (keptM a xs ms) hj
      rw [show gen ms.length (keptM a xs ms) = soakM a xs ms from rfl, hm'] at this
      injection this
    have e2 : t' = keptT a xs ms ts j := by
      have := gen_at (keptT a xs ms ts) hj
      rw [show gen ms.length (keptT a xs ms ts) = soakT a xs ms ts from rfl, ht'] at this
      injection this
    have c := leaf_range h j
    have d := lost_facts h ha j
    unfold keptM at e1
    unfold keptT at e2
    exact decide_eq_true (by omega)
  · rw [(soak_sum h).1]
    have := (gone_small h ha ms.length).1.1
    omega
theorem rain_ok (h : stOk R xs ms ts bs = true) (ha : amtB a = true) : stOk R xs (rainM a xs ms) ts bs = true := by
  unfold rainM
  by_cases hf : fits a xs ms = true
  · rw [if_pos hf]; exact wet_ok h ha hf
  · rw [if_neg hf]; exact h
theorem rain_sum : (rainM a xs ms).sum = ms.sum + rainL a xs ms := by
  unfold rainM rainL
  by_cases hf : fits a xs ms = true
  · rw [if_pos hf, if_pos hf]; exact wet_sum
  · rw [if_neg hf, if_neg hf]; omega
theorem rain_len : (rainM a xs ms).length = ms.length := by
  unfold rainM
  by_cases hf : fits a xs ms = true
  · rw [if_pos hf]; exact wet_len
  · rw [if_neg hf]
/-- The same of the whole answers. -/
theorem src_parts (h : srcB R xs ms ts bs a = true) : stOk R xs ms ts bs = true ∧ amtB a = true := by
  unfold srcB at h
  rw [Bool.and_eq_true] at h
  exact h
theorem rn_lens : (rnM R xs ms ts bs a).length = ms.length := by
  unfold rnM
  split
  · exact rain_len
  · rfl
theorem sk_lens (hl : ts.length = ms.length) : (skM R xs ms ts bs a).length = ms.length ∧ (skT R xs ms ts bs a).length = ms.length := by
  unfold skM skT
  split
  · exact ⟨soakM_len, soakT_len⟩
  · exact ⟨rfl, hl⟩
theorem sk_lens' : (skM R xs ms ts bs a).length = ms.length ∧ (skT R xs ms ts bs a).length = ts.length := by
  unfold skM skT
  split
  · rename_i h
    exact ⟨soakM_len, by rw [(st_sizes (src_parts h).1).2.2.1]; exact soakT_len⟩
  · exact ⟨rfl, rfl⟩
theorem rn_ok (h : stOk R xs ms ts bs = true) : stOk R xs (rnM R xs ms ts bs a) ts bs = true ∧ (rnM R xs ms ts bs a).sum = ms.sum + rnL R xs ms ts bs a ∧ 0 ≤ rnL R xs ms ts bs a ∧ rnL R xs ms ts bs a ≤ 10000000 := by
  unfold rnM rnL
  split
  · rename_i hb
    obtain ⟨-, ha⟩ := src_parts hb
    refine ⟨rain_ok h ha, rain_sum, ?_⟩
    unfold rainL
    have := rain_small ha xs ms.length
    have := (st_sizes h).2.1
    split <;> omega
  · exact ⟨h, by omega, by omega, by omega⟩
theorem sk_ok (h : stOk R xs ms ts bs = true) : stOk R xs (skM R xs ms ts bs a) (skT R xs ms ts bs a) bs = true ∧ (skM R xs ms ts bs a).sum = ms.sum - skL1 R xs ms ts bs a ∧ (skT R xs ms ts bs a).sum = ts.sum - skL3 R xs ms ts bs a ∧ (0 ≤ skL1 R xs ms ts bs a ∧ skL1 R xs ms ts bs a ≤ 10000000) ∧ 0 ≤ skL3 R xs ms ts bs a ∧ skL3 R xs ms ts bs a ≤ 10000000000 := by
  unfold skM skT skL1 skL3
  split
  · rename_i hb
    obtain ⟨-, ha⟩ := src_parts hb
    have := gone_small h ha ms.length
    have := (st_sizes h).2.1
    exact ⟨soak_ok h ha, (soak_sum h).1, (soak_sum h).2, by omega, by omega⟩
  · exact ⟨h, by omega, by omega, by omega, by omega⟩

theorem dried_succ (a : Int) (xs : List C3) (ms : List Int) (n : Nat) : driedN a xs ms (n + 1) = if dries a xs ms n = true then driedN a xs ms n + 1 else driedN a xs ms n := by
  unfold driedN
  rw [List.range_succ, List.filter_append]
  cases h : dries a xs ms n <;> simp [h]
theorem dried_yes {n : Nat} (h : dries a xs ms n = true) : driedN a xs ms (n + 1) = driedN a xs ms n + 1 := by rw [dried_succ, if_pos h]
theorem dried_no {n : Nat} (h : dries a xs ms n = false) : driedN a xs ms (n + 1) = driedN a xs ms n := by rw [dried_succ, h]; rfl
theorem dried_len (a : Int) (xs : List C3) (ms : List Int) (n : Nat) : driedN a xs ms n ≤ n := by
  have := List.length_filter_le (dries a xs ms) (List.range n)
  rw [List.length_range] at this
  exact this
theorem soak_at {k : Nat} (hk : k < ms.length) : msAt (soakM a xs ms) k = keptM a xs ms k ∧ tsAt (soakT a xs ms ts) k = keptT a xs ms ts k := ⟨ms_gen hk, ts_gen hk⟩
/-- A leaf is dry behind a loss exactly if the loss is at least its mass. -/
theorem kept_zero (h : stOk R xs ms ts bs = true) (ha : amtB a = true) (k : Nat) : keptM a xs ms k = 0 ↔ msAt ms k ≤ partN a xs k := by
  have := leaf_range h k
  have := (part_facts ha xs k).2
  unfold keptM lostM
  omega
theorem dry_soak (h : stOk R xs ms ts bs = true) (ha : amtB a = true) : ∀ n, n ≤ ms.length → (dryF (soakM a xs ms) n).length = (dryF ms n).length + driedN a xs ms n
  | 0, _ => rfl
  | n + 1, hn => by
    have ih := dry_soak h ha n (by omega)
    have hk := kept_zero h ha n
    rw [← (soak_at (ts := ts) (show n < ms.length by omega)).1] at hk
    have hr := leaf_range h n
    have hp := (part_facts ha xs n).2
    by_cases hd : msAt ms n = 0
    · rw [dryF_yes hd, dryF_yes (hk.2 (by omega)), dried_no (decide_eq_false (by omega)), List.length_append, List.length_append, ih]
      simp only [List.length_singleton]
      omega
    · by_cases hq : msAt ms n ≤ partN a xs n
      · rw [dryF_no hd, dryF_yes (hk.2 hq), dried_yes (decide_eq_true (by omega)), List.length_append, ih]
        simp only [List.length_singleton]
        omega
      · rw [dryF_no hd, dryF_no (fun e => hq (hk.1 e)), dried_no (decide_eq_false (by omega)), ih]
/-- DryOut, as the lengths of two lists. -/
theorem dr_lens : ((dryG R xs (skM R xs ms ts bs a) (skT R xs ms ts bs a) bs).length : Int) - ((dryG R xs ms ts bs).length : Int) = drG R xs ms ts bs a := by
  unfold drG
  by_cases hb : srcB R xs ms ts bs a = true
  · obtain ⟨h, ha⟩ := src_parts hb
    have h2 := (sk_ok (a := a) h).1
    rw [if_pos hb]
    unfold dryG
    rw [if_pos h, if_pos h2]
    unfold skM
    rw [if_pos hb, toI_len, toI_len, soakM_len, dry_soak h ha _ (Nat.le_refl _)]
    omega
  · unfold skM skT
    rw [if_neg hb, if_neg hb, if_neg hb]
    omega
/-- What a leaf that is dry behind a loss has. -/
theorem soak_dry (h : stOk R xs ms ts bs = true) (k : Nat) : msAt (skM R xs ms ts bs a) k = 0 → tsAt (skT R xs ms ts bs a) k = 0 := fun e => by
  have q := leaf_range (sk_ok (a := a) h).1 k
  omega
end
end Go.Proofs.Ytaccigmkddomaaa.State
