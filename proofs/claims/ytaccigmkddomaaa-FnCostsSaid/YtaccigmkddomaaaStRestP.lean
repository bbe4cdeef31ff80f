/- States at rest: when nothing flows, how far surfaces lie apart, which leaves are dry, where the water begins and ends, as numbers; a tick leaves a state at rest as it is, and a filled lake is at rest. Plain lemmas.
   Conditions: none. -/
import Derived.Test.YtaccigmkddomaaaStStepP
set_option maxRecDepth 100000
namespace Go.Proofs.Ytaccigmkddomaaa.State
open Go.ChangeShapes Go.WideShapes Go.ChangeAt Go.RowKit Go.Proofs.Ytaccigmkddomaaa.Cell Go.Proofs.Ytaccigmkddomaaa.Mesh

/-- Nothing flows through the first n faces. -/
def still (xs : List C3) (ms bs : List Int) (n : Nat) : Bool := decide (∀ k, k < n → fluxAt xs ms bs k = 0)
/-- IsAtRest. -/
def restG (R : Int) (xs : List C3) (ms ts bs : List Int) : Bool := stOk R xs ms ts bs && still xs ms bs (xs.length - 1)
theorem still_all {xs : List C3} {ms bs : List Int} {n : Nat} (h : ∀ k, k < n → fluxAt xs ms bs k = 0) : still xs ms bs n = true := decide_eq_true h
theorem still_no {xs : List C3} {ms bs : List Int} {n k : Nat} (h : k < n) (h2 : fluxAt xs ms bs k ≠ 0) : still xs ms bs n = false := decide_eq_false fun q => h2 (q k h)
theorem still_at {xs : List C3} {ms bs : List Int} {n k : Nat} (h : still xs ms bs n = true) (hk : k < n) : fluxAt xs ms bs k = 0 := of_decide_eq_true h k hk

/-- Neither leaf of the face k lies too high above the other. -/
def levF (xs : List C3) (ms bs : List Int) (w : Int) (k : Nat) : Bool := !(decide (w < surf xs ms bs k - surf xs ms bs (k + 1) ∧ 4 ≤ msAt ms k) || decide (w < surf xs ms bs (k + 1) - surf xs ms bs k ∧ 4 ≤ msAt ms (k + 1)))
def lev (xs : List C3) (ms bs : List Int) (w : Int) (n : Nat) : Bool := decide (∀ k, k < n → levF xs ms bs w k = true)
/-- IsLevelWithin. -/
def levG (R : Int) (xs : List C3) (ms ts bs : List Int) (w : Int) : Bool := stOk R xs ms ts bs && lev xs ms bs w (xs.length - 1)
theorem lev_all {xs : List C3} {ms bs : List Int} {w : Int} {n : Nat} (h : ∀ k, k < n → levF xs ms bs w k = true) : lev xs ms bs w n = true := decide_eq_true h
theorem lev_no {xs : List C3} {ms bs : List Int} {w : Int} {n k : Nat} (h : k < n) (h2 : levF xs ms bs w k = false) : lev xs ms bs w n = false := decide_eq_false fun q => by rw [q k h] at h2; cases h2
theorem levF_yes {xs : List C3} {ms bs : List Int} {w : Int} {k : Nat} (h1 : ¬ (w < surf xs ms bs k - surf xs ms bs (k + 1) ∧ 4 ≤ msAt ms k)) (h2 : ¬ (w < surf xs ms bs (k + 1) - surf xs ms bs k ∧ 4 ≤ msAt ms (k + 1))) : levF xs ms bs w k = true := by
  unfold levF; rw [decide_eq_false h1, decide_eq_false h2]; rfl
theorem levF_no {xs : List C3} {ms bs : List Int} {w : Int} {k : Nat} (h : (w < surf xs ms bs k - surf xs ms bs (k + 1) ∧ 4 ≤ msAt ms k) ∨ (w < surf xs ms bs (k + 1) - surf xs ms bs k ∧ 4 ≤ msAt ms (k + 1))) : levF xs ms bs w k = false := by
  unfold levF
  rcases h with h | h
  · rw [decide_eq_true h]; rfl
  · rw [decide_eq_true h, Bool.or_true]; rfl

/-- The dry ones of the first n leaves. -/
def dryF (ms : List Int) (n : Nat) : List Nat := (List.range n).filter fun k => decide (msAt ms k = 0)
theorem dryF_succ (ms : List Int) (n : Nat) : dryF ms (n + 1) = if msAt ms n = 0 then dryF ms n ++ [n] else dryF ms n := by
  unfold dryF
  rw [List.range_succ, List.filter_append]
  by_cases h : msAt ms n = 0 <;> simp [h]
theorem dryF_yes {ms : List Int} {n : Nat} (h : msAt ms n = 0) : dryF ms (n + 1) = dryF ms n ++ [n] := by rw [dryF_succ, if_pos h]
theorem dryF_no {ms : List Int} {n : Nat} (h : msAt ms n ≠ 0) : dryF ms (n + 1) = dryF ms n := by rw [dryF_succ, if_neg h]
theorem dryF_len (ms : List Int) (n : Nat) : (dryF ms n).length ≤ n := by
  have := List.length_filter_le (fun k => decide (msAt ms k = 0)) (List.range n)
  rw [List.length_range] at this
  exact this
/-- All of the first n leaves are dry exactly if so many of them are. -/
theorem dryF_all (ms : List Int) : ∀ n, (dryF ms n).length = n ↔ ∀ j, j < n → msAt ms j = 0
  | 0 => by simp [dryF]
  | n + 1 => by
    have hl := dryF_len ms n
    have ih := dryF_all ms n
    by_cases h : msAt ms n = 0
    · rw [dryF_yes h, List.length_append, List.length_singleton]
      refine ⟨fun q j hj => ?_, fun q => by have := ih.2 fun j hj => q j (by omega); omega⟩
      by_cases e : j = n
      · rw [e]; exact h
      · exact ih.1 (by omega) j (by omega)
    · rw [dryF_no h]
      exact ⟨fun q => by omega, fun q => absurd (q n (by omega)) h⟩
/-- DryLeaves. -/
def dryG (R : Int) (xs : List C3) (ms ts bs : List Int) : List Int := if stOk R xs ms ts bs = true then toI (dryF ms ms.length) else []
theorem dryG_len {R : Int} {xs : List C3} {ms ts bs : List Int} : (dryG R xs ms ts bs).length ≤ ms.length := by
  unfold dryG
  split
  · rw [toI_len]; exact dryF_len _ _
  · exact Nat.zero_le _

/-- Where a leaf starts and ends. -/
def begAt (xs : List C3) (k : Nat) : Int := stOf ((xs[k]?).getD (0, 0, 0))
def endAt (xs : List C3) (k : Nat) : Int := stOf ((xs[k]?).getD (0, 0, 0)) + wdOf ((xs[k]?).getD (0, 0, 0))
/-- Where the water of the first leaves begins and ends. -/
def water (xs : List C3) (ms : List Int) : Nat → Int × Int
  | 0 => (0, 0)
  | k + 1 => if msAt ms k = 0 then water xs ms k else ((if (water xs ms k).2 = 0 then begAt xs k else (water xs ms k).1), endAt xs k)
theorem water_dry {xs : List C3} {ms : List Int} {k : Nat} (h : msAt ms k = 0) : water xs ms (k + 1) = water xs ms k := by rw [water, if_pos h]
theorem water_first {xs : List C3} {ms : List Int} {k : Nat} (h : msAt ms k ≠ 0) (h2 : (water xs ms k).2 = 0) : water xs ms (k + 1) = (begAt xs k, endAt xs k) := by rw [water, if_neg h, if_pos h2]
theorem water_next {xs : List C3} {ms : List Int} {k : Nat} (h : msAt ms k ≠ 0) (h2 : (water xs ms k).2 ≠ 0) : water xs ms (k + 1) = ((water xs ms k).1, endAt xs k) := by rw [water, if_neg h, if_neg h2]
/-- WaterLine. -/
def waterG (R : Int) (xs : List C3) (ms ts bs : List Int) : Int × Int := if stOk R xs ms ts bs = true then water xs ms ms.length else (0, 0)
theorem ends_at {R : Int} {xs : List C3} (h : meshOk R xs = true) {k : Nat} (hk : k < xs.length) : ∃ x, xs[k]? = some x ∧ begAt xs k = stOf x ∧ endAt xs k = stOf x + wdOf x ∧ 0 ≤ begAt xs k ∧ begAt xs k < endAt xs k ∧ endAt xs k ≤ 128 := by
  obtain ⟨x, hx⟩ : ∃ x, xs[k]? = some x := ⟨_, List.getElem?_eq_getElem hk⟩
  obtain ⟨b1, b2, b3, b4, b5, b6, b7, b8, b9⟩ := ok_bounds ((mesh_parts h).1 k x hx)
  refine ⟨x, hx, by simp [begAt, hx], by simp [endAt, hx], ?_⟩
  rw [show begAt xs k = stOf x by simp [begAt, hx], show endAt xs k = stOf x + wdOf x by simp [endAt, hx]]
  omega
/-- What the water's ends keep. -/
theorem water_facts {R : Int} {xs : List C3} {ms : List Int} (h : meshOk R xs = true) : ∀ k, k ≤ xs.length →
    0 ≤ (water xs ms k).1 ∧ (water xs ms k).1 ≤ (water xs ms k).2 ∧ (water xs ms k).2 ≤ 128 ∧ (∀ j x, k ≤ j → xs[j]? = some x → (water xs ms k).2 ≤ stOf x) ∧ ((water xs ms k).2 = 0 ↔ ∀ j, j < k → msAt ms j = 0)
  | 0, _ => by
    refine ⟨Int.le_refl _, Int.le_refl _, by show (0 : Int) ≤ 128; omega, fun j x _ hx => ?_, ⟨fun _ j hj => by omega, fun _ => rfl⟩⟩
    obtain ⟨b1, b2, b3, b4, b5, b6, b7, b8, b9⟩ := ok_bounds ((mesh_parts h).1 j x hx)
    show (0 : Int) ≤ _
    omega
  | k + 1, hk => by
    obtain ⟨i0, i1, i2, i3, i4⟩ := water_facts (ms := ms) h k (by omega)
    obtain ⟨y, hy, ey, ez, y0, y1, y2⟩ := ends_at h (k := k) (by omega)
    have hyk := i3 k y (Nat.le_refl _) hy
    have ho : ∀ j x, k + 1 ≤ j → xs[j]? = some x → endAt xs k ≤ stOf x := fun j x hj hx => by rw [ez]; exact (in_order h (by omega) hy hx).1
    by_cases hm : msAt ms k = 0
    · rw [water_dry hm]
      refine ⟨i0, i1, i2, fun j x hj hx => i3 j x (by omega) hx, ⟨fun q j hj => ?_, fun q => i4.2 fun j hj => q j (by omega)⟩⟩
      by_cases e : j = k
      · rw [e]; exact hm
      · exact i4.1 q j (by omega)
    · by_cases hz : (water xs ms k).2 = 0
      · rw [water_first hm hz]
        exact ⟨y0, by dsimp only; omega, y2, ho, ⟨fun q => by dsimp only at q; omega, fun q => absurd (q k (by omega)) hm⟩⟩
      · rw [water_next hm hz]
        exact ⟨i0, by dsimp only; omega, y2, ho, ⟨fun q => by dsimp only at q; omega, fun q => absurd (q k (by omega)) hm⟩⟩
theorem water_zero {R : Int} {xs : List C3} {ms : List Int} (h : meshOk R xs = true) {k : Nat} (hk : k ≤ xs.length) (hz : (water xs ms k).2 = 0) : (water xs ms k).1 = 0 := by
  obtain ⟨i0, i1, -⟩ := water_facts (ms := ms) h k hk
  omega

/-- A tick leaves a state at rest as it is. -/
theorem rest_parts {R : Int} {xs : List C3} {ms ts bs : List Int} (h : restG R xs ms ts bs = true) : stOk R xs ms ts bs = true ∧ still xs ms bs (xs.length - 1) = true := by
  unfold restG at h; rwa [Bool.and_eq_true] at h
theorem flow_still {xs : List C3} {ms bs : List Int} (h : still xs ms bs (xs.length - 1) = true) (t : Int) (k : Nat) : flowAt xs ms bs t k = 0 := by
  unfold flowAt
  split
  · rename_i hh; exact still_at h (by omega)
  · rfl
theorem tick_still {R : Int} {xs : List C3} {ms ts bs : List Int} (h : restG R xs ms ts bs = true) (t : Int) : tickS R xs bs (ms, ts) t = (ms, ts) := by
  obtain ⟨h1, h2⟩ := rest_parts h
  obtain ⟨-, ⟨p2, p3, p4⟩, -⟩ := stOk_parts h1
  rw [tick_ok h1]
  refine Prod.ext ?_ ?_
  · exact (gen_congr fun k _ => mov_zero (fun j => flow_still h2 t j) k).trans (gen_ms ms)
  · refine (gen_congr fun k _ => mov_zero (fun j => trc_zero (flow_still h2 t j)) k).trans ?_
    dsimp only
    rw [← p3]; exact gen_ts ts
theorem ticks_still {R : Int} {xs : List C3} {ms ts bs : List Int} (h : restG R xs ms ts bs = true) (t : Int) : ∀ n, ticks R xs bs (ms, ts) t n = (ms, ts)
  | 0 => rfl
  | n + 1 => by rw [ticks, ticks_still h t n, tick_still h]

/-- A filled lake: what its leaves hold. -/
theorem fillMass_bounds {bs : List Int} {h : Int} {x : C3} (hb : ∀ b ∈ bs, 0 ≤ b ∧ b ≤ 8999) (h0 : 0 ≤ h) (h1 : h ≤ 11999) (l0 : 0 ≤ x.2.1) (l1 : x.2.1 ≤ 4) (hr : x.1.toNat < bs.length) :
    0 ≤ fillMass bs h x ∧ fillMass bs h x ≤ 11999 ∧ ∃ b, bs[x.1.toNat]? = some b ∧ 0 ≤ b ∧ b ≤ 8999 ∧
      ((b < h ∧ h - 15 ≤ b + fillMass bs h x * 2 ^ x.2.1.toNat ∧ b + fillMass bs h x * 2 ^ x.2.1.toNat ≤ h) ∨ (h ≤ b ∧ fillMass bs h x = 0)) := by
  obtain ⟨b, hbb⟩ : ∃ b, bs[x.1.toNat]? = some b := ⟨_, List.getElem?_eq_getElem hr⟩
  obtain ⟨b0, b1⟩ := hb b (List.mem_of_getElem? hbb)
  have hg : bs.getD x.1.toNat 0 = b := by rw [List.getD_eq_getElem?_getD, hbb]; rfl
  have hd : fillMass bs h x = (if b < h then h - b else 0) / 2 ^ x.2.1.toNat := by
    unfold fillMass
    rw [hg, show max b (-1) = b by omega]
  rw [hd]
  by_cases hlt : b < h
  · rw [if_pos hlt]
    rcases lvl l0 l1 with e | e | e | e | e
    all_goals
      rw [e]
      refine ⟨?_, ?_, b, hbb, b0, b1, .inl ⟨hlt, ?_, ?_⟩⟩
      all_goals
        simp only [Int.toNat_zero, Int.pow_zero, Int.reduceToNat, Int.reducePow]
        omega
  · rw [if_neg hlt, Int.zero_ediv]
    exact ⟨by omega, by omega, b, hbb, b0, b1, .inr ⟨by omega, rfl⟩⟩
theorem lake_ok {R : Int} {xs : List C3} {bs : List Int} {h : Int} (hm : meshOk R xs = true) (hg : firstGap xs < 0) (hl : (bs.length : Int) = R) (hb : ∀ b ∈ bs, 0 ≤ b ∧ b ≤ 8999) (h0 : 0 ≤ h) (h1 : h ≤ 11999) :
    stOk R xs (fillMs bs h xs) (List.replicate xs.length 0) bs = true := by
  obtain ⟨-, hx0, hx1⟩ := mesh_parts hm
  have hin : ∀ m ∈ fillMs bs h xs, 0 ≤ m ∧ m ≤ 11999 := fun m hmm => by
    obtain ⟨x, hx, rfl⟩ := List.mem_map.1 hmm
    obtain ⟨k, hk⟩ := List.getElem?_of_mem hx
    obtain ⟨y0, y1, y2, y3⟩ := root_lt hm hk
    obtain ⟨q0, q1, -⟩ := fillMass_bounds (x := x) hb h0 h1 y2 y3 (by omega)
    exact ⟨q0, q1⟩
  refine stOk_mk ?_ ⟨fillMs_len .., by rw [List.length_replicate, fillMs_len], hl⟩ ?_ ?_ ?_
  · unfold balanced; rw [hm, decide_eq_true hg]; rfl
  · refine pairs_all (n := xs.length) (fillMs_len ..) (List.length_replicate ..) fun j m t hj h1' h2' => ?_
    obtain ⟨q0, q1⟩ := hin m (List.mem_of_getElem? h1')
    obtain rfl : t = 0 := List.eq_of_mem_replicate (List.mem_of_getElem? h2')
    exact decide_eq_true ⟨q0, by omega, Int.le_refl _, by omega⟩
  · exact beds_all rfl fun j b _ hbb => decide_eq_true (by have := hb b (List.mem_of_getElem? hbb); omega)
  · obtain ⟨-, s1⟩ := sum_bounds hin
    rw [fillMs_len] at s1
    have : (xs.length : Int) * 11999 ≤ 128 * 11999 := Int.mul_le_mul_of_nonneg_right (by omega) (by omega)
    omega
/-- The surface of a leaf: the lake's, up to 15 below it; or the leaf is dry and lies at least as high. -/
theorem lake_at {R : Int} {xs : List C3} {bs : List Int} {h : Int} (hm : meshOk R xs = true) (hl : (bs.length : Int) = R) (hb : ∀ b ∈ bs, 0 ≤ b ∧ b ≤ 8999) (h0 : 0 ≤ h) (h1 : h ≤ 11999) {k : Nat} (hk : k < xs.length) :
    0 ≤ msAt (fillMs bs h xs) k ∧ ((h - 15 ≤ surf xs (fillMs bs h xs) bs k ∧ surf xs (fillMs bs h xs) bs k ≤ h) ∨ (msAt (fillMs bs h xs) k = 0 ∧ h ≤ surf xs (fillMs bs h xs) bs k)) := by
  obtain ⟨x, hx⟩ : ∃ x, xs[k]? = some x := ⟨_, List.getElem?_eq_getElem hk⟩
  obtain ⟨y0, y1, y2, y3⟩ := root_lt hm hx
  obtain ⟨q0, q1, b, hbb, b0, b1, q2⟩ := fillMass_bounds (x := x) hb h0 h1 y2 y3 (by omega)
  have em : msAt (fillMs bs h xs) k = fillMass bs h x := msAt_of (by rw [fillMs, List.getElem?_map, hx]; rfl)
  have es : surf xs (fillMs bs h xs) bs k = b + fillMass bs h x * 2 ^ x.2.1.toNat := by
    unfold surf lvAt
    rw [em, hx, Option.getD_some, hbb]; rfl
  rw [em, es]
  refine ⟨q0, ?_⟩
  rcases q2 with ⟨-, h2, h3⟩ | ⟨h2, h3⟩
  · exact .inl ⟨h2, h3⟩
  · rw [h3]; exact .inr ⟨rfl, by omega⟩
theorem quo_zero {a b la lb : Int} (h0 : -15 ≤ a - b) (h1 : a - b ≤ 15) (l0 : 0 ≤ la) (l1 : la ≤ 4) (k0 : 0 ≤ lb) (k1 : lb ≤ 4) : quoN a b la lb = 0 := by
  obtain ⟨a0, a1⟩ := width_pos l0 l1
  obtain ⟨b0, b1⟩ := width_pos k0 k1
  have hd : 1 ≤ widthOf (max la lb) ∧ widthOf (max la lb) ≤ widthOf la := by
    rcases lvl l0 l1 with rfl | rfl | rfl | rfl | rfl <;> rcases lvl k0 k1 with rfl | rfl | rfl | rfl | rfl <;> decide
  unfold quoN
  have u := Int.mul_le_mul_of_nonneg_right h1 (show 0 ≤ widthOf (max la lb) by omega)
  have v := Int.mul_le_mul_of_nonneg_right h0 (show 0 ≤ widthOf (max la lb) by omega)
  generalize (a - b) * widthOf (max la lb) = n at *
  rcases Int.le_total 0 n with hn | hn
  · exact Int.tdiv_eq_zero_of_lt hn (by omega)
  · have := Int.tdiv_eq_zero_of_lt (a := -n) (b := 32 * (widthOf la + widthOf lb)) (by omega) (by omega)
    rw [Int.neg_tdiv] at this
    omega
/-- A filled lake is at rest, and level up to 15. -/
theorem lake_rest {R : Int} {xs : List C3} {bs : List Int} {h : Int} (hm : meshOk R xs = true) (hg : firstGap xs < 0) (hl : (bs.length : Int) = R) (hb : ∀ b ∈ bs, 0 ≤ b ∧ b ≤ 8999) (h0 : 0 ≤ h) (h1 : h ≤ 11999) :
    restG R xs (fillMs bs h xs) (List.replicate xs.length 0) bs = true ∧ levG R xs (fillMs bs h xs) (List.replicate xs.length 0) bs 15 = true := by
  have hok := lake_ok hm hg hl hb h0 h1
  unfold restG levG
  rw [hok, Bool.true_and, Bool.true_and]
  refine ⟨still_all fun k hk => ?_, lev_all fun k hk => ?_⟩
  · obtain ⟨m0, mk⟩ := lake_at hm hl hb h0 h1 (k := k) (by omega)
    obtain ⟨m1, mn⟩ := lake_at hm hl hb h0 h1 (k := k + 1) (by omega)
    obtain ⟨-, -, -, -, l0, l1⟩ := leaf_bounds hok (k := k) (by omega)
    obtain ⟨-, -, -, -, k0, k1⟩ := leaf_bounds hok (k := k + 1) (by omega)
    unfold fluxAt fluxN
    obtain ⟨q0, q1⟩ := quo_sign (a := surf xs (fillMs bs h xs) bs k) (b := surf xs (fillMs bs h xs) bs (k + 1)) l0 l1 k0 k1
    rcases mk with ⟨u0, u1⟩ | ⟨u0, u1⟩
    · rcases mn with ⟨v0, v1⟩ | ⟨v0, v1⟩
      · rw [quo_zero (by omega) (by omega) l0 l1 k0 k1]; omega
      · have := q1 (by omega); rw [v0]; omega
    · rcases mn with ⟨v0, v1⟩ | ⟨v0, v1⟩
      · have := q0 (by omega); rw [u0]; omega
      · rw [u0, v0]; omega
  · obtain ⟨m0, mk⟩ := lake_at hm hl hb h0 h1 (k := k) (by omega)
    obtain ⟨m1, mn⟩ := lake_at hm hl hb h0 h1 (k := k + 1) (by omega)
    exact levF_yes (by omega) (by omega)
end Go.Proofs.Ytaccigmkddomaaa.State
