/- Meshes: two siblings replaced by their parent, what may be refined and what may be coarsened: plain lemmas.
   Conditions: none. -/
import Derived.Test.YtmkmlfaekiofcaaMSib
import Derived.Test.YtmkmlfaekiofcaaMFaceI
namespace Go.Proofs.Ytmkmlfaekiofcaa.Mesh
open Go.ChangeShapes Go.WideShapes Go.ChangeAt Go.RowKit Go.Proofs.Ytmkmlfaekiofcaa.Cell

/-- A cell's parent. -/
def parOf (x : C3) : C3 := (x.1, x.2.1 - 1, x.2.2 / 2)
def sibOf (x y : C3) : Bool := sibB x.1 x.2.1 x.2.2 y.1 y.2.1 y.2.2
def lvAt (xs : List C3) (i : Nat) : Int := match xs[i]? with
  | some x => x.2.1
  | none => -1
theorem lvAt_of {xs : List C3} {i : Nat} {x : C3} (hx : xs[i]? = some x) : lvAt xs i = x.2.1 := by simp [lvAt, hx]
def sibAt (xs : List C3) (i : Nat) : Bool := match xs[i]?, xs[i + 1]? with
  | some x, some y => sibOf x y
  | _, _ => false
theorem sibAt_of {xs : List C3} {i : Nat} {x y : C3} (hx : xs[i]? = some x) (hy : xs[i + 1]? = some y) : sibAt xs i = sibOf x y := by simp [sibAt, hx, hy]
theorem sibAt_in {xs : List C3} {i : Nat} (h : sibAt xs i = true) : ∃ x y, xs[i]? = some x ∧ xs[i + 1]? = some y ∧ sibOf x y = true := by
  unfold sibAt at h
  split at h
  · exact ⟨_, _, by assumption, by assumption, h⟩
  · cases h
def mayRef (R : Int) (xs : List C3) (i : Int) : Bool := meshOk R xs && (decide (0 ≤ i) && (decide (i < xs.length) && decide (lvAt xs i.toNat < 4)))
def leftOk (xs : List C3) (k : Nat) : Bool := decide (k = 0) || decide (lvAt xs (k - 1) ≤ lvAt xs k)
def rightOk (xs : List C3) (k : Nat) : Bool := decide (xs.length ≤ k + 2) || decide (lvAt xs (k + 2) ≤ lvAt xs k)
def pairOk (xs : List C3) (k : Nat) : Bool := sibAt xs k && (leftOk xs k && rightOk xs k)
def mayCo (R : Int) (xs : List C3) (i : Int) : Bool := meshOk R xs && (decide (0 ≤ i) && (decide (i + 1 < xs.length) && pairOk xs i.toNat))
/-- Two leaves replaced by the parent of the first. -/
def merge2 (xs : List C3) (k : Nat) : List C3 := match xs[k]? with
  | some x => xs.take k ++ [parOf x] ++ xs.drop (k + 2)
  | none => xs
theorem merge2_of {xs : List C3} {k : Nat} {x : C3} (hx : xs[k]? = some x) : merge2 xs k = xs.take k ++ [parOf x] ++ xs.drop (k + 2) := by simp [merge2, hx]
def refOf (R : Int) (xs : List C3) (i : Int) : List C3 := if mayRef R xs i then split2 xs i.toNat else xs
def coOf (R : Int) (xs : List C3) (i : Int) : List C3 := if mayCo R xs i then merge2 xs i.toNat else xs

theorem mayRef_parts {R i : Int} {xs : List C3} (h : mayRef R xs i = true) : meshOk R xs = true ∧ ∃ (k : Nat) (x : C3), i = k ∧ xs[k]? = some x ∧ okOf x = true ∧ x.2.1 < 4 ∧ refOf R xs i = split2 xs k := by
  have hr : refOf R xs i = split2 xs i.toNat := if_pos h
  simp only [mayRef, Bool.and_eq_true, decide_eq_true_eq] at h
  obtain ⟨hm, h0, h1, h2⟩ := h
  obtain ⟨k, rfl⟩ : ∃ k : Nat, i = k := ⟨i.toNat, by omega⟩
  obtain ⟨r, l, j, hx⟩ := get_of_lt (xs := xs) (k := k) rfl (by omega)
  rw [Int.toNat_natCast] at hr h2
  rw [lvAt_of hx] at h2
  exact ⟨hm, k, _, rfl, hx, (mesh_parts hm).1 _ _ hx, h2, hr⟩
theorem mayCo_parts {R i : Int} {xs : List C3} (h : mayCo R xs i = true) : meshOk R xs = true ∧ ∃ (k : Nat) (x y : C3), i = k ∧ xs[k]? = some x ∧ xs[k + 1]? = some y ∧ sibOf x y = true ∧ leftOk xs k = true ∧ rightOk xs k = true ∧ coOf R xs i = merge2 xs k := by
  have hr : coOf R xs i = merge2 xs i.toNat := if_pos h
  simp only [mayCo, pairOk, Bool.and_eq_true, decide_eq_true_eq] at h
  obtain ⟨hm, h0, h1, h2, h3, h4⟩ := h
  obtain ⟨k, rfl⟩ : ∃ k : Nat, i = k := ⟨i.toNat, by omega⟩
  rw [Int.toNat_natCast] at *
  obtain ⟨x, y, hx, hy, hs⟩ := sibAt_in h2
  exact ⟨hm, k, x, y, rfl, hx, hy, hs, h3, h4, hr⟩

theorem sib_parts {x y : C3} (h : sibOf x y = true) : okOf x = true ∧ y = (x.1, x.2.1, x.2.2 + 1) ∧ x.2.2 % 2 = 0 := by
  obtain ⟨r, l, i⟩ := x
  obtain ⟨r', l', i'⟩ := y
  simp only [sibOf, sibB, Bool.and_eq_true, decide_eq_true_eq] at h
  obtain ⟨h1, -, h3, h4, h5, h6⟩ := h
  subst h3 h4 h6
  exact ⟨h1, rfl, h5⟩
/-- Two siblings are the children of one cell. -/
theorem sib_kids {x y : C3} (h : sibOf x y = true) : okOf (parOf x) = true ∧ (parOf x).2.1 < 4 ∧ x = kidOf (parOf x) 0 ∧ y = kidOf (parOf x) 1 ∧ 1 ≤ x.2.1 := by
  have hy := h
  obtain ⟨ho, rfl, h2⟩ := sib_parts h
  obtain ⟨r, l, i⟩ := x
  obtain ⟨h0, h1, h3, h4, h5, h6⟩ := of_ok (show okId r l i = true from ho)
  simp only [sibOf, sibB, Bool.and_eq_true, decide_eq_true_eq] at hy
  obtain ⟨g0, g1, g3, g4, g5, g6⟩ := of_ok hy.2.1
  dsimp only at h2 g6
  have hl : 1 ≤ l := by
    rcases lvl h3 h4 with rfl | rfl | rfl | rfl | rfl
    · simp at g6; omega
    all_goals omega
  refine ⟨?_, ?_, ?_, ?_, hl⟩
  · apply ok_true
    dsimp only [parOf]
    rcases (show l = 1 ∨ l = 2 ∨ l = 3 ∨ l = 4 by omega) with rfl | rfl | rfl | rfl
    all_goals
      simp at h6 ⊢
      omega
  · show l - 1 < 4; omega
  · show (r, l, i) = (r, l - 1 + 1, 2 * (i / 2) + 0)
    rw [show l - 1 + 1 = l by omega, show 2 * (i / 2) + 0 = i by omega]
  · show (r, l, i + 1) = (r, l - 1 + 1, 2 * (i / 2) + 1)
    rw [show l - 1 + 1 = l by omega, show 2 * (i / 2) + 1 = i + 1 by omega]
theorem kids_sib {x : C3} (h : okOf x = true) (hl : x.2.1 < 4) : sibOf (kidOf x 0) (kidOf x 1) = true ∧ parOf (kidOf x 0) = x := by
  obtain ⟨k0, -, -⟩ := kidOf_ok h hl (.inl rfl)
  obtain ⟨k1, -, -⟩ := kidOf_ok h hl (.inr rfl)
  obtain ⟨r, l, i⟩ := x
  refine ⟨?_, ?_⟩
  · simp only [sibOf, sibB, Bool.and_eq_true, decide_eq_true_eq]
    exact ⟨k0, k1, rfl, rfl, by show (2 * i + 0) % 2 = 0; omega, by show 2 * i + 1 = 2 * i + 0 + 1; omega⟩
  · show (r, l + 1 - 1, (2 * i + 0) / 2) = (r, l, i)
    rw [show l + 1 - 1 = l by omega, show (2 * i + 0) / 2 = i by omega]
/-- A leaf's place in the refined mesh. -/
theorem split_at {xs : List C3} {k : Nat} {x : C3} (hx : xs[k]? = some x) : (split2 xs k)[k]? = some (kidOf x 0) ∧ (split2 xs k)[k + 1]? = some (kidOf x 1) ∧ (∀ j, j < k → (split2 xs k)[j]? = xs[j]?) ∧ ∀ j, k < j → (split2 xs k)[j + 1]? = xs[j]? := by
  have hk := (List.getElem?_eq_some_iff.1 hx).1
  have hl : (xs.take k).length = k := by rw [List.length_take]; omega
  rw [split2_of hx, List.append_assoc]
  refine ⟨?_, ?_, fun j hj => ?_, fun j hj => ?_⟩
  · rw [List.getElem?_append_right (by omega), hl, Nat.sub_self]; rfl
  · rw [List.getElem?_append_right (by omega), hl, show k + 1 - k = 1 by omega]; rfl
  · rw [List.getElem?_append_left (by omega), List.getElem?_take_of_lt hj]
  · rw [List.getElem?_append_right (by omega), hl, List.getElem?_append_right (by simp; omega), List.getElem?_drop]
    congr 1
    simp
    omega
theorem merge_len {xs : List C3} {k : Nat} {x y : C3} (hx : xs[k]? = some x) (hy : xs[k + 1]? = some y) : (merge2 xs k).length + 1 = xs.length := by
  have hk := (List.getElem?_eq_some_iff.1 hy).1
  rw [merge2_of hx]
  simp
  omega
/-- A leaf's place in the coarsened mesh. -/
theorem merge_at {xs : List C3} {k : Nat} {x : C3} (hx : xs[k]? = some x) : (merge2 xs k)[k]? = some (parOf x) ∧ (∀ j, j < k → (merge2 xs k)[j]? = xs[j]?) ∧ ∀ j, k < j → (merge2 xs k)[j]? = xs[j + 1]? := by
  have hk := (List.getElem?_eq_some_iff.1 hx).1
  have hl : (xs.take k).length = k := by rw [List.length_take]; omega
  rw [merge2_of hx, List.append_assoc]
  refine ⟨?_, fun j hj => ?_, fun j hj => ?_⟩
  · rw [List.getElem?_append_right (by omega), hl, Nat.sub_self]; rfl
  · rw [List.getElem?_append_left (by omega), List.getElem?_take_of_lt hj]
  · rw [List.getElem?_append_right (by omega), hl, List.getElem?_append_right (by simp; omega), List.getElem?_drop]
    congr 1
    simp
    omega
theorem merge_split {xs : List C3} {k : Nat} {x : C3} (hx : xs[k]? = some x) (ho : okOf x = true) (hl : x.2.1 < 4) : merge2 (split2 xs k) k = xs := by
  obtain ⟨s0, s1, s2, s3⟩ := split_at hx
  obtain ⟨m0, m1, m2⟩ := merge_at s0
  apply List.ext_getElem?
  intro j
  rcases Nat.lt_trichotomy j k with h | rfl | h
  · rw [m1 j h, s2 j h]
  · rw [m0, (kids_sib ho hl).2, hx]
  · rw [m2 j h, s3 j h]
theorem split_merge {xs : List C3} {k : Nat} {x y : C3} (hx : xs[k]? = some x) (hy : xs[k + 1]? = some y) (h : sibOf x y = true) : split2 (merge2 xs k) k = xs := by
  obtain ⟨m0, m1, m2⟩ := merge_at hx
  obtain ⟨s0, s1, s2, s3⟩ := split_at m0
  obtain ⟨-, -, e0, e1, -⟩ := sib_kids h
  apply List.ext_getElem?
  intro j
  rcases Nat.lt_trichotomy j k with h | rfl | h
  · rw [s2 j h, m1 j h]
  · rw [s0, hx, ← e0]
  · by_cases h2 : j = k + 1
    · subst h2
      rw [s1, hy, ← e1]
    · obtain ⟨j, rfl⟩ : ∃ j', j = j' + 1 := ⟨j - 1, by omega⟩
      rw [s3 j (by omega), m2 j (by omega)]
theorem run_unsplit {xs : List C3} {k : Nat} {x : C3} {e : Int} (hx : xs[k]? = some x) (ho : okOf x = true) (hl : x.2.1 < 4) (hr : run (split2 xs k) = some e) : run xs = some e := by
  obtain ⟨-, s0, w0⟩ := kidOf_ok ho hl (.inl rfl)
  obtain ⟨-, s1, w1⟩ := kidOf_ok ho hl (.inr rfl)
  have hw : wdOf (kidOf x 0) = wdOf (kidOf x 1) := rfl
  rw [split2_of hx] at hr
  rw [cut_at hx]
  unfold run at hr ⊢
  rw [List.foldl_append, List.foldl_append] at hr ⊢
  rw [← hr]
  congr 1
  cases h : (xs.take k).foldl step (some 0) with
  | none => rfl
  | some e0 =>
    by_cases hs : stOf x = e0
    · rw [List.foldl_cons, List.foldl_cons, List.foldl_nil, List.foldl_cons, List.foldl_nil, step_yes hs, step_yes (show stOf (kidOf x 0) = e0 by omega), step_yes (show stOf (kidOf x 1) = e0 + wdOf (kidOf x 0) by omega)]
      congr 1
      omega
    · rw [h] at hr
      rw [List.foldl_cons, step_no (show stOf (kidOf x 0) ≠ e0 by omega), fold_none, fold_none] at hr
      cases hr
theorem meshOk_merge {R : Int} {xs : List C3} {k : Nat} {x y : C3} (hx : xs[k]? = some x) (hy : xs[k + 1]? = some y) (hs : sibOf x y = true) (h : meshOk R xs = true) : meshOk R (merge2 xs k) = true := by
  obtain ⟨h1, h2, h3⟩ : 1 ≤ R ∧ R ≤ 8 ∧ run xs = some (R * 16) := of_decide_eq_true h
  obtain ⟨ho, hl, -⟩ := sib_kids hs
  rw [← split_merge hx hy hs] at h3
  exact decide_eq_true ⟨h1, h2, run_unsplit (merge_at hx).1 ho hl h3⟩

/-- A balanced mesh: what that says of two leaves side by side. -/
theorem flat_of {xs : List C3} (h : firstGap xs < 0) {j : Nat} {x y : C3} (hx : xs[j]? = some x) (hy : xs[j + 1]? = some y) : -1 ≤ x.2.1 - y.2.1 ∧ x.2.1 - y.2.1 ≤ 1 := by
  rcases first_cases xs with ⟨-, hn⟩ | ⟨k, e, -⟩
  · have := hn j
    rw [gapAt_of hx hy] at this
    have := of_decide_eq_false this
    omega
  · omega
theorem flat_to {xs : List C3} (h : ∀ (j : Nat) (x y : C3), xs[j]? = some x → xs[j + 1]? = some y → -1 ≤ x.2.1 - y.2.1 ∧ x.2.1 - y.2.1 ≤ 1) : firstGap xs = -1 :=
  first_none fun j => by
    cases hg : gapAt xs j with
    | false => rfl
    | true =>
      obtain ⟨x, y, hx, hy, hgp⟩ := gapAt_in hg
      have := h j x y hx hy
      have hg' : 1 < x.2.1 - y.2.1 ∨ x.2.1 - y.2.1 < -1 := of_decide_eq_true hgp
      omega
theorem flat_merge {xs : List C3} {k : Nat} {x y : C3} (hx : xs[k]? = some x) (hy : xs[k + 1]? = some y) (hs : sibOf x y = true) (h : firstGap xs < 0) (hL : leftOk xs k = true) (hR : rightOk xs k = true) : firstGap (merge2 xs k) = -1 := by
  obtain ⟨m0, m1, m2⟩ := merge_at hx
  have hyl : y.2.1 = x.2.1 := by rw [(sib_parts hs).2.1]
  have hp : (parOf x).2.1 = x.2.1 - 1 := rfl
  refine flat_to fun j a b ha hb => ?_
  rcases Nat.lt_trichotomy (j + 1) k with h1 | h1 | h1
  · rw [m1 j (by omega)] at ha
    rw [m1 _ h1] at hb
    exact flat_of h ha hb
  · subst h1
    rw [m1 j (by omega)] at ha
    rw [m0] at hb
    cases hb
    have := flat_of h ha hx
    simp only [leftOk, Bool.or_eq_true, decide_eq_true_eq, show j + 1 - 1 = j by omega] at hL
    rw [lvAt_of ha, lvAt_of hx] at hL
    omega
  · by_cases h2 : j = k
    · subst h2
      rw [m0] at ha
      cases ha
      rw [m2 _ (by omega)] at hb
      have := flat_of h hy hb
      have hb2 := (List.getElem?_eq_some_iff.1 hb).1
      simp only [rightOk, Bool.or_eq_true, decide_eq_true_eq] at hR
      rw [lvAt_of (show xs[j + 2]? = some b from hb), lvAt_of hx] at hR
      omega
    · rw [m2 j (by omega)] at ha
      rw [m2 _ (by omega)] at hb
      exact flat_of h ha hb
/-- The children of a leaf of a balanced mesh may be coarsened. -/
theorem mayCo_split {R : Int} {xs : List C3} {k : Nat} {x : C3} (hx : xs[k]? = some x) (hm : meshOk R xs = true) (h : firstGap xs < 0) (hl : x.2.1 < 4) : mayCo R (split2 xs k) k = true ∧ coOf R (split2 xs k) k = xs := by
  obtain ⟨s0, s1, s2, s3⟩ := split_at hx
  have ho := (mesh_parts hm).1 _ _ hx
  have hlen := split2_len hx
  have hk := (List.getElem?_eq_some_iff.1 hx).1
  have hmc : mayCo R (split2 xs k) k = true := by
    simp only [mayCo, pairOk, leftOk, rightOk, Bool.and_eq_true, Bool.or_eq_true, decide_eq_true_eq, Int.toNat_natCast]
    refine ⟨meshOk_split hx hl hm, by omega, by omega, by rw [sibAt_of s0 s1]; exact (kids_sib ho hl).1, ?_, ?_⟩
    · by_cases h0 : k = 0
      · exact .inl h0
      · right
        obtain ⟨r, l, i, hy⟩ := get_of_lt (xs := xs) (k := k - 1) rfl (by omega)
        rw [lvAt_of s0, lvAt_of ((s2 (k - 1) (by omega)).trans hy)]
        have := flat_of h hy (by rw [show k - 1 + 1 = k by omega]; exact hx)
        show l ≤ x.2.1 + 1
        dsimp only at this
        omega
    · by_cases h0 : k + 1 < xs.length
      · right
        obtain ⟨r, l, i, hy⟩ := get_of_lt (xs := xs) (k := k + 1) rfl h0
        rw [lvAt_of s0, lvAt_of ((s3 (k + 1) (by omega)).trans hy)]
        have := flat_of h hx hy
        show l ≤ x.2.1 + 1
        dsimp only at this
        omega
      · left; omega
  refine ⟨hmc, ?_⟩
  rw [show coOf R (split2 xs k) k = merge2 (split2 xs k) (k : Int).toNat from if_pos hmc, Int.toNat_natCast]
  exact merge_split hx ho hl
theorem refOf_len {R i : Int} {xs : List C3} : (refOf R xs i).length ≤ xs.length + 1 := by
  cases h : mayRef R xs i with
  | true =>
    obtain ⟨-, k, x, -, hx, -, -, hr⟩ := mayRef_parts h
    rw [hr, split2_len hx]
    omega
  | false => rw [show refOf R xs i = xs by simp [refOf, h]]; omega
theorem coOf_len {R i : Int} {xs : List C3} : (coOf R xs i).length ≤ xs.length := by
  cases h : mayCo R xs i with
  | true =>
    obtain ⟨-, k, x, y, -, hx, hy, -, -, -, hr⟩ := mayCo_parts h
    have := merge_len hx hy
    rw [hr]
    omega
  | false => rw [show coOf R xs i = xs by simp [coOf, h]]; omega
theorem balanced_co {R i : Int} {xs : List C3} (hm : meshOk R xs = true) (h : firstGap xs < 0) : meshOk R (coOf R xs i) = true ∧ firstGap (coOf R xs i) < 0 := by
  cases hc : mayCo R xs i with
  | true =>
    obtain ⟨-, k, x, y, -, hx, hy, hs, hL, hR, hr⟩ := mayCo_parts hc
    rw [hr]
    exact ⟨meshOk_merge hx hy hs hm, by rw [flat_merge hx hy hs h hL hR]; omega⟩
  | false => rw [show coOf R xs i = xs by simp [coOf, hc]]; exact ⟨hm, h⟩
end Go.Proofs.Ytmkmlfaekiofcaa.Mesh
