/- Cells over the meshes' trimmed text: the method parent, ParentOf and IsSibling of the program and of the reference model, as contracts: what each answers; nothing that was there is written. Meshes: two siblings replaced by their parent, what may be refined and what may be coarsened: plain lemmas. Meshes: MayRefine and MayCoarsen of the program, as contracts: what each answers; nothing that was there is written. Meshes: MayCoarsen of the program where there is no pair of leaves at the number, as contracts: it answers no; nothing that was there is written. Meshes: MayCoarsen of the program, as a contract: what it answers; nothing that was there is written. Meshes: MayRefine and MayCoarsen of the reference model, as contracts: what each answers; nothing that was there is written. Meshes: joinLeaves of the program, as a contract: two leaves replaced by the parent of the first, in memory of its own; nothing that was there is written. Meshes: RefineLeaf and CoarsenPair of the program, as contracts: the changed mesh or the mesh itself, in memory of its own; nothing that was there is written. Meshes: l06Merge, RefineLeaf and CoarsenPair of the reference model, as contracts: the changed mesh or the mesh itself, in memory of its own; nothing that was there is written. Meshes: SameMesh of the program and of the reference model, as contracts, at any two meshes; nothing that was there is written. (written by wip/tools/merge.py)
   Conditions: as each says. -/
import Derived.Test.YtaccigmkddomaaaPkMesh
import Derived.Deep.RegionHeld3
import Derived.Deep.RegionWith
import Derived.Test.YtaccigmkddomaaaMFaceI
import Derived.Test.YtaccigmkddomaaaPkCopy
import Derived.Test.YtaccigmkddomaaaMOkS
import Derived.Test.YtaccigmkddomaaaMBalAll
import Derived.ArgAppend
set_option maxRecDepth 100000
namespace Go.Proofs.Ytaccigmkddomaaa.Cell
open Go.ChangeShapes Go.WideShapes Go.ChangeAt Go.RowKit
/-- Is there a parent; its three fields. -/
def parB (r l i : Int) : Bool := okId r l i && decide (l ≠ 0)
def parR (r l i : Int) : Int := if parB r l i then r else 0
def parL (r l i : Int) : Int := if parB r l i then l - 1 else 0
def parI (r l i : Int) : Int := if parB r l i then i / 2 else 0
/-- A pair of a cell and a bool. -/
abbrev pairOf (r l i : Int) (b : Bool) : Value := .tuple #[.agg #[.int .i64 r, .int .i64 l, .int .i64 i], .bool b]
theorem par_no {r l i : Int} (h : parB r l i = false) : Ending.returned (.tuple #[.agg #[.int .i64 0, .int .i64 0, .int .i64 0], .bool false]) = .returned (pairOf (parR r l i) (parL r l i) (parI r l i) (parB r l i)) := by
  simp [parR, parL, parI, h]
theorem par_yes {r l i : Int} (h : parB r l i = true) : Ending.returned (.tuple #[.agg #[.int .i64 r, .int .i64 (l - 1), .int .i64 (i / 2)], .bool true]) = .returned (pairOf (parR r l i) (parL r l i) (parI r l i) (parB r l i)) := by
  simp [parR, parL, parI, h]
/-- Are they the left and the right child of one cell. -/
def sibB (r l i r' l' i' : Int) : Bool := okId r l i && (okId r' l' i' && (decide (r = r') && (decide (l = l') && (decide (i % 2 = 0) && decide (i' = i + 1)))))
theorem g_drew {w a : World} (h : w.grownBy a none) : w.grownBy a.drew none := ⟨h.os, h.tape, h.output, h.size, h.block⟩
theorem laid_new2 (w : World) (o : Obj) (t : TypeId) (r l i : Int) : Laid ((w.alloc o).alloc (.cells #[.int .i64 r, .int .i64 l, .int .i64 i] t)) (w.heap.size + 1) r l i := by
  have := laid_new (w.alloc o) t r l i
  simpa using this
theorem ok_next {r l i : Int} (h : okId r l i = true) (hl : l ≠ 0) (h2 : i % 2 = 0) : okId r l (i + 1) = true := by
  obtain ⟨h0, h1, h3, h4, h5, h6⟩ := of_ok h
  apply ok_true
  rcases lvl h3 h4 with rfl | rfl | rfl | rfl | rfl
  · exact absurd rfl hl
  all_goals
    simp at h6 ⊢
    omega
end Go.Proofs.Ytaccigmkddomaaa.Cell

namespace Go.Proofs.Ytaccigmkddomaaa.Mesh
open Go.ChangeShapes Go.WideShapes Go.ChangeAt Go.RowKit Go.Proofs.Ytaccigmkddomaaa.Cell

/-- A cell's parent. -/
def parOf (x : C3) : C3 := (x.1, x.2.1 - 1, x.2.2 / 2)
def sibOf (x y : C3) : Bool := sibB x.1 x.2.1 x.2.2 y.1 y.2.1 y.2.2
def lvAt (xs : List C3) (i : Nat) : Int := match xs[i]? with
  | some x => x.2.1
  | none => -1
theorem lvAt_of {xs : List C3} {i : Nat} {x : C3} (hx : xs[i]? = some x) : lvAt xs i = x.2.1 := by simp [lvAt, hx]
def sibAt (xs : List C3) (i : Nat) : Bool := match xs[i]?, xs[i + 1]? with
  | some x, some y => sibOf x y
  | _, _ => false
theorem sibAt_of {xs : List C3} {i : Nat} {x y : C3} (hx : xs[i]? = some x) (hy : xs[i + 1]? = some y) : sibAt xs i = sibOf x y := by simp [sibAt, hx, hy]
theorem sibAt_in {xs : List C3} {i : Nat} (h : sibAt xs i = true) : ∃ x y, xs[i]? = some x ∧ xs[i + 1]? = some y ∧ sibOf x y = true := by
  unfold sibAt at h
  split at h
  · exact ⟨_, _, by assumption, by assumption, h⟩
  · cases h
def mayRef (R : Int) (xs : List C3) (i : Int) : Bool := meshOk R xs && (decide (0 ≤ i) && (decide (i < xs.length) && decide (lvAt xs i.toNat < 4)))
def leftOk (xs : List C3) (k : Nat) : Bool := decide (k = 0) || decide (lvAt xs (k - 1) ≤ lvAt xs k)
def rightOk (xs : List C3) (k : Nat) : Bool := decide (xs.length ≤ k + 2) || decide (lvAt xs (k + 2) ≤ lvAt xs k)
def pairOk (xs : List C3) (k : Nat) : Bool := sibAt xs k && (leftOk xs k && rightOk xs k)
def mayCo (R : Int) (xs : List C3) (i : Int) : Bool := meshOk R xs && (decide (0 ≤ i) && (decide (i + 1 < xs.length) && pairOk xs i.toNat))
/-- Two leaves replaced by the parent of the first. -/
def merge2 (xs : List C3) (k : Nat) : List C3 := match xs[k]? with
  | some x => xs.take k ++ [parOf x] ++ xs.drop (k + 2)
  | none => xs
theorem merge2_of {xs : List C3} {k : Nat} {x : C3} (hx : xs[k]? = some x) : merge2 xs k = xs.take k ++ [parOf x] ++ xs.drop (k + 2) := by simp [merge2, hx]
def refOf (R : Int) (xs : List C3) (i : Int) : List C3 := if mayRef R xs i then split2 xs i.toNat else xs
def coOf (R : Int) (xs : List C3) (i : Int) : List C3 := if mayCo R xs i then merge2 xs i.toNat else xs

theorem mayRef_parts {R i : Int} {xs : List C3} (h : mayRef R xs i = true) : meshOk R xs = true ∧ ∃ (k : Nat) (x : C3), i = k ∧ xs[k]? = some x ∧ okOf x = true ∧ x.2.1 < 4 ∧ refOf R xs i = split2 xs k := by
  have hr : refOf R xs i = split2 xs i.toNat := if_pos h
  simp only [mayRef, Bool.and_eq_true, decide_eq_true_eq] at h
  obtain ⟨hm, h0, h1, h2⟩ := h
  obtain ⟨k, rfl⟩ : ∃ k : Nat, i = k := ⟨i.toNat, by omega⟩
  obtain ⟨r, l, j, hx⟩ := get_of_lt (xs := xs) (k := k) rfl (by omega)
  rw [Int.toNat_natCast] at hr h2
  rw [lvAt_of hx] at h2
  exact ⟨hm, k, _, rfl, hx, (mesh_parts hm).1 _ _ hx, h2, hr⟩
theorem mayCo_parts {R i : Int} {xs : List C3} (h : mayCo R xs i = true) : meshOk R xs = true ∧ ∃ (k : Nat) (x y : C3), i = k ∧ xs[k]? = some x ∧ xs[k + 1]? = some y ∧ sibOf x y = true ∧ leftOk xs k = true ∧ rightOk xs k = true ∧ coOf R xs i = merge2 xs k := by
  have hr : coOf R xs i = merge2 xs i.toNat := if_pos h
  simp only [mayCo, pairOk, Bool.and_eq_true, decide_eq_true_eq] at h
  obtain ⟨hm, h0, h1, h2, h3, h4⟩ := h
  obtain ⟨k, rfl⟩ : ∃ k : Nat, i = k := ⟨i.toNat, by omega⟩
  rw [Int.toNat_natCast] at *
  obtain ⟨x, y, hx, hy, hs⟩ := sibAt_in h2
  exact ⟨hm, k, x, y, rfl, hx, hy, hs, h3, h4, hr⟩

theorem sib_parts {x y : C3} (h : sibOf x y = true) : okOf x = true ∧ y = (x.1, x.2.1, x.2.2 + 1) ∧ x.2.2 % 2 = 0 := by
  obtain ⟨r, l, i⟩ := x
  obtain ⟨r', l', i'⟩ := y
  simp only [sibOf, sibB, Bool.and_eq_true, decide_eq_true_eq] at h
  obtain ⟨h1, -, h3, h4, h5, h6⟩ := h
  subst h3 h4 h6
  exact ⟨h1, rfl, h5⟩
/-- Two siblings are the children of one cell. -/
theorem sib_kids {x y : C3} (h : sibOf x y = true) : okOf (parOf x) = true ∧ (parOf x).2.1 < 4 ∧ x = kidOf (parOf x) 0 ∧ y = kidOf (parOf x) 1 ∧ 1 ≤ x.2.1 := by
  have hy := h
  obtain ⟨ho, rfl, h2⟩ := sib_parts h
  obtain ⟨r, l, i⟩ := x
  obtain ⟨h0, h1, h3, h4, h5, h6⟩ := of_ok (show okId r l i = true from ho)
  simp only [sibOf, sibB, Bool.and_eq_true, decide_eq_true_eq] at hy
  obtain ⟨g0, g1, g3, g4, g5, g6⟩ := of_ok hy.2.1
  dsimp only at h2 g6
  have hl : 1 ≤ l := by
    rcases lvl h3 h4 with rfl | rfl | rfl | rfl | rfl
    · simp at g6; omega
    all_goals omega
  refine ⟨?_, ?_, ?_, ?_, hl⟩
  · apply ok_true
    dsimp only [parOf]
    rcases (show l = 1 ∨ l = 2 ∨ l = 3 ∨ l = 4 by omega) with rfl | rfl | rfl | rfl
    all_goals
      simp at h6 ⊢
      omega
  · show l - 1 < 4; omega
  · show (r, l, i) = (r, l - 1 + 1, 2 * (i / 2) + 0)
    rw [show l - 1 + 1 = l by omega, show 2 * (i / 2) + 0 = i by omega]
  · show (r, l, i + 1) = (r, l - 1 + 1, 2 * (i / 2) + 1)
    rw [show l - 1 + 1 = l by omega, show 2 * (i / 2) + 1 = i + 1 by omega]
theorem kids_sib {x : C3} (h : okOf x = true) (hl : x.2.1 < 4) : sibOf (kidOf x 0) (kidOf x 1) = true ∧ parOf (kidOf x 0) = x := by
  obtain ⟨k0, -, -⟩ := kidOf_ok h hl (.inl rfl)
  obtain ⟨k1, -, -⟩ := kidOf_ok h hl (.inr rfl)
  obtain ⟨r, l, i⟩ := x
  refine ⟨?_, ?_⟩
  · simp only [sibOf, sibB, Bool.and_eq_true, decide_eq_true_eq]
    exact ⟨k0, k1, rfl, rfl, by show (2 * i + 0) % 2 = 0; omega, by show 2 * i + 1 = 2 * i + 0 + 1; omega⟩
  · show (r, l + 1 - 1, (2 * i + 0) / 2) = (r, l, i)
    rw [show l + 1 - 1 = l by omega, show (2 * i + 0) / 2 = i by omega]
/-- A leaf's place in the refined mesh. -/
theorem split_at {xs : List C3} {k : Nat} {x : C3} (hx : xs[k]? = some x) : (split2 xs k)[k]? = some (kidOf x 0) ∧ (split2 xs k)[k + 1]? = some (kidOf x 1) ∧ (∀ j, j < k → (split2 xs k)[j]? = xs[j]?) ∧ ∀ j, k < j → (split2 xs k)[j + 1]? = xs[j]? := by
  have hk := (List.getElem?_eq_some_iff.1 hx).1
  have hl : (xs.take k).length = k := by rw [List.length_take]; omega
  rw [split2_of hx, List.append_assoc]
  refine ⟨?_, ?_, fun j hj => ?_, fun j hj => ?_⟩
  · rw [List.getElem?_append_right (by omega), hl, Nat.sub_self]; rfl
  · rw [List.getElem?_append_right (by omega), hl, show k + 1 - k = 1 by omega]; rfl
  · rw [List.getElem?_append_left (by omega), List.getElem?_take_of_lt hj]
  · rw [List.getElem?_append_right (by omega), hl, List.getElem?_append_right (by simp; omega), List.getElem?_drop]
    congr 1
    simp
    omega
theorem merge_len {xs : List C3} {k : Nat} {x y : C3} (hx : xs[k]? = some x) (hy : xs[k + 1]? = some y) : (merge2 xs k).length + 1 = xs.length := by
  have hk := (List.getElem?_eq_some_iff.1 hy).1
  rw [merge2_of hx]
  simp
  omega
/-- A leaf's place in the coarsened mesh. -/
theorem merge_at {xs : List C3} {k : Nat} {x : C3} (hx : xs[k]? = some x) : (merge2 xs k)[k]? = some (parOf x) ∧ (∀ j, j < k → (merge2 xs k)[j]? = xs[j]?) ∧ ∀ j, k < j → (merge2 xs k)[j]? = xs[j + 1]? := by
  have hk := (List.getElem?_eq_some_iff.1 hx).1
  have hl : (xs.take k).length = k := by rw [List.length_take]; omega
  rw [merge2_of hx, List.append_assoc]
  refine ⟨?_, fun j hj => ?_, fun j hj => ?_⟩
  · rw [List.getElem?_append_right (by omega), hl, Nat.sub_self]; rfl
  · rw [List.getElem?_append_left (by omega), List.getElem?_take_of_lt hj]
  · rw [List.getElem?_append_right (by omega), hl, List.getElem?_append_right (by simp; omega), List.getElem?_drop]
    congr 1
    simp
    omega
theorem merge_split {xs : List C3} {k : Nat} {x : C3} (hx : xs[k]? = some x) (ho : okOf x = true) (hl : x.2.1 < 4) : merge2 (split2 xs k) k = xs := by
  obtain ⟨s0, s1, s2, s3⟩ := split_at hx
  obtain ⟨m0, m1, m2⟩ := merge_at s0
  apply List.ext_getElem?
  intro j
  rcases Nat.lt_trichotomy j k with h | rfl | h
  · rw [m1 j h, s2 j h]
  · rw [m0, (kids_sib ho hl).2, hx]
  · rw [m2 j h, s3 j h]
theorem split_merge {xs : List C3} {k : Nat} {x y : C3} (hx : xs[k]? = some x) (hy : xs[k + 1]? = some y) (h : sibOf x y = true) : split2 (merge2 xs k) k = xs := by
  obtain ⟨m0, m1, m2⟩ := merge_at hx
  obtain ⟨s0, s1, s2, s3⟩ := split_at m0
  obtain ⟨-, -, e0, e1, -⟩ := sib_kids h
  apply List.ext_getElem?
  intro j
  rcases Nat.lt_trichotomy j k with h | rfl | h
  · rw [s2 j h, m1 j h]
  · rw [s0, hx, ← e0]
  · by_cases h2 : j = k + 1
    · subst h2
      rw [s1, hy, ← e1]
    · obtain ⟨j, rfl⟩ : ∃ j', j = j' + 1 := ⟨j - 1, by omega⟩
      rw [s3 j (by omega), m2 j (by omega)]
theorem run_unsplit {xs : List C3} {k : Nat} {x : C3} {e : Int} (hx : xs[k]? = some x) (ho : okOf x = true) (hl : x.2.1 < 4) (hr : run (split2 xs k) = some e) : run xs = some e := by
  obtain ⟨-, s0, w0⟩ := kidOf_ok ho hl (.inl rfl)
  obtain ⟨-, s1, w1⟩ := kidOf_ok ho hl (.inr rfl)
  have hw : wdOf (kidOf x 0) = wdOf (kidOf x 1) := rfl
  rw [split2_of hx] at hr
  rw [cut_at hx]
  unfold run at hr ⊢
  rw [List.foldl_append, List.foldl_append] at hr ⊢
  rw [← hr]
  congr 1
  cases h : (xs.take k).foldl step (some 0) with
  | none => rfl
  | some e0 =>
    by_cases hs : stOf x = e0
    · rw [List.foldl_cons, List.foldl_cons, List.foldl_nil, List.foldl_cons, List.foldl_nil, step_yes hs, step_yes (show stOf (kidOf x 0) = e0 by omega), step_yes (show stOf (kidOf x 1) = e0 + wdOf (kidOf x 0) by omega)]
      congr 1
      omega
    · rw [h] at hr
      rw [List.foldl_cons, step_no (show stOf (kidOf x 0) ≠ e0 by omega), fold_none, fold_none] at hr
      cases hr
theorem meshOk_merge {R : Int} {xs : List C3} {k : Nat} {x y : C3} (hx : xs[k]? = some x) (hy : xs[k + 1]? = some y) (hs : sibOf x y = true) (h : meshOk R xs = true) : meshOk R (merge2 xs k) = true := by
  obtain ⟨h1, h2, h3⟩ : 1 ≤ R ∧ R ≤ 8 ∧ run xs = some (R * 16) := of_decide_eq_true h
  obtain ⟨ho, hl, -⟩ := sib_kids hs
  rw [← split_merge hx hy hs] at h3
  exact decide_eq_true ⟨h1, h2, run_unsplit (merge_at hx).1 ho hl h3⟩

/-- A balanced mesh: what that says of two leaves side by side. -/
theorem flat_of {xs : List C3} (h : firstGap xs < 0) {j : Nat} {x y : C3} (hx : xs[j]? = some x) (hy : xs[j + 1]? = some y) : -1 ≤ x.2.1 - y.2.1 ∧ x.2.1 - y.2.1 ≤ 1 := by
  rcases first_cases xs with ⟨-, hn⟩ | ⟨k, e, -⟩
  · have := hn j
    rw [gapAt_of hx hy] at this
    have := of_decide_eq_false this
    omega
  · omega
theorem flat_to {xs : List C3} (h : ∀ (j : Nat) (x y : C3), xs[j]? = some x → xs[j + 1]? = some y → -1 ≤ x.2.1 - y.2.1 ∧ x.2.1 - y.2.1 ≤ 1) : firstGap xs = -1 :=
  first_none fun j => by
    cases hg : gapAt xs j with
    | false => rfl
    | true =>
      obtain ⟨x, y, hx, hy, hgp⟩ := gapAt_in hg
      have := h j x y hx hy
      have hg' : 1 < x.2.1 - y.2.1 ∨ x.2.1 - y.2.1 < -1 := of_decide_eq_true hgp
      omega
theorem flat_merge {xs : List C3} {k : Nat} {x y : C3} (hx : xs[k]? = some x) (hy : xs[k + 1]? = some y) (hs : sibOf x y = true) (h : firstGap xs < 0) (hL : leftOk xs k = true) (hR : rightOk xs k = true) : firstGap (merge2 xs k) = -1 := by
  obtain ⟨m0, m1, m2⟩ := merge_at hx
  have hyl : y.2.1 = x.2.1 := by rw [(sib_parts hs).2.1]
  have hp : (parOf x).2.1 = x.2.1 - 1 := rfl
  refine flat_to fun j a b ha hb => ?_
  rcases Nat.lt_trichotomy (j + 1) k with h1 | h1 | h1
  · rw [m1 j (by omega)] at ha
    rw [m1 _ h1] at hb
    exact flat_of h ha hb
  · subst h1
    rw [m1 j (by omega)] at ha
    rw [m0] at hb
    cases hb
    have := flat_of h ha hx
    simp only [leftOk, Bool.or_eq_true, decide_eq_true_eq, show j + 1 - 1 = j by omega] at hL
    rw [lvAt_of ha, lvAt_of hx] at hL
    omega
  · by_cases h2 : j = k
    · subst h2
      rw [m0] at ha
      cases ha
      rw [m2 _ (by omega)] at hb
      have := flat_of h hy hb
      have hb2 := (List.getElem?_eq_some_iff.1 hb).1
      simp only [rightOk, Bool.or_eq_true, decide_eq_true_eq] at hR
      rw [lvAt_of (show xs[j + 2]? = some b from hb), lvAt_of hx] at hR
      omega
    · rw [m2 j (by omega)] at ha
      rw [m2 _ (by omega)] at hb
      exact flat_of h ha hb
/-- The children of a leaf of a balanced mesh may be coarsened. -/
theorem mayCo_split {R : Int} {xs : List C3} {k : Nat} {x : C3} (hx : xs[k]? = some x) (hm : meshOk R xs = true) (h : firstGap xs < 0) (hl : x.2.1 < 4) : mayCo R (split2 xs k) k = true ∧ coOf R (split2 xs k) k = xs := by
  obtain ⟨s0, s1, s2, s3⟩ := split_at hx
  have ho := (mesh_parts hm).1 _ _ hx
  have hlen := split2_len hx
  have hk := (List.getElem?_eq_some_iff.1 hx).1
  have hmc : mayCo R (split2 xs k) k = true := by
    simp only [mayCo, pairOk, leftOk, rightOk, Bool.and_eq_true, Bool.or_eq_true, decide_eq_true_eq, Int.toNat_natCast]
    refine ⟨meshOk_split hx hl hm, by omega, by omega, by rw [sibAt_of s0 s1]; exact (kids_sib ho hl).1, ?_, ?_⟩
    · by_cases h0 : k = 0
      · exact .inl h0
      · right
        obtain ⟨r, l, i, hy⟩ := get_of_lt (xs := xs) (k := k - 1) rfl (by omega)
        rw [lvAt_of s0, lvAt_of ((s2 (k - 1) (by omega)).trans hy)]
        have := flat_of h hy (by rw [show k - 1 + 1 = k by omega]; exact hx)
        show l ≤ x.2.1 + 1
        dsimp only at this
        omega
    · by_cases h0 : k + 1 < xs.length
      · right
        obtain ⟨r, l, i, hy⟩ := get_of_lt (xs := xs) (k := k + 1) rfl h0
        rw [lvAt_of s0, lvAt_of ((s3 (k + 1) (by omega)).trans hy)]
        have := flat_of h hx hy
        show l ≤ x.2.1 + 1
        dsimp only at this
        omega
      · left; omega
  refine ⟨hmc, ?_⟩
  rw [show coOf R (split2 xs k) k = merge2 (split2 xs k) (k : Int).toNat from if_pos hmc, Int.toNat_natCast]
  exact merge_split hx ho hl
theorem refOf_len {R i : Int} {xs : List C3} : (refOf R xs i).length ≤ xs.length + 1 := by
  cases h : mayRef R xs i with
  | true =>
    obtain ⟨-, k, x, -, hx, -, -, hr⟩ := mayRef_parts h
    rw [hr, split2_len hx]
    omega
  | false => rw [show refOf R xs i = xs by simp [refOf, h]]; omega
theorem coOf_len {R i : Int} {xs : List C3} : (coOf R xs i).length ≤ xs.length := by
  cases h : mayCo R xs i with
  | true =>
    obtain ⟨-, k, x, y, -, hx, hy, -, -, -, hr⟩ := mayCo_parts h
    have := merge_len hx hy
    rw [hr]
    omega
  | false => rw [show coOf R xs i = xs by simp [coOf, h]]; omega
theorem balanced_co {R i : Int} {xs : List C3} (hm : meshOk R xs = true) (h : firstGap xs < 0) : meshOk R (coOf R xs i) = true ∧ firstGap (coOf R xs i) < 0 := by
  cases hc : mayCo R xs i with
  | true =>
    obtain ⟨-, k, x, y, -, hx, hy, hs, hL, hR, hr⟩ := mayCo_parts hc
    rw [hr]
    exact ⟨meshOk_merge hx hy hs hm, by rw [flat_merge hx hy hs h hL hR]; omega⟩
  | false => rw [show coOf R xs i = xs by simp [coOf, hc]]; exact ⟨hm, h⟩
end Go.Proofs.Ytaccigmkddomaaa.Mesh

namespace Go.Proofs.Ytaccigmkddomaaa.Mesh
open Go.ChangeShapes Go.WideShapes Go.ChangeAt Go.RowKit Go.Proofs.Ytaccigmkddomaaa.Cell

theorem mayRef_bad {R i : Int} {xs : List C3} (h : meshOk R xs = false) : mayRef R xs i = false := by simp [mayRef, h]
theorem mayRef_low {R i : Int} {xs : List C3} (h : i < 0) : mayRef R xs i = false := by
  have : decide (0 ≤ i) = false := decide_eq_false (by omega)
  simp [mayRef, this]
theorem mayRef_high {R i : Int} {xs : List C3} (h : (xs.length : Int) ≤ i) : mayRef R xs i = false := by
  have : decide (i < (xs.length : Int)) = false := decide_eq_false (by omega)
  simp [mayRef, this]
theorem mayRef_in {R : Int} {xs : List C3} {k : Nat} {x : C3} (h : meshOk R xs = true) (hx : xs[k]? = some x) : mayRef R xs k = decide (x.2.1 < 4) := by
  have hk := (List.getElem?_eq_some_iff.1 hx).1
  have h2 : decide ((k : Int) < (xs.length : Int)) = true := decide_eq_true (by omega)
  simp [mayRef, h, hk, lvAt_of hx]
theorem mayCo_bad {R i : Int} {xs : List C3} (h : meshOk R xs = false) : mayCo R xs i = false := by simp [mayCo, h]
theorem mayCo_low {R i : Int} {xs : List C3} (h : i < 0) : mayCo R xs i = false := by
  have : decide (0 ≤ i) = false := decide_eq_false (by omega)
  simp [mayCo, this]
theorem mayCo_high {R i : Int} {xs : List C3} (h : (xs.length : Int) ≤ i + 1) : mayCo R xs i = false := by
  have : decide (i + 1 < (xs.length : Int)) = false := decide_eq_false (by omega)
  simp [mayCo, this]
theorem mayCo_in {R : Int} {xs : List C3} {k : Nat} (h : meshOk R xs = true) (hk : k + 1 < xs.length) : mayCo R xs k = pairOk xs k := by
  have h2 : decide ((k : Int) + 1 < (xs.length : Int)) = true := decide_eq_true (by omega)
  simp [mayCo, h, h2]
theorem mayCo_apart {R : Int} {xs : List C3} {k : Nat} {x y : C3} (hx : xs[k]? = some x) (hy : xs[k + 1]? = some y) (h : sibOf x y = false) : mayCo R xs k = false := by
  have : sibAt xs k = false := (sibAt_of hx hy).trans h
  simp [mayCo, pairOk, this]
theorem mayCo_pair {R : Int} {xs : List C3} {k : Nat} {x y : C3} (hm : meshOk R xs = true) (hx : xs[k]? = some x) (hy : xs[k + 1]? = some y) (h : sibOf x y = true) : mayCo R xs k = (leftOk xs k && rightOk xs k) := by
  rw [mayCo_in hm (List.getElem?_eq_some_iff.1 hy).1, pairOk, sibAt_of hx hy, h, Bool.true_and]
theorem left_first (xs : List C3) : leftOk xs 0 = true := rfl
theorem left_of {xs : List C3} {k : Nat} {x z : C3} (hk : 0 < k) (hz : xs[k - 1]? = some z) (hx : xs[k]? = some x) : leftOk xs k = decide (z.2.1 ≤ x.2.1) := by
  have : decide (k = 0) = false := decide_eq_false (by omega)
  rw [leftOk, this, lvAt_of hz, lvAt_of hx, Bool.false_or]
theorem right_last {xs : List C3} {k : Nat} (h : xs.length ≤ k + 2) : rightOk xs k = true := by
  rw [rightOk, decide_eq_true h, Bool.true_or]
theorem right_of {xs : List C3} {k : Nat} {x z : C3} (hz : xs[k + 2]? = some z) (hx : xs[k]? = some x) : rightOk xs k = decide (z.2.1 ≤ x.2.1) := by
  have hk := (List.getElem?_eq_some_iff.1 hz).1
  rw [rightOk, decide_eq_false (by omega), lvAt_of hz, lvAt_of hx, Bool.false_or]

end Go.Proofs.Ytaccigmkddomaaa.Mesh

namespace Go.Proofs.Ytaccigmkddomaaa.Mesh
open Go.ChangeShapes Go.WideShapes Go.ChangeAt Go.RowKit Go.Proofs.Ytaccigmkddomaaa.Cell

variable {P : Program} {ops : Array Oper} {Q : Exit → Act → World → Prop} {md : Region.Mode} {S : World → Prop}
/-- An operation that is not wanted is taken first. -/
theorem skipH {i d : Nat} {oi : Oper} {fuel : Nat} {listed : Array Bool} {a : Act} {w : World} (hi : ops[i]? = some oi) (hd : oi.dst = some d)
    (hs : Region.noSelect ops = true) (hf : Region.free md ops listed i = true) (hr : (Region.ready md ops listed).contains i = true)
    (hQ : ∀ c a w, Q (.panic c) (a.put oi.dst undef) w → Q (.panic c) a w) (hw : Region.wanted oi (yielded ops a.tmps) = false) (hS : S w)
    (h : wpAnyH P md ops Q S fuel (listed.setIfInBounds i true) ⟨a.tmps.setIfInBounds d undef, a.defers⟩ w) : wpAnyH P md ops Q S (fuel + 1) listed a w :=
  wpAnyH_take hi hs hf hr hQ (Or.inr ⟨hw, rfl⟩) hS (by rw [hd]; exact h)
/-- An operation that is wanted, and yields the same in every world that is held, is taken first. -/
theorem takeH {i d : Nat} {oi : Oper} {v : Value} {fuel : Nat} {listed : Array Bool} {a : Act} {w : World} (hi : ops[i]? = some oi) (hd : oi.dst = some d)
    (hs : Region.noSelect ops = true) (hf : Region.free md ops listed i = true) (hr : (Region.ready md ops listed).contains i = true)
    (hQ : ∀ c a w, Q (.panic c) (a.put oi.dst v) w → Q (.panic c) a w) (hw : Region.wanted oi (yielded ops a.tmps) = true) (hy : ∀ w, S w → (execOp a.eval oi).run P w = .ok (.value v) w) (hS : S w)
    (h : wpAnyH P md ops Q S fuel (listed.setIfInBounds i true) ⟨a.tmps.setIfInBounds d v, a.defers⟩ w) : wpAnyH P md ops Q S (fuel + 1) listed a w :=
  wpAnyH_take hi hs hf hr hQ (Or.inl ⟨hw, hy⟩) hS (by rw [hd]; exact h)

end Go.Proofs.Ytaccigmkddomaaa.Mesh

namespace Go.Proofs.Ytaccigmkddomaaa.Mesh
open Go.ChangeShapes Go.WideShapes Go.ChangeAt Go.RowKit Go.Proofs.Ytaccigmkddomaaa.Cell

end Go.Proofs.Ytaccigmkddomaaa.Mesh

namespace Go.Proofs.Ytaccigmkddomaaa.Mesh
open Go.ChangeShapes Go.WideShapes Go.ChangeAt Go.RowKit Go.Proofs.Ytaccigmkddomaaa.Cell

theorem in_is (x lo hi : Int) (w : World) :
    Calls Try.prog 44 #[.int .i64 x, .int .i64 lo, .int .i64 hi] w fun e w' => e = .returned (.bool (decide (lo ≤ x ∧ x ≤ hi))) ∧ w' = w := by
  by_cases h1 : lo ≤ x
  · by_cases h2 : x ≤ hi
    · rw [decide_eq_true (by omega : lo ≤ x ∧ x ≤ hi)]
      go_enter Try.func44, Try.ntmps44
      go_wp2
      go_ret
      exact ⟨rfl, rfl⟩
    · rw [decide_eq_false (by omega : ¬ (lo ≤ x ∧ x ≤ hi))]
      go_enter Try.func44, Try.ntmps44
      go_wp2
      go_ret
      exact ⟨rfl, rfl⟩
  · rw [decide_eq_false (by omega : ¬ (lo ≤ x ∧ x ≤ hi))]
    go_enter Try.func44, Try.ntmps44
    go_wp2
    go_ret
    exact ⟨rfl, rfl⟩
theorem in_to (x lo hi : Int) (b : Bool) (h : decide (lo ≤ x ∧ x ≤ hi) = b) (w : World) :
    Calls Try.prog 44 #[.int .i64 x, .int .i64 lo, .int .i64 hi] w fun e w' => e = .returned (.bool b) ∧ w' = w := h ▸ in_is x lo hi w
set_option maxHeartbeats 2000000 in
theorem specMayRef_is (R i : Int) (a : Option Addr) (n cap : Nat) (xs : List C3) (w : World) (hr : Reads w a n xs) (hn : n ≤ 1048576) :
    Calls Try.prog 46 #[.agg #[.int .i64 R, .slice a n cap], .int .i64 i] w fun e w' => e = .returned (.bool (mayRef R xs i)) ∧ w.grownBy w' none := by
  have hni : (n : Int) ≤ 1048576 := by omega
  have HN := Lib.hid hn; clear hn
  have HR := Lib.hid hr
  have hlen := hr.len
  clear hr
  have HB := Lib.hid (MBox.new w R (.slice a n cap))
  have hok : ∀ u, Reads u a n xs → Calls Try.prog 57 #[.agg #[.int .i64 R, .slice a n cap]] u fun e w' => e = .returned (.bool (meshOk R xs)) ∧ u.grownBy w' none := fun u h => specMeshOk_is R a n cap xs u h HN.out
  have HOK := Lib.hid hok; clear hok
  have hwn : IntKind.i64.wrap ((n : Int) - 1) = (n : Int) - 1 := IntWalk.i64_in _ (by omega)
  cases hm : meshOk R xs with
  | false =>
    rw [mayRef_bad hm]
    rw [hm] at HOK
    go_enter Try.func46, Try.ntmps46
    go_wp2_with (go_at_call 57; (with_reducible refine (HOK.out _ (HR.out.past _)).mono ?_); rintro e w1 ⟨rfl, hg⟩; have HG := Lib.hid hg; clear hg)
    go_ret
    exact ⟨rfl, grown_trans (g_alloc (grown_refl _) _) HG.out⟩
  | true =>
    have HM := Lib.hid hm
    rw [hm] at HOK
    clear hm
    by_cases h0 : ¬ (0 ≤ i ∧ i ≤ (n : Int) - 1)
    · have hf : mayRef R xs i = false := by
        by_cases h1 : i < 0
        · exact mayRef_low h1
        · exact mayRef_high (by omega)
      rw [hf]
      have HI := Lib.hid (in_to i 0 ((n : Int) - 1) false (decide_eq_false h0))
      go_enter Try.func46, Try.ntmps46
      go_wp2_with (first
        | (go_at_call 57; (with_reducible refine (HOK.out _ (HR.out.past _)).mono ?_); rintro e w1 ⟨rfl, hg⟩; have b1 := (HB.out.kept hg (by simp)).c1; have HG := Lib.hid hg; clear hg)
        | (go_at_call 44; (with_reducible refine (HI.out _).mono ?_); rintro e w2 ⟨rfl, rfl⟩))
      go_ret
      exact ⟨rfl, grown_trans (g_alloc (grown_refl _) _) HG.out⟩
    rw [Decidable.not_not] at h0
    have HI := Lib.hid (in_to i 0 ((n : Int) - 1) true (decide_eq_true h0))
    obtain ⟨k, rfl⟩ : ∃ k : Nat, i = k := ⟨i.toNat, by omega⟩
    obtain ⟨r, l, j, hx⟩ := get_of_lt hlen (k := k) (by omega)
    rw [mayRef_in HM.out hx]
    obtain ⟨g, rfl, -⟩ := HR.out.at_ k _ hx
    have HX := Lib.hid hx
    have k1 : (k : Int) < n := by omega
    clear hx h0
    go_enter Try.func46, Try.ntmps46
    go_wp2_with (first
      | (go_at_call 57; (with_reducible refine (HOK.out _ (HR.out.past _)).mono ?_); rintro e w1 ⟨rfl, hg⟩; have b1 := (HB.out.kept hg (by simp)).c1; obtain ⟨g', hg', -, d0, d1, d2⟩ := ((HR.out.past _).on hg).at_ k _ HX.out; cases hg'; dsimp only at d0 d1 d2; have HG := Lib.hid hg; clear hg)
      | (go_at_call 44; (with_reducible refine (HI.out _).mono ?_); rintro e w2 ⟨rfl, rfl⟩))
    go_ret
    exact ⟨rfl, grown_trans (g_alloc (grown_refl _) _) HG.out⟩

end Go.Proofs.Ytaccigmkddomaaa.Mesh

namespace Go.Proofs.Ytaccigmkddomaaa.Mesh
open Go.ChangeShapes Go.WideShapes Go.ChangeAt Go.RowKit Go.Proofs.Ytaccigmkddomaaa.Cell

/-- append to a slice with no room, of whoever it is. -/
theorem step_append_full {w : World} {ops : Array Oper} {o : Oper} {a : Act} {K : Act → World → Prop} {Q : Exit → Act → World → Prop} {E : Prop} (hgd : o.guard = none) (s x : Operand)
    (ho : o.op = .call { callee := .builtin .append, args := #[s, x], argTypes := #[24, 24] })
    (b : Addr) (k : Nat) (olds : List Value) (hs : a.eval s = .slice (some b) k k) (hlo : olds.length = k * 3) (holds : ∀ j u, olds[j]? = some u → w.cell? (b.add j) = some u)
    (ad : Addr) (m c : Nat) (news : List Value) (hx : a.eval x = .slice (some ad) m c) (hl : news.length = m * 3) (hnews : ∀ j u, news[j]? = some u → w.cell? (ad.add j) = some u) (hm : 0 < m)
    (hbig : k + m ≤ 1048577)
    (h : ∀ v' w', w'.ownsRow w.heap.size 35 3 v' (k + m) (olds ++ news) → w.grownBy w' none → K (a.put o.dst v') w') :
    if Region.wanted o (yielded ops a.tmps) = true then Oper.wp Try.prog o a w K Q else E := by
  have hw : Region.wanted o (yielded ops a.tmps) = true := by simp [Region.wanted, hgd]
  rw [if_pos hw]
  obtain ⟨i0, hi0, hz0, hz1, hz2⟩ := info_parts infoIdR
  obtain ⟨v', w', hrun, r1, r2⟩ := run_append_arg_grows (P := Try.prog) w 24 o.type 35 i0 (.agg #[.int .i64 0, .int .i64 0, .int .i64 0]) 3 24 Try.underlying24 hi0 hz0 hz1 hz2 rfl (by decide) b k k olds hlo holds ad m c news hl hnews (by omega) (by unfold maxLen; omega) (by omega)
  unfold Oper.wp
  simp [execOp, ho, resolve, invoke, builtin, hs, hx, hrun, Result.andThen]
  exact h v' w' r1 r2
theorem one_new (w : World) (p : C3) : (w.alloc (.cells #[.int .i64 p.1, .int .i64 p.2.1, .int .i64 p.2.2] 35)).heap[w.heap.size]? = some (.cells (flatC [p]).toArray 35 (0, 0)) := heap_alloc_new w _

end Go.Proofs.Ytaccigmkddomaaa.Mesh

namespace Go.Proofs.Ytaccigmkddomaaa.Mesh
open Go.ChangeShapes Go.WideShapes Go.ChangeAt Go.RowKit Go.Proofs.Ytaccigmkddomaaa.Cell

/-- A mesh in memory of the call's own, and a bool. -/
def GivesB (R : Int) (b : Bool) (zs : List C3) (w : World) (e : Ending) (w' : World) : Prop :=
  ∃ v, e = .returned (.tuple #[.agg #[.int .i64 R, v], .bool b]) ∧ w'.ownsRow w.heap.size 35 3 v zs.length (flatC zs) ∧ w.grownBy w' none

end Go.Proofs.Ytaccigmkddomaaa.Mesh

namespace Go.Proofs.Ytaccigmkddomaaa.Mesh
open Go.ChangeShapes Go.WideShapes Go.ChangeAt Go.RowKit Go.Proofs.Ytaccigmkddomaaa.Cell

/-- What the model's two changes go through: may it be done; the mesh as it is; the mesh changed. -/
theorem specRefine_is (R i : Int) (g n cap : Nat) (xs : List C3) (w : World) (hr : Reads w (some ⟨g, 0, none⟩) n xs) (hn : n ≤ 1048576) (hcap : n ≤ cap) :
    Calls Try.prog 19 #[.agg #[.int .i64 R, .slice (some ⟨g, 0, none⟩) n cap], .int .i64 i] w (GivesB R (mayRef R xs i) (refOf R xs i) w) := by
  have HN := Lib.hid hn
  have HR := Lib.hid hr
  have hlen := hr.len
  clear hr hn
  have hmr : ∀ x, Reads x (some ⟨g, 0, none⟩) n xs → Calls Try.prog 46 #[.agg #[.int .i64 R, .slice (some ⟨g, 0, none⟩) n cap], .int .i64 i] x fun e w' => e = .returned (.bool (mayRef R xs i)) ∧ x.grownBy w' none := fun x h => specMayRef_is R i (some ⟨g, 0, none⟩) n cap xs x h HN.out
  have hx0 := (MBox.new w R (.slice (some ⟨g, 0, none⟩) n cap)).alloc (.cells #[.int .i64 0, .slice none 0 0] 26)
  have hg0 : w.grownBy ((w.alloc (.cells #[.int .i64 R, .slice (some ⟨g, 0, none⟩) n cap] 26)).alloc (.cells #[.int .i64 0, .slice none 0 0] 26)) none := g_alloc (g_alloc (grown_refl _) _) _
  have hm0 := MBox.new (w.alloc (.cells #[.int .i64 R, .slice (some ⟨g, 0, none⟩) n cap] 26)) 0 (.slice none 0 0)
  rw [World.size_alloc] at hm0
  have HX0 := Lib.hid hx0; have HG0 := Lib.hid hg0; have HM0 := Lib.hid hm0
  clear hx0 hg0 hm0
  cases hm : mayRef R xs i with
  | false =>
    rw [hm] at hmr
    have HMR := Lib.hid hmr; clear hmr
    rw [show refOf R xs i = xs by simp [refOf, hm]]
    clear hm
    go_enter Try.func19, Try.ntmps19
    go_upto_region 1 with fail
    generalize (w.alloc (.cells #[.int .i64 R, .slice (some ⟨g, 0, none⟩) n cap] 26)).alloc (.cells #[.int .i64 0, .slice none 0 0] 26) = W0 at *
    have b0 := MBox.c0 HX0.out
    have b1 := MBox.c1 HX0.out
    go_wp2_with (first
      | (go_at_call 46; ((with_reducible refine (HMR.out _ (HR.out.on HG0.out)).mono ?_); rintro e w1 ⟨rfl, hg⟩; have hx := HX0.out.kept hg (by simp); have c0 := hx.c0; have c1 := hx.c1; have HG1 := Lib.hid (grown_trans HG0.out hg); have HM1 := Lib.hid (HM0.out.kept hg (by simp)); clear hg hx))
      | (go_at_call 47; ((with_reducible refine (specCopy_is R g n cap xs _ (HR.out.on HG1.out) HN.out).mono ?_); rintro e w2 ⟨v, rfl, ho, hg⟩; obtain ⟨a', cap', rfl⟩ := own_shape ho; have hm := HM1.out.kept hg (by simp); have r0 := hm.c0; have r1 := hm.c1; have s0 := hm.f0; have s1 := hm.f1; have HM2 := Lib.hid hm; have HO2 := Lib.hid (own_low ho HG1.out.size); have HG2 := Lib.hid (grown_trans HG1.out hg); clear ho hg hm)))
    obtain ⟨hm2, ho2, hg2⟩ := out_set (w := w) (R := R) (by omega) HM2.out HO2.out HG2.out
    exact bodyPost_ret_by (results_row_tmp rfl _ _ (w.heap.size + 1) _ _ (0, 0) _ rfl hm2 Try.underlying26 rfl (by kernel_rfl)) rfl ⟨_, rfl, by rw [HR.out.len]; exact ho2, hg2⟩
  | true =>
    rw [hm] at hmr
    have HMR := Lib.hid hmr; clear hmr
    obtain ⟨hok, k, x, rfl, hx, ho, hl, hro⟩ := mayRef_parts hm
    rw [hro]
    obtain ⟨-, hl1, hl2⟩ := mesh_parts hok
    have hj := fun u h => specSplit_is R g n cap k xs x u h (by omega) hcap hx ho hl
    have HJ := Lib.hid hj
    have HL := Lib.hid (split2_len hx)
    clear hm hok hx ho hl hro hl1 hl2 hj
    go_enter Try.func19, Try.ntmps19
    go_upto_region 1 with fail
    generalize (w.alloc (.cells #[.int .i64 R, .slice (some ⟨g, 0, none⟩) n cap] 26)).alloc (.cells #[.int .i64 0, .slice none 0 0] 26) = W0 at *
    have b0 := MBox.c0 HX0.out
    have b1 := MBox.c1 HX0.out
    go_wp2_with (first
      | (go_at_call 46; ((with_reducible refine (HMR.out _ (HR.out.on HG0.out)).mono ?_); rintro e w1 ⟨rfl, hg⟩; have hx := HX0.out.kept hg (by simp); have c0 := hx.c0; have c1 := hx.c1; have HG1 := Lib.hid (grown_trans HG0.out hg); have HM1 := Lib.hid (HM0.out.kept hg (by simp)); clear hg hx))
      | (go_at_call 48; ((with_reducible refine (HJ.out _ (HR.out.on HG1.out)).mono ?_); rintro e w2 ⟨v, rfl, ho, hg⟩; obtain ⟨a', cap', rfl⟩ := own_shape ho; have hm := HM1.out.kept hg (by simp); have r0 := hm.c0; have r1 := hm.c1; have s0 := hm.f0; have s1 := hm.f1; have HM2 := Lib.hid hm; have HO2 := Lib.hid (own_low ho HG1.out.size); have HG2 := Lib.hid (grown_trans HG1.out hg); clear ho hg hm)))
    obtain ⟨hm2, ho2, hg2⟩ := out_set (w := w) (R := R) (by omega) HM2.out HO2.out HG2.out
    exact bodyPost_ret_by (results_row_tmp rfl _ _ (w.heap.size + 1) _ _ (0, 0) _ rfl hm2 Try.underlying26 rfl (by kernel_rfl)) rfl ⟨_, rfl, by rw [HL.out, HR.out.len]; exact ho2, hg2⟩

end Go.Proofs.Ytaccigmkddomaaa.Mesh

namespace Go.Proofs.Ytaccigmkddomaaa.Mesh
open Go.ChangeShapes Go.WideShapes Go.ChangeAt Go.RowKit Go.Proofs.Ytaccigmkddomaaa.Cell

/-- Are the two meshes one. -/
def sameB (R : Int) (xs : List C3) (R' : Int) (ys : List C3) : Bool := decide (R = R' ∧ xs = ys)
theorem same_roots {R R' : Int} {xs ys : List C3} (h : R ≠ R') : sameB R xs R' ys = false := decide_eq_false (fun h' => h h'.1)
theorem same_len {R R' : Int} {xs ys : List C3} (h : xs.length ≠ ys.length) : sameB R xs R' ys = false := decide_eq_false (fun h' => h (by rw [h'.2]))
theorem list_len {xs ys : List C3} (h : xs.length ≠ ys.length) : decide (xs = ys) = false := decide_eq_false (fun h' => h (by rw [h']))
theorem list_at {xs ys : List C3} {k : Nat} {x y : C3} (hx : xs[k]? = some x) (hy : ys[k]? = some y) (h : x ≠ y) : decide (xs = ys) = false :=
  decide_eq_false (fun h' => h (by rw [h', hy] at hx; cases hx; rfl))
theorem same_at {R R' : Int} {xs ys : List C3} {k : Nat} {x y : C3} (hx : xs[k]? = some x) (hy : ys[k]? = some y) (h : x ≠ y) : sameB R xs R' ys = false :=
  decide_eq_false (fun h' => of_decide_eq_false (list_at hx hy h) h'.2)
theorem list_all {xs ys : List C3} {k : Nat} (h : ∀ j, j < k → xs[j]? = ys[j]?) (hx : xs.length ≤ k) (hy : ys.length ≤ k) : xs = ys :=
  List.ext_getElem? fun j => by
    by_cases hj : j < k
    · exact h j hj
    · rw [List.getElem?_eq_none (by omega), List.getElem?_eq_none (by omega)]
theorem same_more {xs ys : List C3} {k : Nat} {x y : C3} (h : ∀ j, j < k → xs[j]? = ys[j]?) (hx : xs[k]? = some x) (hy : ys[k]? = some y) (he : x = y) : ∀ j, j < k + 1 → xs[j]? = ys[j]? := fun j hj => by
  by_cases h' : j < k
  · exact h j h'
  · obtain rfl : j = k := by omega
    rw [hx, hy, he]

end Go.Proofs.Ytaccigmkddomaaa.Mesh
