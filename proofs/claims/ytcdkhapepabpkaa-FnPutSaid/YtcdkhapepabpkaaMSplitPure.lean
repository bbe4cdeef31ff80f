/- Meshes: a leaf replaced by its children, the first face that is not balanced, the balanced mesh: plain lemmas.
   Conditions: none. -/
import Derived.Test.YtcdkhapepabpkaaMLeafPure
set_option maxRecDepth 100000
namespace Go.Proofs.Ytcdkhapepabpkaa.Mesh
open Go.ChangeShapes Go.WideShapes Go.ChangeAt Go.RowKit Go.Proofs.Ytcdkhapepabpkaa.Cell

/-- A cell's child. -/
def kidOf (x : C3) (s : Int) : C3 := (x.1, x.2.1 + 1, 2 * x.2.2 + s)
theorem kidOf_ok {x : C3} {s : Int} (h : okOf x = true) (hl : x.2.1 < 4) (hs : s = 0 ∨ s = 1) : okOf (kidOf x s) = true ∧ stOf (kidOf x s) = stOf x + s * wdOf (kidOf x s) ∧ wdOf x = 2 * wdOf (kidOf x s) := by
  obtain ⟨r, l, i⟩ := x
  obtain ⟨h0, h1, h2, h3, h4, h5⟩ := of_ok (show okId r l i = true from h)
  have hk : okId r (l + 1) (2 * i + s) = true := by
    apply ok_true
    dsimp only at hl
    rcases (show l = 0 ∨ l = 1 ∨ l = 2 ∨ l = 3 by omega) with rfl | rfl | rfl | rfl
    all_goals
      simp at h5 ⊢
      omega
  refine ⟨hk, ?_, ?_⟩
  · show startOf r (l + 1) (2 * i + s) = startOf r l i + s * widthOf (l + 1)
    rw [show startOf r l i = r * 16 + i * widthOf l from if_pos h, show startOf r (l + 1) (2 * i + s) = r * 16 + (2 * i + s) * widthOf (l + 1) from if_pos hk]
    dsimp only at hl
    rcases (show l = 0 ∨ l = 1 ∨ l = 2 ∨ l = 3 by omega) with rfl | rfl | rfl | rfl
    all_goals
      simp [widthOf]
      try omega
  · show widthOf l = 2 * widthOf (l + 1)
    dsimp only at hl
    rcases (show l = 0 ∨ l = 1 ∨ l = 2 ∨ l = 3 by omega) with rfl | rfl | rfl | rfl
    all_goals rfl

/-- The k-th leaf replaced by its children. -/
def split2 (xs : List C3) (k : Nat) : List C3 :=
  match xs[k]? with
  | some x => xs.take k ++ [kidOf x 0, kidOf x 1] ++ xs.drop (k + 1)
  | none => xs
theorem split2_of {xs : List C3} {k : Nat} {x : C3} (hx : xs[k]? = some x) : split2 xs k = xs.take k ++ [kidOf x 0, kidOf x 1] ++ xs.drop (k + 1) := by simp [split2, hx]
theorem cut_at {xs : List C3} {k : Nat} {x : C3} (hx : xs[k]? = some x) : xs = xs.take k ++ [x] ++ xs.drop (k + 1) := by
  rw [← take_snoc hx, List.take_append_drop]
theorem split2_len {xs : List C3} {k : Nat} {x : C3} (hx : xs[k]? = some x) : (split2 xs k).length = xs.length + 1 := by
  have hk := (List.getElem?_eq_some_iff.1 hx).1
  rw [split2_of hx]
  simp
  omega
theorem run_split {xs : List C3} {k : Nat} {x : C3} {e : Int} (hx : xs[k]? = some x) (ho : okOf x = true) (hl : x.2.1 < 4) (hr : run xs = some e) : run (split2 xs k) = some e := by
  obtain ⟨-, s0, w0⟩ := kidOf_ok ho hl (.inl rfl)
  obtain ⟨-, s1, w1⟩ := kidOf_ok ho hl (.inr rfl)
  have hw : wdOf (kidOf x 0) = wdOf (kidOf x 1) := rfl
  rw [split2_of hx]
  have h2 := hr
  rw [cut_at hx] at h2
  unfold run at h2 ⊢
  rw [List.foldl_append, List.foldl_append] at h2 ⊢
  rw [← h2]
  congr 1
  cases h : (xs.take k).foldl step (some 0) with
  | none => rfl
  | some e0 =>
    by_cases hs : stOf x = e0
    · rw [List.foldl_cons, List.foldl_cons, List.foldl_nil, List.foldl_cons, List.foldl_nil, step_yes hs, step_yes (show stOf (kidOf x 0) = e0 by omega), step_yes (show stOf (kidOf x 1) = e0 + wdOf (kidOf x 0) by omega)]
      congr 1
      omega
    · rw [h] at h2
      rw [List.foldl_cons, List.foldl_nil, step_no hs, fold_none] at h2
      cases h2
theorem meshOk_split {R : Int} {xs : List C3} {k : Nat} {x : C3} (hx : xs[k]? = some x) (hl : x.2.1 < 4) (h : meshOk R xs = true) : meshOk R (split2 xs k) = true := by
  obtain ⟨h1, h2, h3⟩ : 1 ≤ R ∧ R ≤ 8 ∧ run xs = some (R * 16) := of_decide_eq_true h
  have ho := (run_bounds _ h3).2.2 x (List.mem_of_getElem? hx)
  exact decide_eq_true ⟨h1, h2, run_split hx ho hl h3⟩

/-- A face whose levels differ by more than one. -/
def gap (x y : C3) : Bool := decide (1 < x.2.1 - y.2.1 ∨ x.2.1 - y.2.1 < -1)
def gapAt (xs : List C3) (i : Nat) : Bool := match xs[i]?, xs[i + 1]? with
  | some x, some y => gap x y
  | _, _ => false
theorem gapAt_of {xs : List C3} {i : Nat} {x y : C3} (hx : xs[i]? = some x) (hy : xs[i + 1]? = some y) : gapAt xs i = gap x y := by simp [gapAt, hx, hy]
theorem gapAt_out {xs : List C3} {i : Nat} (h : xs.length ≤ i + 1) : gapAt xs i = false := by
  unfold gapAt
  rw [List.getElem?_eq_none (show xs.length ≤ i + 1 from h)]
  split <;> simp_all
theorem gapAt_in {xs : List C3} {i : Nat} (h : gapAt xs i = true) : ∃ x y, xs[i]? = some x ∧ xs[i + 1]? = some y ∧ gap x y = true := by
  unfold gapAt at h
  split at h
  · exact ⟨_, _, by assumption, by assumption, h⟩
  · cases h
/-- The first of them, or -1. -/
def firstGap (xs : List C3) : Int := match (List.range xs.length).find? (gapAt xs) with
  | some i => i
  | none => -1
theorem first_hit {xs : List C3} {k : Nat} (h : gapAt xs k = true) (hn : ∀ j, j < k → gapAt xs j = false) : firstGap xs = k := by
  have hk : k < xs.length := by
    obtain ⟨x, y, hx, -, -⟩ := gapAt_in h
    exact (List.getElem?_eq_some_iff.1 hx).1
  have hf : (List.range xs.length).find? (gapAt xs) = some k := by
    rw [List.find?_eq_some_iff_getElem]
    refine ⟨h, k, by simpa using hk, by simp, fun j hj => ?_⟩
    simp [hn j hj]
  unfold firstGap
  rw [hf]
theorem first_none {xs : List C3} (hn : ∀ j, gapAt xs j = false) : firstGap xs = -1 := by
  have hf : (List.range xs.length).find? (gapAt xs) = none := by
    rw [List.find?_eq_none]
    intro j _
    simp [hn j]
  unfold firstGap
  rw [hf]
theorem first_cases (xs : List C3) : (firstGap xs = -1 ∧ ∀ j, gapAt xs j = false) ∨ ∃ k : Nat, firstGap xs = k ∧ gapAt xs k = true ∧ ∀ j, j < k → gapAt xs j = false := by
  by_cases h : ∃ k, gapAt xs k = true
  · obtain ⟨k, hk, hn⟩ : ∃ k, gapAt xs k = true ∧ ∀ j, j < k → gapAt xs j = false := by
      obtain ⟨k, hk⟩ := h
      induction k using Nat.strongRecOn with
      | _ k ih =>
        by_cases h2 : ∃ j, j < k ∧ gapAt xs j = true
        · obtain ⟨j, hj, hg⟩ := h2
          exact ih j hj hg
        · exact ⟨k, hk, fun j hj => by
            cases hg : gapAt xs j with
            | false => rfl
            | true => exact absurd ⟨j, hj, hg⟩ h2⟩
    exact .inr ⟨k, first_hit hk hn, hk, hn⟩
  · have hn : ∀ j, gapAt xs j = false := fun j => by
      cases hg : gapAt xs j with
      | false => rfl
      | true => exact absurd ⟨j, hg⟩ h
    exact .inl ⟨first_none hn, hn⟩
/-- The coarser leaf of a face. -/
def coarser (xs : List C3) (i : Nat) : Nat := match xs[i]?, xs[i + 1]? with
  | some x, some y => if y.2.1 < x.2.1 then i + 1 else i
  | _, _ => i
/-- The coarser leaf of a face that is not balanced can be refined, and its neighbour lies deeper. -/
theorem coarser_ok {xs : List C3} {i : Nat} (h : gapAt xs i = true) (hok : ∀ (j : Nat) x, xs[j]? = some x → okOf x = true) :
    ∃ x, xs[coarser xs i]? = some x ∧ x.2.1 < 3 := by
  obtain ⟨x, y, hx, hy, hg⟩ := gapAt_in h
  have hg' : 1 < x.2.1 - y.2.1 ∨ x.2.1 - y.2.1 < -1 := of_decide_eq_true hg
  obtain ⟨-, -, a0, a1, -⟩ := ok_bounds (hok _ _ hx)
  obtain ⟨-, -, b0, b1, -⟩ := ok_bounds (hok _ _ hy)
  unfold coarser
  rw [hx, hy]
  dsimp only
  split
  · exact ⟨y, hy, by omega⟩
  · exact ⟨x, hx, by omega⟩
/-- One refinement at the first face; the balanced mesh. -/
def balStep (xs : List C3) : List C3 := split2 xs (coarser xs (firstGap xs).toNat)
def bal : Nat → List C3 → List C3
  | 0, xs => xs
  | f + 1, xs => if firstGap xs < 0 then xs else bal f (balStep xs)
theorem bal_done {xs : List C3} (h : firstGap xs < 0) : ∀ f, bal f xs = xs
  | 0 => rfl
  | _ + 1 => if_pos h
theorem bal_next {xs : List C3} (h : ¬ firstGap xs < 0) (f : Nat) : bal (f + 1) xs = bal f (balStep xs) := if_neg h
theorem step_ok {R : Int} {xs : List C3} (h : meshOk R xs = true) (hg : ¬ firstGap xs < 0) : meshOk R (balStep xs) = true ∧ (balStep xs).length = xs.length + 1 := by
  obtain ⟨h1, h2, h3⟩ : 1 ≤ R ∧ R ≤ 8 ∧ run xs = some (R * 16) := of_decide_eq_true h
  have hok : ∀ (j : Nat) x, xs[j]? = some x → okOf x = true := fun j x hx => (run_bounds _ h3).2.2 x (List.mem_of_getElem? hx)
  rcases first_cases xs with ⟨e, -⟩ | ⟨k, e, hk, -⟩
  · omega
  · obtain ⟨x, hx, hl⟩ := coarser_ok hk hok
    have he : (firstGap xs).toNat = k := by omega
    unfold balStep
    rw [he]
    exact ⟨meshOk_split hx (by omega) h, split2_len hx⟩
/-- It is reached: no more than 128 leaves. -/
theorem bal_ok {R : Int} : ∀ (f : Nat) (xs : List C3), meshOk R xs = true → 128 ≤ f + xs.length → meshOk R (bal f xs) = true ∧ firstGap (bal f xs) = -1
  | 0, xs, h, hf => by
    refine ⟨h, ?_⟩
    by_cases hg : firstGap xs < 0
    · rcases first_cases xs with ⟨e, -⟩ | ⟨k, e, -⟩
      · exact e
      · omega
    · obtain ⟨q1, q2⟩ := step_ok h hg
      obtain ⟨-, -, h3⟩ : 1 ≤ R ∧ R ≤ 8 ∧ run (balStep xs) = some (R * 16) := of_decide_eq_true q1
      have := run_bounds _ h3
      omega
  | f + 1, xs, h, hf => by
    by_cases hg : firstGap xs < 0
    · rw [bal_done hg]
      refine ⟨h, ?_⟩
      rcases first_cases xs with ⟨e, -⟩ | ⟨k, e, -⟩
      · exact e
      · omega
    · rw [bal_next hg]
      obtain ⟨q1, q2⟩ := step_ok h hg
      exact bal_ok f _ q1 (by omega)
/-- The answer of Balance. -/
def balOf (R : Int) (xs : List C3) : List C3 := if meshOk R xs then bal 128 xs else xs
theorem balOf_ok {R : Int} {xs : List C3} (h : meshOk R xs = true) : meshOk R (balOf R xs) = true ∧ firstGap (balOf R xs) = -1 := by
  rw [show balOf R xs = bal 128 xs from if_pos h]
  exact bal_ok 128 xs h (by omega)
theorem balOf_again {R : Int} {xs : List C3} (h : meshOk R xs = true) : balOf R (balOf R xs) = balOf R xs := by
  obtain ⟨h1, h2⟩ := balOf_ok h
  rw [show balOf R (balOf R xs) = bal 128 (balOf R xs) from if_pos h1, bal_done (by omega)]

/-- What lies in a cell. -/
def Within (x y : C3) : Prop := stOf x ≤ stOf y ∧ stOf y + wdOf y ≤ stOf x + wdOf x
theorem within_refl (x : C3) : Within x x := ⟨Int.le_refl _, Int.le_refl _⟩
theorem Within.trans {x y z : C3} (h : Within x y) (k : Within y z) : Within x z := ⟨Int.le_trans h.1 k.1, Int.le_trans k.2 h.2⟩
theorem kid_within {x : C3} {s : Int} (ho : okOf x = true) (hl : x.2.1 < 4) (hs : s = 0 ∨ s = 1) : Within x (kidOf x s) := by
  obtain ⟨k0, s0, w0⟩ := kidOf_ok ho hl hs
  have hp := (ok_bounds k0).2.2.2.2.2.1
  rcases hs with rfl | rfl
  · exact ⟨by omega, by omega⟩
  · exact ⟨by omega, by omega⟩
theorem mem_split {xs : List C3} {k : Nat} {x y : C3} (hx : xs[k]? = some x) (hy : y ∈ split2 xs k) : y ∈ xs ∨ y = kidOf x 0 ∨ y = kidOf x 1 := by
  rw [split2_of hx] at hy
  simp only [List.mem_append, List.mem_cons, List.not_mem_nil, or_false] at hy
  rcases hy with (h | h) | h
  · exact .inl (List.mem_of_mem_take h)
  · exact .inr h
  · exact .inl (List.mem_of_mem_drop h)
theorem mem_of_split {xs : List C3} {k : Nat} {x y : C3} (hx : xs[k]? = some x) (hy : y ∈ xs) : y = x ∨ y ∈ split2 xs k := by
  rw [cut_at hx] at hy
  rw [split2_of hx]
  simp only [List.mem_append, List.mem_cons, List.not_mem_nil, or_false] at hy ⊢
  rcases hy with (h | h) | h
  · exact .inr (.inl (.inl h))
  · exact .inl h
  · exact .inr (.inr h)
/-- One refinement, in one sentence. -/
theorem step_at {R : Int} {xs : List C3} (h : meshOk R xs = true) (hg : ¬ firstGap xs < 0) : ∃ (k : Nat) (x y : C3), xs[k]? = some x ∧ okOf x = true ∧ x.2.1 < 3 ∧ y ∈ xs ∧ x.2.1 + 1 < y.2.1 ∧ balStep xs = split2 xs k := by
  obtain ⟨h1, h2, h3⟩ : 1 ≤ R ∧ R ≤ 8 ∧ run xs = some (R * 16) := of_decide_eq_true h
  have hok : ∀ (j : Nat) x, xs[j]? = some x → okOf x = true := fun j x hx => (run_bounds _ h3).2.2 x (List.mem_of_getElem? hx)
  rcases first_cases xs with ⟨e, -⟩ | ⟨k, e, hk, -⟩
  · omega
  · obtain ⟨x, y, hx, hy, hgp⟩ := gapAt_in hk
    have hg' : 1 < x.2.1 - y.2.1 ∨ x.2.1 - y.2.1 < -1 := of_decide_eq_true hgp
    obtain ⟨-, -, a0, a1, -⟩ := ok_bounds (hok _ _ hx)
    obtain ⟨-, -, c0, c1, -⟩ := ok_bounds (hok _ _ hy)
    have he : (firstGap xs).toNat = k := by omega
    have hb : balStep xs = split2 xs (coarser xs k) := by unfold balStep; rw [he]
    have hc : coarser xs k = if y.2.1 < x.2.1 then k + 1 else k := by unfold coarser; rw [hx, hy]
    rw [hb, hc]
    split
    · exact ⟨k + 1, y, x, hy, hok _ _ hy, by omega, List.mem_of_getElem? hx, by omega, rfl⟩
    · exact ⟨k, x, y, hx, hok _ _ hx, by omega, List.mem_of_getElem? hy, by omega, rfl⟩
/-- Each leaf of the balanced mesh lies in a leaf of the mesh. -/
theorem bal_within {R : Int} : ∀ (f : Nat) (xs : List C3), meshOk R xs = true → ∀ y ∈ bal f xs, ∃ x ∈ xs, Within x y
  | 0, _, _, y, hy => ⟨y, hy, within_refl y⟩
  | f + 1, xs, h, y, hy => by
    by_cases hg : firstGap xs < 0
    · rw [bal_done hg] at hy
      exact ⟨y, hy, within_refl y⟩
    · rw [bal_next hg] at hy
      obtain ⟨z, hz, hzy⟩ := bal_within f _ (step_ok h hg).1 y hy
      obtain ⟨k, x, -, hx, ho, hl, -, -, hb⟩ := step_at h hg
      rw [hb] at hz
      rcases mem_split hx hz with hm | rfl | rfl
      · exact ⟨z, hm, hzy⟩
      · exact ⟨x, List.mem_of_getElem? hx, (kid_within ho (by omega) (.inl rfl)).trans hzy⟩
      · exact ⟨x, List.mem_of_getElem? hx, (kid_within ho (by omega) (.inr rfl)).trans hzy⟩
theorem deep_fold (xs : List C3) : ∀ m : Int, m ≤ xs.foldl (fun m x => max m x.2.1) m ∧ (∀ x ∈ xs, x.2.1 ≤ xs.foldl (fun m x => max m x.2.1) m) ∧ (xs.foldl (fun m x => max m x.2.1) m = m ∨ ∃ x ∈ xs, xs.foldl (fun m x => max m x.2.1) m = x.2.1) := by
  induction xs with
  | nil => intro m; simp
  | cons x xs ih =>
    intro m
    obtain ⟨a, b, c⟩ := ih (max m x.2.1)
    rw [List.foldl_cons]
    refine ⟨by omega, fun y hy => ?_, ?_⟩
    · rcases List.mem_cons.1 hy with rfl | hy
      · omega
      · exact b y hy
    · rcases c with c | ⟨y, hy, c⟩
      · rw [c]
        by_cases hm : x.2.1 ≤ m
        · exact .inl (by omega)
        · exact .inr ⟨x, List.mem_cons_self, by omega⟩
      · exact .inr ⟨y, List.mem_cons_of_mem _ hy, c⟩
theorem deep_ge {xs : List C3} {x : C3} (h : x ∈ xs) : x.2.1 ≤ deepOf xs := (deep_fold xs 0).2.1 x h
theorem deep_le {xs : List C3} {m : Int} (h0 : 0 ≤ m) (h : ∀ x ∈ xs, x.2.1 ≤ m) : deepOf xs ≤ m := by
  rcases (deep_fold xs 0).2.2 with e | ⟨x, hx, e⟩
  · rw [show deepOf xs = 0 from e]; exact h0
  · rw [show deepOf xs = x.2.1 from e]; exact h x hx
theorem deep_step {R : Int} {xs : List C3} (h : meshOk R xs = true) (hg : ¬ firstGap xs < 0) : deepOf (balStep xs) = deepOf xs := by
  obtain ⟨k, x, y, hx, ho, hl, hy, hxy, hb⟩ := step_at h hg
  have hx0 := (ok_bounds ho).2.2.1
  have hyd := deep_ge hy
  have h0 : 0 ≤ deepOf xs := by omega
  rw [hb]
  have hle : deepOf (split2 xs k) ≤ deepOf xs := deep_le h0 fun z hz => by
    rcases mem_split hx hz with hm | rfl | rfl
    · exact deep_ge hm
    · show x.2.1 + 1 ≤ _; omega
    · show x.2.1 + 1 ≤ _; omega
  have hys : y ∈ split2 xs k := by
    rcases mem_of_split hx hy with rfl | hm
    · omega
    · exact hm
  have h1 := deep_ge hys
  have hge : deepOf xs ≤ deepOf (split2 xs k) := deep_le (by omega) fun z hz => by
    rcases mem_of_split hx hz with rfl | hm
    · omega
    · exact deep_ge hm
  omega
theorem bal_deep {R : Int} : ∀ (f : Nat) (xs : List C3), meshOk R xs = true → deepOf (bal f xs) = deepOf xs
  | 0, _, _ => rfl
  | f + 1, xs, h => by
    by_cases hg : firstGap xs < 0
    · rw [bal_done hg]
    · rw [bal_next hg, bal_deep f _ (step_ok h hg).1, deep_step h hg]
end Go.Proofs.Ytcdkhapepabpkaa.Mesh
