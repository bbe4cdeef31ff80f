/- Criteria, plain lemmas: the jump at a leaf, step by step; the wishes of all leaves and how many there are of each; the cost of a mesh, by levels and by faces; a uniform mesh; a leaf replaced by its children costs more; no mesh costs more than the finest.
   Conditions: none. -/
import Derived.Test.YtaccigmkddomaaaStSrcP
import Derived.Test.YtaccigmkddomaaaMNewI
set_option maxRecDepth 100000
namespace Go.Proofs.Ytaccigmkddomaaa.State
open Go.ChangeShapes Go.WideShapes Go.ChangeAt Go.RowKit Go.Proofs.Ytaccigmkddomaaa.Cell Go.Proofs.Ytaccigmkddomaaa.Mesh

theorem gap_self (a : Int) : gapN a a = 0 := by unfold gapN; omega
theorem gap_comm (a b : Int) : gapN a b = gapN b a := by unfold gapN; omega
theorem gap_le {a b : Int} (ha0 : 0 ≤ a) (ha1 : a ≤ 161000000) (hb0 : 0 ≤ b) (hb1 : b ≤ 161000000) : 0 ≤ gapN a b ∧ gapN a b ≤ 161000000 := by unfold gapN; omega

/-- The greatest difference to the leaf before and to the leaf behind. -/
def jumpN (xs : List C3) (ms bs : List Int) (i : Nat) : Int :=
  max (if 0 < i then gapN (surf xs ms bs i) (surf xs ms bs (i - 1)) else 0) (if i + 1 < xs.length then gapN (surf xs ms bs i) (surf xs ms bs (i + 1)) else 0)
/-- The greatest difference to n leaves from the leaf b on. -/
def jumpTo (xs : List C3) (ms bs : List Int) (i b : Nat) : Nat → Int
  | 0 => 0
  | n + 1 => max (jumpTo xs ms bs i b n) (gapN (surf xs ms bs i) (surf xs ms bs (b + n)))
theorem jumpTo_next (xs : List C3) (ms bs : List Int) (i b n : Nat) : jumpTo xs ms bs i b (n + 1) = max (jumpTo xs ms bs i b n) (gapN (surf xs ms bs i) (surf xs ms bs (b + n))) := rfl
theorem jumpTo_nonneg (xs : List C3) (ms bs : List Int) (i b : Nat) : ∀ n, 0 ≤ jumpTo xs ms bs i b n
  | 0 => Int.le_refl _
  | n + 1 => by rw [jumpTo_next]; have := jumpTo_nonneg xs ms bs i b n; omega
theorem jumpTo_first (xs : List C3) (ms bs : List Int) (h : 1 < xs.length) : jumpTo xs ms bs 0 0 2 = jumpN xs ms bs 0 := by
  have g := gap_self (surf xs ms bs 0)
  have p := gap_nonneg (surf xs ms bs 0) (surf xs ms bs (0 + 1))
  simp only [jumpN, jumpTo, if_pos h, if_neg (Nat.lt_irrefl 0), Nat.zero_add] at *
  omega
theorem jumpTo_only (xs : List C3) (ms bs : List Int) (h : xs.length ≤ 1) : jumpTo xs ms bs 0 0 1 = jumpN xs ms bs 0 := by
  have g := gap_self (surf xs ms bs 0)
  have h' : ¬ 0 + 1 < xs.length := by omega
  simp only [jumpN, jumpTo, if_neg h', if_neg (Nat.lt_irrefl 0), Nat.zero_add] at *
  omega
theorem jumpTo_mid (xs : List C3) (ms bs : List Int) (i : Nat) (h : i + 2 < xs.length) : jumpTo xs ms bs (i + 1) i 3 = jumpN xs ms bs (i + 1) := by
  have g := gap_self (surf xs ms bs (i + 1))
  have h' : i + 1 + 1 < xs.length := h
  have e : i + 1 - 1 = i := rfl
  have e2 : i + 1 + 1 = i + 2 := rfl
  have p := gap_nonneg (surf xs ms bs (i + 1)) (surf xs ms bs i)
  have p2 := gap_nonneg (surf xs ms bs (i + 1)) (surf xs ms bs (i + 2))
  simp only [jumpN, jumpTo, if_pos h', if_pos (Nat.succ_pos i), e, e2, Nat.add_zero] at *
  omega
theorem jumpTo_last (xs : List C3) (ms bs : List Int) (i : Nat) (h : xs.length ≤ i + 2) : jumpTo xs ms bs (i + 1) i 2 = jumpN xs ms bs (i + 1) := by
  have g := gap_self (surf xs ms bs (i + 1))
  have h' : ¬ i + 1 + 1 < xs.length := by omega
  have e : i + 1 - 1 = i := rfl
  have p := gap_nonneg (surf xs ms bs (i + 1)) (surf xs ms bs i)
  simp only [jumpN, jumpTo, if_neg h', if_pos (Nat.succ_pos i), e, Nat.add_zero] at *
  omega
theorem jump_nonneg (xs : List C3) (ms bs : List Int) (i : Nat) : 0 ≤ jumpN xs ms bs i := by
  unfold jumpN
  have p := gap_nonneg (surf xs ms bs i) (surf xs ms bs (i - 1))
  have p2 := gap_nonneg (surf xs ms bs i) (surf xs ms bs (i + 1))
  split <;> split <;> omega
theorem jump_le {R : Int} {xs : List C3} {ms ts bs : List Int} (h : stOk R xs ms ts bs = true) {i : Nat} (hi : i < xs.length) : jumpN xs ms bs i ≤ 161000000 := by
  obtain ⟨s0, s1, -⟩ := leaf_bounds h hi
  unfold jumpN
  split <;> split
  all_goals first
    | omega
    | skip
  · rename_i h1 h2
    obtain ⟨a0, a1, -⟩ := leaf_bounds h (k := i - 1) (by omega)
    obtain ⟨b0, b1, -⟩ := leaf_bounds h h2
    have := gap_le s0 s1 a0 a1; have := gap_le s0 s1 b0 b1; omega
  · rename_i h1 h2
    obtain ⟨a0, a1, -⟩ := leaf_bounds h (k := i - 1) (by omega)
    have := gap_le s0 s1 a0 a1; omega
  · rename_i h1 h2
    obtain ⟨b0, b1, -⟩ := leaf_bounds h h2
    have := gap_le s0 s1 b0 b1; omega
/-- The program's JumpAt, whatever its arguments. -/
def jumpG (R : Int) (xs : List C3) (ms ts bs : List Int) (i : Int) : Int := if stOk R xs ms ts bs = true ∧ 0 ≤ i ∧ i < ms.length then jumpN xs ms bs i.toNat else 0

/-- The wish of a leaf. -/
def wishAt (xs : List C3) (ms bs : List Int) (hi lo : Int) (k : Nat) : Int :=
  if hi < jumpN xs ms bs k ∧ lvAt xs k < 4 then 1 else if jumpN xs ms bs k < lo ∧ 0 < lvAt xs k then -1 else 0
def wishes (xs : List C3) (ms bs : List Int) (hi lo : Int) (n : Nat) : List Int := gen n (wishAt xs ms bs hi lo)
def wishG (R : Int) (xs : List C3) (ms ts bs : List Int) (hi lo : Int) : List Int := if stOk R xs ms ts bs = true then wishes xs ms bs hi lo ms.length else []
theorem wish_three (xs : List C3) (ms bs : List Int) (hi lo : Int) (k : Nat) : wishAt xs ms bs hi lo k = 1 ∨ wishAt xs ms bs hi lo k = 0 ∨ wishAt xs ms bs hi lo k = -1 := by
  unfold wishAt; split
  · exact .inl rfl
  · split
    · exact .inr (.inr rfl)
    · exact .inr (.inl rfl)
theorem wish_finer {xs : List C3} {ms bs : List Int} {hi lo : Int} {k : Nat} : (wishAt xs ms bs hi lo k = 1) ↔ (hi < jumpN xs ms bs k ∧ lvAt xs k < 4) := by
  unfold wishAt
  by_cases h : hi < jumpN xs ms bs k ∧ lvAt xs k < 4
  · rw [if_pos h]; exact ⟨fun _ => h, fun _ => rfl⟩
  · rw [if_neg h]
    refine ⟨fun e => ?_, fun q => absurd q h⟩
    split at e <;> omega
theorem wish_coarser {xs : List C3} {ms bs : List Int} {hi lo : Int} {k : Nat} (e : wishAt xs ms bs hi lo k = -1) : jumpN xs ms bs k < lo ∧ 0 < lvAt xs k := by
  unfold wishAt at e
  split at e
  · omega
  · split at e
    · assumption
    · omega
theorem wishG_len {R : Int} {xs : List C3} {ms ts bs : List Int} (h : stOk R xs ms ts bs = true) (hi lo : Int) : (wishG R xs ms ts bs hi lo).length = ms.length := by
  unfold wishG; rw [if_pos h]; exact gen_len _ _

/-- How many numbers of a list equal one. -/
def cntW (l : List Int) (v : Int) : Int := ((l.countP fun x => decide (x = v) : Nat) : Int)
theorem cntW_nil (v : Int) : cntW [] v = 0 := rfl
theorem cntW_snoc (l : List Int) (x v : Int) : cntW (l ++ [x]) v = cntW l v + (if x = v then 1 else 0) := by
  unfold cntW
  rw [List.countP_append]
  by_cases h : x = v <;> simp [h]
theorem cntW_take {l : List Int} {k : Nat} {x : Int} (v : Int) (h : l[k]? = some x) : cntW (l.take (k + 1)) v = cntW (l.take k) v + (if x = v then 1 else 0) := by
  rw [List.take_add_one, h]; exact cntW_snoc _ _ _
theorem cntW_le (l : List Int) (v : Int) : 0 ≤ cntW l v ∧ cntW l v ≤ l.length := by
  have := List.countP_le_length (p := fun x => decide (x = v)) (l := l)
  unfold cntW; omega
theorem cnt_all (xs : List C3) (ms bs : List Int) (hi lo : Int) : ∀ n, cntW (wishes xs ms bs hi lo n) 1 + cntW (wishes xs ms bs hi lo n) 0 + cntW (wishes xs ms bs hi lo n) (-1) = n
  | 0 => rfl
  | n + 1 => by
    have ih := cnt_all xs ms bs hi lo n
    unfold wishes at *
    rw [gen_succ, cntW_snoc, cntW_snoc, cntW_snoc]
    rcases wish_three xs ms bs hi lo n with e | e | e <;> rw [e] <;> simp <;> omega

/-- What the first k faces cost; what the first l levels of k faces cost. -/
def costK (xs : List C3) : Nat → Int
  | 0 => 0
  | k + 1 => costK xs k + 2 ^ (faceAt xs k).toNat
def costL (xs : List C3) (k : Nat) : Nat → Int
  | 0 => 0
  | l + 1 => costL xs k l + countTo xs l k * 2 ^ l
theorem costK_next (xs : List C3) (k : Nat) : costK xs (k + 1) = costK xs k + 2 ^ (faceAt xs k).toNat := rfl
theorem costL_zero (xs : List C3) : ∀ l, costL xs 0 l = 0
  | 0 => rfl
  | l + 1 => by rw [costL, costL_zero xs l, countTo_zero]; omega
theorem costL_succ (xs : List C3) (k : Nat) : ∀ l : Nat, costL xs (k + 1) l = costL xs k l + (if 0 ≤ faceAt xs k ∧ faceAt xs k < l then 2 ^ (faceAt xs k).toNat else 0)
  | 0 => by rw [costL, costL, if_neg (by omega)]; rfl
  | l + 1 => by
    rw [costL, costL, costL_succ xs k l, countTo_succ]
    by_cases e : faceAt xs k = l
    · rw [if_neg (by omega), if_pos e, if_pos (by omega), Int.add_mul, e, Int.one_mul]
      simp only [Int.toNat_natCast]
      omega
    · rw [if_neg e]
      by_cases h : 0 ≤ faceAt xs k ∧ faceAt xs k < l
      · rw [if_pos h, if_pos (by omega)]; simp only [Int.add_zero]; omega
      · rw [if_neg h, if_neg (by omega)]; simp only [Int.add_zero]
theorem cost_same (xs : List C3) : ∀ k, (∀ j, j < k → 0 ≤ faceAt xs j ∧ faceAt xs j ≤ 4) → costL xs k 5 = costK xs k
  | 0, _ => costL_zero xs 5
  | k + 1, h => by
    rw [costL_succ, costK, cost_same xs k fun j hj => h j (by omega), if_pos (by have := h k (by omega); omega)]
theorem costK_le (xs : List C3) : ∀ k : Nat, (∀ j, j < k → 0 ≤ faceAt xs j ∧ faceAt xs j ≤ 4) → 0 ≤ costK xs k ∧ costK xs k ≤ 16 * k
  | 0, _ => by rw [costK]; omega
  | k + 1, h => by
    have ih := costK_le xs k fun j hj => h j (by omega)
    have p := h k (by omega)
    have q := pow_small p.1 p.2
    rw [costK]; omega
/-- The cost of a mesh. -/
def costG (R : Int) (xs : List C3) : Int := if meshOk R xs = true then costK xs (xs.length - 1) else 0
theorem face_in4 {R : Int} {xs : List C3} (h : meshOk R xs = true) {j : Nat} (hj : j < xs.length - 1) : 0 ≤ faceAt xs j ∧ faceAt xs j ≤ 4 := by
  obtain ⟨ho, -, -⟩ := mesh_parts h
  obtain ⟨r, l, i, hx⟩ := get_of_lt (xs := xs) rfl (k := j) (by omega)
  obtain ⟨r', l', i', hy⟩ := get_of_lt (xs := xs) rfl (k := j + 1) (by omega)
  obtain ⟨-, -, a0, a1, -⟩ := ok_bounds (ho _ _ hx)
  obtain ⟨-, -, b0, b1, -⟩ := ok_bounds (ho _ _ hy)
  rw [faceAt_of hx hy]
  dsimp only at a0 a1 b0 b1 ⊢
  omega
theorem faces_in {R : Int} {xs : List C3} (h : meshOk R xs = true) : ∀ j, j < xs.length - 1 → 0 ≤ faceAt xs j ∧ faceAt xs j ≤ 4 := fun _ hj => face_in4 h hj
theorem costG_levels (R : Int) (xs : List C3) (b : Bool) (h : meshOk R xs = b) : costG R xs = if b then costL xs (xs.length - 1) 5 else 0 := by
  unfold costG
  cases b with
  | true => rw [if_pos h, if_pos rfl, cost_same _ _ (faces_in h)]
  | false => rw [if_neg (by rw [h]; decide), if_neg (by decide)]
theorem costG_range (R : Int) (xs : List C3) : 0 ≤ costG R xs ∧ costG R xs ≤ 2048 := by
  unfold costG
  by_cases h : meshOk R xs = true
  · rw [if_pos h]
    have := costK_le xs _ (faces_in h)
    obtain ⟨-, m1, m2⟩ := mesh_parts h
    omega
  · rw [if_neg h]; omega
/-- The cost of the first l levels, as the program sums it. -/
def costT (R : Int) (xs : List C3) : Nat → Int
  | 0 => 0
  | l + 1 => costT R xs l + countOf R xs l * 2 ^ l
theorem costT_next (R : Int) (xs : List C3) (l : Nat) : costT R xs (l + 1) = costT R xs l + countOf R xs l * 2 ^ l := rfl
theorem costT_is (R : Int) (xs : List C3) : ∀ l, costT R xs l = if meshOk R xs = true then costL xs (xs.length - 1) l else 0
  | 0 => by unfold costT costL; split <;> rfl
  | l + 1 => by
    rw [costT_next, costT_is R xs l]
    unfold countOf
    by_cases h : meshOk R xs = true
    · rw [if_pos h, if_pos h, if_pos h]; rfl
    · rw [if_neg h, if_neg h, if_neg h]; omega
theorem costT_all (R : Int) (xs : List C3) : costT R xs 5 = costG R xs := by
  rw [costT_is, costG]
  by_cases h : meshOk R xs = true
  · rw [if_pos h, if_pos h, cost_same _ _ (faces_in h)]
  · rw [if_neg h, if_neg h]
theorem countOf_small (R : Int) (xs : List C3) (l : Int) : 0 ≤ countOf R xs l ∧ countOf R xs l ≤ 128 := by
  unfold countOf
  by_cases h : meshOk R xs = true
  · rw [if_pos h]
    obtain ⟨-, m1, m2⟩ := mesh_parts h
    have := countTo_le xs l (xs.length - 1)
    omega
  · rw [if_neg h]; omega
theorem costT_range (R : Int) (xs : List C3) : ∀ l : Nat, l ≤ 5 → 0 ≤ costT R xs l ∧ costT R xs l ≤ 2048 * l
  | 0, _ => by rw [costT]; omega
  | l + 1, h => by
    have ih := costT_range R xs l (by omega)
    have c := countOf_small R xs l
    rw [costT]
    rcases (show l = 0 ∨ l = 1 ∨ l = 2 ∨ l = 3 ∨ l = 4 by omega) with rfl | rfl | rfl | rfl | rfl
    all_goals
      simp at *
      omega

/-- What the finest mesh of as many roots costs beside a mesh. -/
def savedG (R : Int) (xs : List C3) : Int := if meshOk R xs = true then costG (newR R 4) (newC R 4) - costG R xs else 0

/-- A uniform mesh: its leaves lie one behind the other. -/
theorem row_get {r i n : Nat} {L : Int} (h : i < n) : (rowC r L n)[i]? = some ((r : Int), L, (i : Int)) := by simp [rowC, h]
theorem run_row {k : Nat} {L : Int} (hk : k ≤ 7) (h0 : 0 ≤ L) (h4 : L ≤ 4) {xs : List C3} (h : run xs = some ((k : Int) * 16)) : ∀ i : Nat, i ≤ powL L → run (xs ++ rowC k L i) = some ((k : Int) * 16 + i * widthOf L)
  | 0, _ => by rw [rowC_zero, List.append_nil, h]; simp
  | i + 1, hi => by
    have ih := run_row hk h0 h4 h i (by omega)
    rw [rowC_succ, ← List.append_assoc, run_snoc, ih]
    have hp : ((2 ^ L.toNat : Nat) : Int) = 2 ^ L.toNat := by simp
    have ho : okId (k : Int) L (i : Int) = true := ok_true ⟨by omega, by omega, h0, h4, by omega, by unfold powL at hi; omega⟩
    rw [step_yes (show stOf ((k : Int), L, (i : Int)) = (k : Int) * 16 + i * widthOf L from if_pos ho)]
    show some ((k : Int) * 16 + i * widthOf L + widthOf L) = _
    rw [show ((i + 1 : Nat) : Int) * widthOf L = i * widthOf L + widthOf L by rw [Int.natCast_add, Int.add_mul]; simp]
    rw [Int.add_assoc]
theorem run_all {L : Int} (h0 : 0 ≤ L) (h4 : L ≤ 4) : ∀ k : Nat, k ≤ 8 → run (allC k L (powL L)) = some ((k : Int) * 16)
  | 0, _ => rfl
  | k + 1, h => by
    rw [allC_succ, run_row (by omega) h0 h4 (run_all h0 h4 k (by omega)) _ (Nat.le_refl _)]
    have hw : (powL L : Int) * widthOf L = 16 := by rcases lvl h0 h4 with rfl | rfl | rfl | rfl | rfl <;> rfl
    rw [hw]
    congr 1
    omega
theorem new_meshOk {R L : Int} (h : newOk R L = true) : meshOk R (newC R L) = true := by
  obtain ⟨⟨r0, r1⟩, l0, l1⟩ := of_decide_eq_true h
  rw [(new_good h).2]
  have q := run_all l0 l1 R.toNat (by omega)
  rw [show ((R.toNat : Nat) : Int) = R by omega] at q
  exact decide_eq_true ⟨r0, r1, q⟩
theorem all_level {k N : Nat} {L : Int} {x : C3} (h : x ∈ allC k L N) : x.2.1 = L := by
  unfold allC at h
  obtain ⟨r, -, h2⟩ := List.mem_flatMap.1 h
  unfold rowC at h2
  obtain ⟨i, -, rfl⟩ := List.mem_map.1 h2
  rfl
theorem new_faces {R L : Int} (h : newOk R L = true) {j : Nat} (hj : j + 1 < (newC R L).length) : faceAt (newC R L) j = L := by
  have a : ∀ x ∈ newC R L, x.2.1 = L := fun x hx => by rw [(new_good h).2] at hx; exact all_level hx
  have hx := List.getElem?_eq_getElem (show j < (newC R L).length by omega)
  have hy := List.getElem?_eq_getElem hj
  rw [faceAt_of hx hy, a _ (List.mem_of_getElem? hx), a _ (List.mem_of_getElem? hy)]
  omega
theorem cost_even {xs : List C3} {L : Int} : ∀ k : Nat, (∀ j, j < k → faceAt xs j = L) → costK xs k = k * 2 ^ L.toNat
  | 0, _ => by rw [costK]; simp
  | k + 1, h => by
    rw [costK, cost_even k fun j hj => h j (by omega), h k (by omega), Int.natCast_add, Int.add_mul]
    simp
theorem cost_new {R L : Int} (h : newOk R L = true) : costG (newR R L) (newC R L) = (R * 2 ^ L.toNat - 1) * 2 ^ L.toNat := by
  obtain ⟨⟨r0, r1⟩, l0, l1⟩ := of_decide_eq_true h
  rw [(new_good h).1, costG, if_pos (new_meshOk h)]
  obtain ⟨-, m1, -⟩ := mesh_parts (new_meshOk h)
  rw [cost_even _ fun j hj => new_faces h (by omega)]
  congr 1
  have e : ((newC R L).length : Int) = R * 2 ^ L.toNat := by
    rw [(new_good h).2, allC_len, Int.natCast_mul, show ((R.toNat : Nat) : Int) = R by omega]
    unfold powL
    simp
  omega
/-- No mesh costs more than the finest. -/
theorem saved_nonneg (R : Int) (xs : List C3) : 0 ≤ savedG R xs := by
  unfold savedG
  by_cases h : meshOk R xs = true
  · rw [if_pos h]
    obtain ⟨r0, r1, hr⟩ : 1 ≤ R ∧ R ≤ 8 ∧ run xs = some (R * 16) := of_decide_eq_true h
    obtain ⟨b1, -, -⟩ := run_bounds _ hr
    have hn : newOk R 4 = true := decide_eq_true ⟨⟨r0, r1⟩, by omega, by omega⟩
    rw [cost_new hn, costG, if_pos h]
    have := costK_le xs _ (faces_in h)
    obtain ⟨-, m1, -⟩ := mesh_parts h
    rw [show (2 : Int) ^ (4 : Int).toNat = 16 from rfl]
    omega
  · rw [if_neg h]; omega
theorem saved_finest {R : Int} (h : newOk R 4 = true) : savedG (newR R 4) (newC R 4) = 0 := by
  have e := (new_good h).1
  unfold savedG
  rw [e, if_pos (new_meshOk h), e]
  omega

/-- A leaf replaced by its children. -/
theorem face_lv {xs : List C3} {j : Nat} (h : j + 1 < xs.length) : faceAt xs j = max (lvAt xs j) (lvAt xs (j + 1)) := by
  have hx := List.getElem?_eq_getElem (show j < xs.length by omega)
  have hy := List.getElem?_eq_getElem h
  rw [faceAt_of hx hy]
  unfold lvAt
  rw [hx, hy]
  rfl
theorem split_lv {xs : List C3} {k : Nat} {x : C3} (hx : xs[k]? = some x) (j : Nat) :
    lvAt (split2 xs k) j = if j < k then lvAt xs j else if j ≤ k + 1 then x.2.1 + 1 else lvAt xs (j - 1) := by
  have hk := (List.getElem?_eq_some_iff.1 hx).1
  have hl : (xs.take k).length = k := by rw [List.length_take]; omega
  unfold lvAt
  rw [split2_of hx]
  by_cases h1 : j < k
  · rw [if_pos h1, List.getElem?_append_left (by simp; omega), List.getElem?_append_left (by omega), List.getElem?_take_of_lt h1]
  · rw [if_neg h1]
    by_cases h2 : j ≤ k + 1
    · rw [if_pos h2, List.getElem?_append_left (by simp; omega), List.getElem?_append_right (by omega), hl]
      rcases (show j - k = 0 ∨ j - k = 1 by omega) with e | e <;> rw [e] <;> rfl
    · rw [if_neg h2, List.getElem?_append_right (by simp; omega), List.getElem?_drop]
      rw [show k + 1 + (j - (List.take k xs ++ [kidOf x 0, kidOf x 1]).length) = j - 1 by rw [List.length_append, hl, show [kidOf x 0, kidOf x 1].length = 2 from rfl]; omega]
theorem pow_mono {a b : Int} (h : a ≤ b) : (2 : Int) ^ a.toNat ≤ 2 ^ b.toNat := by
  have := Nat.pow_le_pow_right (show 0 < 2 by omega) (show a.toNat ≤ b.toNat by omega)
  exact_mod_cast this
theorem split_cost {R : Int} {xs : List C3} {k : Nat} {x : C3} (h : meshOk R xs = true) (hx : xs[k]? = some x) (hl : x.2.1 < 4) : costG R xs < costG R (split2 xs k) := by
  have hk := (List.getElem?_eq_some_iff.1 hx).1
  have hx1 : lvAt xs k = x.2.1 := by unfold lvAt; rw [hx]; rfl
  rw [costG, costG, if_pos h, if_pos (meshOk_split hx hl h)]
  have hn := split2_len hx
  have L := split_lv hx
  have before : ∀ j, j ≤ k → j ≤ xs.length - 1 → costK xs j ≤ costK (split2 xs k) j := fun j => by
    induction j with
    | zero => intro _ _; rw [costK, costK]; omega
    | succ j ih =>
      intro h1 h2
      have p := ih (by omega) (by omega)
      have q : faceAt xs j ≤ faceAt (split2 xs k) j := by
        rw [face_lv (by omega), face_lv (by omega), L j, L (j + 1), if_pos (by omega)]
        by_cases e : j + 1 < k
        · rw [if_pos e]; omega
        · rw [if_neg e, if_pos (by omega)]
          have : j + 1 = k := by omega
          rw [this, hx1]; omega
      have := pow_mono q
      rw [costK, costK]; omega
  have behind : ∀ d, k + d ≤ xs.length - 1 → costK xs (k + d) < costK (split2 xs k) (k + d + 1) := fun d => by
    induction d with
    | zero =>
      intro h1
      have p := before k (Nat.le_refl _) h1
      have q : 0 < (2 : Int) ^ (faceAt (split2 xs k) k).toNat := Int.pow_pos (by omega)
      rw [Nat.add_zero, costK_next (split2 xs k) k]; omega
    | succ d ih =>
      intro h1
      have p := ih (by omega)
      have q : faceAt xs (k + d) ≤ faceAt (split2 xs k) (k + d + 1) := by
        have e1 : lvAt (split2 xs k) (k + d + 1 + 1) = lvAt xs (k + d + 1) := by rw [L, if_neg (by omega), if_neg (by omega)]; rfl
        rw [face_lv (by omega), face_lv (by omega), e1]
        by_cases e : d = 0
        · subst e
          have e0 : lvAt (split2 xs k) (k + 0 + 1) = x.2.1 + 1 := by rw [L, if_neg (by omega), if_pos (by omega)]
          have e2 : lvAt xs (k + 0) = x.2.1 := hx1
          rw [e0, e2]; omega
        · have e0 : lvAt (split2 xs k) (k + d + 1) = lvAt xs (k + d) := by rw [L, if_neg (by omega), if_neg (by omega)]; rfl
          rw [e0]; omega
      have := pow_mono q
      rw [show k + (d + 1) = k + d + 1 by omega, costK_next xs, costK_next (split2 xs k) (k + d + 1)]; omega
  have := behind (xs.length - 1 - k) (by omega)
  rw [show k + (xs.length - 1 - k) = xs.length - 1 by omega] at this
  rw [hn, show xs.length + 1 - 1 = xs.length - 1 + 1 by omega]
  exact this
end Go.Proofs.Ytaccigmkddomaaa.State
