/- Meshes: the faces of the program: isUneven, coarserLeaf, faceLevelOf, FirstUnbalanced, IsBalanced, FaceLevel, CountFaces, as contracts: what each answers; nothing that was there is written.
   Conditions: at most 2^20 leaves. -/
import Derived.Test.YtaccigmkddomaaaPkMesh
set_option maxRecDepth 100000
namespace Go.Proofs.Ytaccigmkddomaaa.Mesh
open Go.ChangeShapes Go.WideShapes Go.ChangeAt Go.RowKit Go.Proofs.Ytaccigmkddomaaa.Cell

theorem mesh_parts {R : Int} {xs : List C3} (h : meshOk R xs = true) : (∀ (j : Nat) x, xs[j]? = some x → okOf x = true) ∧ 1 ≤ xs.length ∧ xs.length ≤ 128 := by
  obtain ⟨h1, h2, h3⟩ : 1 ≤ R ∧ R ≤ 8 ∧ run xs = some (R * 16) := of_decide_eq_true h
  obtain ⟨b1, b2, b3⟩ := run_bounds _ h3
  refine ⟨fun j x hx => b3 x (List.mem_of_getElem? hx), ?_, by omega⟩
  cases xs with
  | nil => simp [run] at h3; omega
  | cons x xs => simp
/-- The level of a face. -/
def faceAt (xs : List C3) (i : Nat) : Int := match xs[i]?, xs[i + 1]? with
  | some x, some y => max x.2.1 y.2.1
  | _, _ => -1
theorem faceAt_of {xs : List C3} {i : Nat} {x y : C3} (hx : xs[i]? = some x) (hy : xs[i + 1]? = some y) : faceAt xs i = max x.2.1 y.2.1 := by simp [faceAt, hx, hy]
def faceOf (R : Int) (xs : List C3) (i : Int) : Int := if meshOk R xs = true ∧ 0 ≤ i ∧ i + 1 < xs.length then faceAt xs i.toNat else -1
def firstOf (R : Int) (xs : List C3) : Int := if meshOk R xs then firstGap xs else -1
def balanced (R : Int) (xs : List C3) : Bool := meshOk R xs && decide (firstGap xs < 0)
/-- How many of the first k faces have the level. -/
def countTo (xs : List C3) (l : Int) (k : Nat) : Int := ((List.range k).countP fun j => decide (faceAt xs j = l) : Nat)
theorem countTo_zero (xs : List C3) (l : Int) : countTo xs l 0 = 0 := rfl
theorem countTo_succ (xs : List C3) (l : Int) (k : Nat) : countTo xs l (k + 1) = countTo xs l k + (if faceAt xs k = l then 1 else 0) := by
  unfold countTo
  rw [List.range_succ, List.countP_append]
  by_cases h : faceAt xs k = l <;> simp [h]
theorem countTo_le (xs : List C3) (l : Int) (k : Nat) : 0 ≤ countTo xs l k ∧ countTo xs l k ≤ k := by
  unfold countTo
  have := List.countP_le_length (p := fun j => decide (faceAt xs j = l)) (l := List.range k)
  rw [List.length_range] at this
  omega
def countOf (R : Int) (xs : List C3) (l : Int) : Int := if meshOk R xs then countTo xs l (xs.length - 1) else 0

theorem uneven_is (i : Nat) (a : Option Addr) (n cap : Nat) (xs : List C3) (x y : C3) (w : World) (hr : Reads w a n xs) (hn : n ≤ 1048576) (hx : xs[i]? = some x) (hy : xs[i + 1]? = some y) (hox : okOf x = true) (hoy : okOf y = true) :
    Calls Try.prog 92 #[.slice a n cap, .int .i64 i] w fun e w' => e = .returned (.bool (gap x y)) ∧ w.grownBy w' none := by
  obtain ⟨r, l, j⟩ := x
  obtain ⟨r', l', j'⟩ := y
  obtain ⟨-, -, a0, a1, -⟩ := ok_bounds hox
  obtain ⟨-, -, b0, b1, -⟩ := ok_bounds hoy
  have hi : (i : Int) + 1 < n := by have := (List.getElem?_eq_some_iff.1 hy).1; have := hr.len; omega
  have hni : (n : Int) ≤ 1048576 := by omega
  obtain ⟨g, rfl, hg, d0, d1, d2⟩ := hr.at_ i _ hx
  obtain ⟨g_, hg_, -, f0, f1, f2⟩ := hr.at_ (i + 1) _ hy
  cases hg_
  dsimp only at d0 d1 d2 f0 f1 f2 a0 a1 b0 b1
  clear hr hx hy hox hoy d0 d2 f0 f2
  by_cases h1 : 1 < l - l'
  · rw [show gap (r, l, j) (r', l', j') = true from decide_eq_true (.inl h1)]
    go_enter Try.func92, Try.ntmps92
    go_wp2_with fail
    go_quiet (fail)
    go_wp2_with fail
    go_ret
    exact ⟨rfl, g_drewN (grown_refl _) _⟩
  · by_cases h2 : l - l' < -1
    · rw [show gap (r, l, j) (r', l', j') = true from decide_eq_true (.inr h2)]
      go_enter Try.func92, Try.ntmps92
      go_wp2_with fail
      go_quiet (fail)
      go_wp2_with fail
      go_ret
      exact ⟨rfl, g_drewN (grown_refl _) _⟩
    · rw [show gap (r, l, j) (r', l', j') = false from decide_eq_false (by simp only; omega)]
      go_enter Try.func92, Try.ntmps92
      go_wp2_with fail
      go_quiet (fail)
      go_wp2_with fail
      go_ret
      exact ⟨by simp [h1, h2], g_drewN (grown_refl _) _⟩

set_option maxHeartbeats 2000000 in
theorem firstUnb_is (R : Int) (a : Option Addr) (n cap : Nat) (xs : List C3) (w : World) (hr : Reads w a n xs) (hn : n ≤ 1048576) :
    Calls Try.prog 86 #[.agg #[.int .i64 R, .slice a n cap]] w fun e w' => e = .returned (.int .i64 (firstOf R xs)) ∧ w.grownBy w' none := by
  have hni : (n : Int) ≤ 1048576 := by omega
  have HN := Lib.hid hn; clear hn
  have HR := Lib.hid hr; clear hr
  have hok : ∀ u, Reads u a n xs → Calls Try.prog 49 #[.agg #[.int .i64 R, .slice a n cap]] u fun e w' => e = .returned (.bool (meshOk R xs)) ∧ u.grownBy w' none := fun u h => meshOk_is R a n cap xs u h HN.out
  have HOK := Lib.hid hok; clear hok
  cases hm : meshOk R xs with
  | false =>
    rw [hm] at HOK
    rw [show firstOf R xs = -1 by simp [firstOf, hm]]
    clear hm
    go_enter Try.func86, Try.ntmps86
    go_wp2_with (go_at_call 49; (with_reducible refine (HOK.out _ (HR.out.past _)).mono ?_); rintro e w1 ⟨rfl, hg⟩; have HG1 := Lib.hid (grown_trans (g_alloc (grown_refl _) _) hg); clear hg)
    go_ret
    exact ⟨rfl, HG1.out⟩
  | true =>
    rw [hm] at HOK
    rw [show firstOf R xs = firstGap xs by simp [firstOf, hm]]
    obtain ⟨ho, hl1, hl2⟩ := mesh_parts hm
    have HO := Lib.hid ho; clear ho hm
    have hl := HR.out.len
    go_enter Try.func86, Try.ntmps86
    go_wp2_with (go_at_call 49; (with_reducible refine (HOK.out _ (HR.out.past _)).mono ?_); rintro e w1 ⟨rfl, hg⟩; have hb := (boxM_new w 26 R (.slice a n cap)).on hg; have b1 := hb.c1; have HB := Lib.hid hb; have HR1 := Lib.hid ((HR.out.past _).on hg); have HG1 := Lib.hid (grown_trans (g_alloc (grown_refl _) _) hg); clear hg hb)
    go_loopw [11] (fun i wr => ∃ (k : Nat), (k : Int) + 1 ≤ n ∧ i = .int .i64 k ∧ Hid (∀ j, j < k → gapAt xs j = false) ∧ Hid (w.grownBy wr none) ∧ Hid (Reads wr a n xs) ∧ Hid (BoxM wr w.heap.size R (.slice a n cap))) (fun i _ => n - (intOf i).toNat)
    case atStart => exact ⟨0, by omega, rfl, Lib.hid (fun j hj => by omega), HG1, HR1, HB⟩
    case round =>
      clear HG1 HR1 HB b1
      obtain ⟨k, hk, rfl, HF, HG, HR, HB⟩ := hrel
      have hb1 := HB.out.c1
      by_cases hlt : (k : Int) < n - 1
      · obtain ⟨r, l, i, hx⟩ := get_of_lt HR.out.len (k := k) (by omega)
        obtain ⟨r', l', i', hy⟩ := get_of_lt HR.out.len (k := k + 1) (by omega)
        have HC := Lib.hid (uneven_is k a n cap xs _ _ wr HR.out HN.out hx hy (HO.out _ _ hx) (HO.out _ _ hy))
        have hgp := gapAt_of hx hy
        clear hx hy
        generalize gap (r, l, i) (r', l', i') = b at *
        have HP := Lib.hid hgp; clear hgp
        cases b with
        | true =>
          go_wp2_with (go_at_call 92; (with_reducible refine HC.out.mono ?_); rintro e w2 ⟨rfl, hg⟩; have HG2 := Lib.hid hg; clear hg)
          go_ret
          rw [first_hit HP.out HF.out]
          exact ⟨rfl, grown_trans HG.out HG2.out⟩
        | false =>
          go_wp2_with (go_at_call 92; (with_reducible refine HC.out.mono ?_); rintro e w2 ⟨rfl, hg⟩; have HG2 := Lib.hid hg; clear hg)
          go_roundw
          case rel => exact ⟨k + 1, by omega, by go_num, Lib.hid (fun j hj => by
            by_cases h : j < k
            · exact HF.out j h
            · obtain rfl : j = k := by omega
              exact HP.out), Lib.hid (grown_trans HG.out HG2.out), Lib.hid (HR.out.on HG2.out), Lib.hid (HB.out.on HG2.out)⟩
          case measure => simp [intOf]; omega
      · go_wp2_with fail
        go_ret
        rw [first_none (xs := xs) (fun j => by
          by_cases h : j < k
          · exact HF.out j h
          · exact gapAt_out (by have := HR.out.len; omega))]
        exact ⟨rfl, HG.out⟩

theorem isBalanced_is (R : Int) (a : Option Addr) (n cap : Nat) (xs : List C3) (w : World) (hr : Reads w a n xs) (hn : n ≤ 1048576) :
    Calls Try.prog 64 #[.agg #[.int .i64 R, .slice a n cap]] w fun e w' => e = .returned (.bool (balanced R xs)) ∧ w.grownBy w' none := by
  have HN := Lib.hid hn; clear hn
  have HR := Lib.hid hr; clear hr
  have hok : ∀ u, Reads u a n xs → Calls Try.prog 49 #[.agg #[.int .i64 R, .slice a n cap]] u fun e w' => e = .returned (.bool (meshOk R xs)) ∧ u.grownBy w' none := fun u h => meshOk_is R a n cap xs u h HN.out
  have HOK := Lib.hid hok; clear hok
  have hfu : ∀ u, Reads u a n xs → Calls Try.prog 86 #[.agg #[.int .i64 R, .slice a n cap]] u fun e w' => e = .returned (.int .i64 (firstOf R xs)) ∧ u.grownBy w' none := fun u h => firstUnb_is R a n cap xs u h HN.out
  have HFU := Lib.hid hfu; clear hfu
  cases hm : meshOk R xs with
  | false =>
    rw [hm] at HOK
    rw [show balanced R xs = false by simp [balanced, hm]]
    clear hm
    go_enter Try.func64, Try.ntmps64
    go_wp2_with (go_at_call 49; (with_reducible refine (HOK.out _ (HR.out.past _)).mono ?_); rintro e w1 ⟨rfl, hg⟩; have HG1 := Lib.hid (grown_trans (g_alloc (grown_refl _) _) hg); clear hg)
    go_ret
    exact ⟨rfl, HG1.out⟩
  | true =>
    rw [hm] at HOK
    have hf : firstOf R xs = firstGap xs := by simp [firstOf, hm]
    rw [hf] at HFU
    rw [show balanced R xs = decide (firstGap xs < 0) by simp [balanced, hm]]
    clear hm hf
    go_enter Try.func64, Try.ntmps64
    go_wp2_with (first
      | (go_at_call 49; (with_reducible refine (HOK.out _ (HR.out.past _)).mono ?_); rintro e w1 ⟨rfl, hg⟩; have hb := (boxM_new w 26 R (.slice a n cap)).on hg; have b0 := hb.c0; have b1 := hb.c1; have HR1 := Lib.hid ((HR.out.past _).on hg); have HG1 := Lib.hid (grown_trans (g_alloc (grown_refl _) _) hg); clear hg hb)
      | (go_at_call 86; (with_reducible refine (HFU.out _ HR1.out).mono ?_); rintro e w2 ⟨rfl, hg⟩; have HG2 := Lib.hid (grown_trans HG1.out hg); clear hg))
    go_ret
    exact ⟨rfl, HG2.out⟩
end Go.Proofs.Ytaccigmkddomaaa.Mesh
