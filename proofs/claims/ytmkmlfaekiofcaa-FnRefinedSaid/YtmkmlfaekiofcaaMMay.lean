/- Meshes: MayRefine and MayCoarsen of the program, as contracts: what each answers; nothing that was there is written.
   Conditions: at most 2^20 leaves. -/
import Derived.Test.YtmkmlfaekiofcaaMChgPure
import Derived.Test.YtmkmlfaekiofcaaMBox
namespace Go.Proofs.Ytmkmlfaekiofcaa.Mesh
open Go.ChangeShapes Go.WideShapes Go.ChangeAt Go.RowKit Go.Proofs.Ytmkmlfaekiofcaa.Cell

theorem mayRef_bad {R i : Int} {xs : List C3} (h : meshOk R xs = false) : mayRef R xs i = false := by simp [mayRef, h]
theorem mayRef_low {R i : Int} {xs : List C3} (h : i < 0) : mayRef R xs i = false := by
  have : decide (0 ≤ i) = false := decide_eq_false (by omega)
  simp [mayRef, this]
theorem mayRef_high {R i : Int} {xs : List C3} (h : (xs.length : Int) ≤ i) : mayRef R xs i = false := by
  have : decide (i < (xs.length : Int)) = false := decide_eq_false (by omega)
  simp [mayRef, this]
theorem mayRef_in {R : Int} {xs : List C3} {k : Nat} {x : C3} (h : meshOk R xs = true) (hx : xs[k]? = some x) : mayRef R xs k = decide (x.2.1 < 4) := by
  have hk := (List.getElem?_eq_some_iff.1 hx).1
  have h2 : decide ((k : Int) < (xs.length : Int)) = true := decide_eq_true (by omega)
  simp [mayRef, h, hk, lvAt_of hx]
theorem mayCo_bad {R i : Int} {xs : List C3} (h : meshOk R xs = false) : mayCo R xs i = false := by simp [mayCo, h]
theorem mayCo_low {R i : Int} {xs : List C3} (h : i < 0) : mayCo R xs i = false := by
  have : decide (0 ≤ i) = false := decide_eq_false (by omega)
  simp [mayCo, this]
theorem mayCo_high {R i : Int} {xs : List C3} (h : (xs.length : Int) ≤ i + 1) : mayCo R xs i = false := by
  have : decide (i + 1 < (xs.length : Int)) = false := decide_eq_false (by omega)
  simp [mayCo, this]
theorem mayCo_in {R : Int} {xs : List C3} {k : Nat} (h : meshOk R xs = true) (hk : k + 1 < xs.length) : mayCo R xs k = pairOk xs k := by
  have h2 : decide ((k : Int) + 1 < (xs.length : Int)) = true := decide_eq_true (by omega)
  simp [mayCo, h, h2]
theorem mayCo_apart {R : Int} {xs : List C3} {k : Nat} {x y : C3} (hx : xs[k]? = some x) (hy : xs[k + 1]? = some y) (h : sibOf x y = false) : mayCo R xs k = false := by
  have : sibAt xs k = false := (sibAt_of hx hy).trans h
  simp [mayCo, pairOk, this]
theorem mayCo_pair {R : Int} {xs : List C3} {k : Nat} {x y : C3} (hm : meshOk R xs = true) (hx : xs[k]? = some x) (hy : xs[k + 1]? = some y) (h : sibOf x y = true) : mayCo R xs k = (leftOk xs k && rightOk xs k) := by
  rw [mayCo_in hm (List.getElem?_eq_some_iff.1 hy).1, pairOk, sibAt_of hx hy, h, Bool.true_and]
theorem left_first (xs : List C3) : leftOk xs 0 = true := rfl
theorem left_of {xs : List C3} {k : Nat} {x z : C3} (hk : 0 < k) (hz : xs[k - 1]? = some z) (hx : xs[k]? = some x) : leftOk xs k = decide (z.2.1 ≤ x.2.1) := by
  have : decide (k = 0) = false := decide_eq_false (by omega)
  rw [leftOk, this, lvAt_of hz, lvAt_of hx, Bool.false_or]
theorem right_last {xs : List C3} {k : Nat} (h : xs.length ≤ k + 2) : rightOk xs k = true := by
  rw [rightOk, decide_eq_true h, Bool.true_or]
theorem right_of {xs : List C3} {k : Nat} {x z : C3} (hz : xs[k + 2]? = some z) (hx : xs[k]? = some x) : rightOk xs k = decide (z.2.1 ≤ x.2.1) := by
  have hk := (List.getElem?_eq_some_iff.1 hz).1
  rw [rightOk, decide_eq_false (by omega), lvAt_of hz, lvAt_of hx, Bool.false_or]

set_option maxHeartbeats 2000000 in
theorem mayRef_is (R i : Int) (a : Option Addr) (n cap : Nat) (xs : List C3) (w : World) (hr : Reads w a n xs) (hn : n ≤ 1048576) :
    Calls Try.prog 17 #[.agg #[.int .i64 R, .slice a n cap], .int .i64 i] w fun e w' => e = .returned (.bool (mayRef R xs i)) ∧ w.grownBy w' none := by
  have hni : (n : Int) ≤ 1048576 := by omega
  have HN := Lib.hid hn; clear hn
  have HR := Lib.hid hr
  have hlen := hr.len
  clear hr
  have HB := Lib.hid (MBox.new w R (.slice a n cap))
  have hok : ∀ u, Reads u a n xs → Calls Try.prog 45 #[.agg #[.int .i64 R, .slice a n cap]] u fun e w' => e = .returned (.bool (meshOk R xs)) ∧ u.grownBy w' none := fun u h => meshOk_is R a n cap xs u h HN.out
  have HOK := Lib.hid hok; clear hok
  cases hm : meshOk R xs with
  | false =>
    rw [mayRef_bad hm]
    rw [hm] at HOK
    go_enter Try.func17, Try.ntmps17
    go_wp2_with (go_at_call 45; (with_reducible refine (HOK.out _ (HR.out.past _)).mono ?_); rintro e w1 ⟨rfl, hg⟩; have HG := Lib.hid hg; clear hg)
    go_ret
    exact ⟨rfl, grown_trans (g_alloc (grown_refl _) _) HG.out⟩
  | true =>
    have HM := Lib.hid hm
    rw [hm] at HOK
    clear hm
    by_cases h0 : i < 0
    · rw [mayRef_low h0]
      go_enter Try.func17, Try.ntmps17
      go_wp2_with (go_at_call 45; (with_reducible refine (HOK.out _ (HR.out.past _)).mono ?_); rintro e w1 ⟨rfl, hg⟩; have HG := Lib.hid hg; clear hg)
      go_ret
      exact ⟨rfl, grown_trans (g_alloc (grown_refl _) _) HG.out⟩
    by_cases h1 : (n : Int) ≤ i
    · rw [mayRef_high (by omega)]
      go_enter Try.func17, Try.ntmps17
      go_wp2_with (go_at_call 45; (with_reducible refine (HOK.out _ (HR.out.past _)).mono ?_); rintro e w1 ⟨rfl, hg⟩; have b1 := (HB.out.kept hg (by simp)).c1; have HG := Lib.hid hg; clear hg)
      go_ret
      exact ⟨rfl, grown_trans (g_alloc (grown_refl _) _) HG.out⟩
    obtain ⟨k, rfl⟩ : ∃ k : Nat, i = k := ⟨i.toNat, by omega⟩
    obtain ⟨r, l, j, hx⟩ := get_of_lt hlen (k := k) (by omega)
    rw [mayRef_in HM.out hx]
    obtain ⟨g, rfl, -⟩ := HR.out.at_ k _ hx
    have HX := Lib.hid hx; clear hx
    go_enter Try.func17, Try.ntmps17
    go_wp2_with (go_at_call 45; (with_reducible refine (HOK.out _ (HR.out.past _)).mono ?_); rintro e w1 ⟨rfl, hg⟩; have b1 := (HB.out.kept hg (by simp)).c1; obtain ⟨g', hg', -, d0, d1, d2⟩ := ((HR.out.past _).on hg).at_ k _ HX.out; cases hg'; dsimp only at d0 d1 d2; have HG := Lib.hid hg; clear hg)
    go_ret
    exact ⟨rfl, grown_trans (g_alloc (grown_refl _) _) HG.out⟩
end Go.Proofs.Ytmkmlfaekiofcaa.Mesh
