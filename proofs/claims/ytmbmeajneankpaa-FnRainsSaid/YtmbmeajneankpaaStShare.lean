/- ShareOut and SplitEven of the program and of the reference model, as contracts.
   Conditions: none (SplitEven: a number that is not negative). -/
import Derived.Test.YtmbmeajneankpaaStTrPure
import Derived.Test.YtmbmeajneankpaaPkDraw
set_option maxRecDepth 100000
namespace Go.Proofs.Ytmbmeajneankpaa.State
set_option linter.unusedVariables false
open Go.ChangeShapes Go.WideShapes Go.ChangeAt Go.RowKit

theorem prod_bounds {t p w : Int} (h1 : 1 ≤ w) (h2 : w ≤ 10000000) (h3 : 0 ≤ p) (h4 : p ≤ w) (h5 : 0 ≤ t) (h6 : t ≤ 1000 * w) : 0 ≤ t * p ∧ t * p ≤ 100000000000000000 := by
  refine ⟨Int.mul_nonneg h5 h3, ?_⟩
  have a1 : t * p ≤ 10000000000 * p := Int.mul_le_mul_of_nonneg_right (by omega) h3
  omega
/-- canHold: whether a tracer fits a mass. -/
theorem hold_is (m t : Int) (b : Bool) (hb : b = decide (1 ≤ m ∧ m ≤ 10000000 ∧ 0 ≤ t ∧ t ≤ 1000 * m)) (w : World) :
    Calls Try.prog 87 #[.int .i64 m, .int .i64 t] w fun e w' => e = .returned (.bool b) ∧ w' = w := by
  by_cases h1 : 1 ≤ m
  case neg =>
    rw [hb, decide_eq_false (by omega)]
    go_enter Try.func87, Try.ntmps87
    go_wp2
    go_ret
    exact ⟨rfl, rfl⟩
  by_cases h2 : m ≤ 10000000
  case neg =>
    rw [hb, decide_eq_false (by omega)]
    go_enter Try.func87, Try.ntmps87
    go_wp2
    go_ret
    exact ⟨rfl, rfl⟩
  by_cases h3 : 0 ≤ t
  case neg =>
    rw [hb, decide_eq_false (by omega)]
    go_enter Try.func87, Try.ntmps87
    go_wp2
    go_ret
    exact ⟨rfl, rfl⟩
  have hw : IntKind.i64.wrap (1000 * m) = 1000 * m := IntWalk.i64_in _ (by omega)
  by_cases h4 : t ≤ 1000 * m
  case neg =>
    rw [hb, decide_eq_false (by omega)]
    go_enter Try.func87, Try.ntmps87
    go_wp2
    go_ret
    exact ⟨rfl, rfl⟩
  rw [hb, decide_eq_true (by omega)]
  go_enter Try.func87, Try.ntmps87
  go_wp2
  go_ret
  exact ⟨rfl, rfl⟩
set_option maxHeartbeats 2000000 in
theorem share_is (t p q : Int) (w : World) :
    Calls Try.prog 70 #[.int .i64 t, .int .i64 p, .int .i64 q] w fun e w' => e = .returned (.int .i64 (shareOf t p q)) ∧ w.grownBy w' none := by
  have no : ¬ (1 ≤ q ∧ q ≤ 10000000 ∧ 0 ≤ p ∧ p ≤ q ∧ 0 ≤ t ∧ t ≤ 1000 * q) → shareOf t p q = 0 := fun h => if_neg h
  by_cases h1 : 1 ≤ q ∧ q ≤ 10000000 ∧ 0 ≤ t ∧ t ≤ 1000 * q
  case neg =>
    rw [no (by omega)]
    have H1 := Lib.hid (fun u => hold_is q t false (decide_eq_false h1).symm u)
    clear no h1
    go_enter Try.func70, Try.ntmps70
    go_wp2_with (go_at_call 87; ((with_reducible refine (H1.out _).mono ?_); rintro e w1 ⟨rfl, rfl⟩))
    go_ret
    exact ⟨rfl, Draw.grown_refl _ _⟩
  have H1 := Lib.hid (fun u => hold_is q t true (decide_eq_true h1).symm u)
  by_cases h3 : p < 0
  · rw [no (by omega)]
    clear no h1
    go_enter Try.func70, Try.ntmps70
    go_wp2_with (go_at_call 87; ((with_reducible refine (H1.out _).mono ?_); rintro e w1 ⟨rfl, rfl⟩))
    go_ret
    exact ⟨rfl, Draw.grown_refl _ _⟩
  by_cases h4 : q < p
  · rw [no (by omega)]
    clear no h1
    go_enter Try.func70, Try.ntmps70
    go_wp2_with (go_at_call 87; ((with_reducible refine (H1.out _).mono ?_); rintro e w1 ⟨rfl, rfl⟩))
    go_ret
    exact ⟨rfl, Draw.grown_refl _ _⟩
  obtain ⟨p0, p1⟩ := prod_bounds (t := t) (p := p) (w := q) (by omega) (by omega) (by omega) (by omega) (by omega) (by omega)
  have e : shareOf t p q = if q ≤ 0 then 0 else t * p / q := by
    rw [if_neg (by omega)]; exact if_pos (by omega)
  have hw2 : IntKind.i64.wrap (t * p) = t * p := IntWalk.i64_in _ (by omega)
  have HF := Lib.hid (fun u => Draw.floor_is (t * p) q (by omega) (by omega) u)
  have hq1 : ¬ q < 1 := by omega
  rw [e]
  clear no e p0 p1 h1
  go_enter Try.func70, Try.ntmps70
  go_wp2_with (first | (go_at_call 87; ((with_reducible refine (H1.out _).mono ?_); rintro e w1 ⟨rfl, rfl⟩)) | (go_at_call 65; ((with_reducible refine (HF.out _).mono ?_); rintro e w1 ⟨rfl, hg⟩; have HG := Lib.hid hg; clear hg)))
  go_ret
  exact ⟨rfl, HG.out⟩

theorem inR_is (n lo hi : Int) (w : World) (b : Bool) (hb : b = decide (lo ≤ n ∧ n ≤ hi)) :
    Calls Try.prog 44 #[.int .i64 n, .int .i64 lo, .int .i64 hi] w fun e w' => e = .returned (.bool b) ∧ w' = w := by
  subst hb
  by_cases h1 : lo ≤ n
  · by_cases h2 : n ≤ hi
    · rw [decide_eq_true (by omega : lo ≤ n ∧ n ≤ hi)]
      go_enter Try.func44, Try.ntmps44
      go_wp2
      go_ret
      exact ⟨rfl, rfl⟩
    · rw [decide_eq_false (by omega : ¬ (lo ≤ n ∧ n ≤ hi))]
      go_enter Try.func44, Try.ntmps44
      go_wp2
      go_ret
      exact ⟨rfl, rfl⟩
  · rw [decide_eq_false (by omega : ¬ (lo ≤ n ∧ n ≤ hi))]
    go_enter Try.func44, Try.ntmps44
    go_wp2
    go_ret
    exact ⟨rfl, rfl⟩
set_option maxHeartbeats 2000000 in
theorem specShare_is (t p q : Int) (w : World) :
    Calls Try.prog 79 #[.int .i64 t, .int .i64 p, .int .i64 q] w fun e w' => e = .returned (.int .i64 (shareOf t p q)) ∧ w' = w := by
  have no : ¬ (1 ≤ q ∧ q ≤ 10000000 ∧ 0 ≤ p ∧ p ≤ q ∧ 0 ≤ t ∧ t ≤ 1000 * q) → shareOf t p q = 0 := fun h => if_neg h
  by_cases h1 : 1 ≤ q ∧ q ≤ 10000000
  case neg =>
    rw [no (by omega)]
    have H1 := Lib.hid (fun u => inR_is q 1 10000000 u false (decide_eq_false h1).symm)
    clear no h1
    go_enter Try.func79, Try.ntmps79
    go_wp2_with (go_at_call 44; ((with_reducible refine (H1.out _).mono ?_); rintro e w1 ⟨rfl, rfl⟩))
    go_ret
    exact ⟨rfl, rfl⟩
  case pos =>
    have H1 := Lib.hid (fun u => inR_is q 1 10000000 u true (decide_eq_true h1).symm)
    by_cases h2 : 0 ≤ p ∧ p ≤ q
    case neg =>
      rw [no (by omega)]
      have H2 := Lib.hid (fun u => inR_is p 0 q u false (decide_eq_false h2).symm)
      clear no h1 h2
      go_enter Try.func79, Try.ntmps79
      go_wp2_with (go_at_call 44; (first | ((with_reducible refine (H1.out _).mono ?_); rintro e w1 ⟨rfl, rfl⟩) | ((with_reducible refine (H2.out _).mono ?_); rintro e w1 ⟨rfl, rfl⟩)))
      go_ret
      exact ⟨rfl, rfl⟩
    case pos =>
      have H2 := Lib.hid (fun u => inR_is p 0 q u true (decide_eq_true h2).symm)
      have hw : IntKind.i64.wrap (1000 * q) = 1000 * q := IntWalk.i64_in _ (by omega)
      by_cases h3 : 0 ≤ t ∧ t ≤ 1000 * q
      case neg =>
        rw [no (by omega)]
        have H3 := Lib.hid (fun u => inR_is t 0 (1000 * q) u false (decide_eq_false h3).symm)
        clear no h1 h2 h3
        go_enter Try.func79, Try.ntmps79
        go_wp2_with (go_at_call 44; (first | ((with_reducible refine (H1.out _).mono ?_); rintro e w1 ⟨rfl, rfl⟩) | ((with_reducible refine (H2.out _).mono ?_); rintro e w1 ⟨rfl, rfl⟩) | ((with_reducible refine (H3.out _).mono ?_); rintro e w1 ⟨rfl, rfl⟩)))
        go_ret
        exact ⟨rfl, rfl⟩
      case pos =>
        obtain ⟨p0, p1⟩ := prod_bounds (t := t) (p := p) (w := q) (by omega) (by omega) (by omega) (by omega) (by omega) (by omega)
        have H3 := Lib.hid (fun u => inR_is t 0 (1000 * q) u true (decide_eq_true h3).symm)
        have e : shareOf t p q = t * p / q := if_pos (by omega)
        have hw2 : IntKind.i64.wrap (t * p) = t * p := IntWalk.i64_in _ (by omega)
        have e2 : (t * p).tdiv q = t * p / q := Int.tdiv_eq_ediv_of_nonneg p0
        have b := Int.ediv_le_self q p0
        have b0 := Int.ediv_nonneg p0 (show 0 ≤ q by omega)
        have hw3 : IntKind.i64.wrap ((t * p).tdiv q) = t * p / q := by rw [e2]; exact IntWalk.i64_in _ (by omega)
        have hq : ¬ q = 0 := by omega
        rw [e]
        clear no e p0 p1 h2 h3 e2 b b0
        go_enter Try.func79, Try.ntmps79
        go_wp2_with (go_at_call 44; (first | ((with_reducible refine (H1.out _).mono ?_); rintro e w1 ⟨rfl, rfl⟩) | ((with_reducible refine (H2.out _).mono ?_); rintro e w1 ⟨rfl, rfl⟩) | ((with_reducible refine (H3.out _).mono ?_); rintro e w1 ⟨rfl, rfl⟩)))
        go_ret
        exact ⟨rfl, rfl⟩
/-- Both answer the same. -/
theorem both_ShareOut (t : Int) (wt : (Lit.int .i64 t).wf = true) (p : Int) (wp : (Lit.int .i64 p).wf = true) (q : Int) (wq : (Lit.int .i64 q).wf = true) : ∃ y : Int,
    (∀ u : World, Calls Try.prog 79 #[.int .i64 t, .int .i64 p, .int .i64 q] u fun e w' => e = .returned (.int .i64 y) ∧ u.grownBy w' none)
    ∧ (∀ u : World, Calls Try.prog 70 #[.int .i64 t, .int .i64 p, .int .i64 q] u fun e w' => e = .returned (.int .i64 y) ∧ u.grownBy w' none) :=
  ⟨_, fun u => (specShare_is t p q u).mono fun _ _ ⟨he, hw⟩ => ⟨he, hw ▸ Draw.grown_refl _ _⟩, fun u => share_is t p q u⟩
end Go.Proofs.Ytmbmeajneankpaa.State
