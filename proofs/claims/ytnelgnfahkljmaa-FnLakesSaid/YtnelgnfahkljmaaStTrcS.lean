/- The reference model's LeafOut, l10Pair; GreatestShare, LeastShare, ShareAt of a state, as contracts: what each answers; nothing that was there is written.
   Conditions: at most 2^20 leaves and numbers; ints. -/
import Derived.Test.YtnelgnfahkljmaaStTrcP
import Derived.Test.YtnelgnfahkljmaaStShare
import Derived.Test.YtnelgnfahkljmaaStOkS
import Derived.BigRegion
import Derived.BigQuiet
set_option maxRecDepth 100000
namespace Go.Proofs.Ytnelgnfahkljmaa.State
open Go.ChangeShapes Go.WideShapes Go.ChangeAt Go.RowKit Go.Joins Go.Proofs.Ytnelgnfahkljmaa.Cell Go.Proofs.Ytnelgnfahkljmaa.Mesh Go.Proofs.Ytnelgnfahkljmaa.Law Go.Proofs.Ytnelgnfahkljmaa.Ints Go.Deep
set_option linter.unusedVariables false

set_option maxHeartbeats 4000000 in
theorem specLeafOut_is (t m r l : Int) (w : World) :
    Calls Try.prog 70 #[.int .i64 t, .int .i64 m, .int .i64 r, .int .i64 l] w fun e w' => e = .returned (.tuple #[.int .i64 (outR t m r l), .int .i64 (outL t m r l)]) ∧ w' = w := by
  have no : outB t m r l = false → outR t m r l = 0 ∧ outL t m r l = 0 := fun h => by unfold outR outL; rw [h]; exact ⟨rfl, rfl⟩
  by_cases h1 : 1 ≤ m ∧ m ≤ 10000000
  case neg =>
    obtain ⟨e1, e2⟩ := no (decide_eq_false (by omega))
    rw [e1, e2]
    have H1 := Lib.hid (fun u => inR_is m 1 10000000 u false (decide_eq_false h1).symm)
    clear no h1 e1 e2
    go_enter Try.func70, Try.ntmps70
    go_wp2_with (go_at_call 36; ((with_reducible refine (H1.out _).mono ?_); rintro e w1 ⟨rfl, rfl⟩))
    exact bodyPost_ret_by (results_tmp2 (fn := Try.f70) rfl _ _ _) rfl ⟨rfl, rfl⟩
  have H1 := Lib.hid (fun u => inR_is m 1 10000000 u true (decide_eq_true h1).symm)
  have hw : IntKind.i64.wrap (1000 * m) = 1000 * m := IntWalk.i64_in _ (by omega)
  by_cases h2 : 0 ≤ t ∧ t ≤ 1000 * m
  case neg =>
    obtain ⟨e1, e2⟩ := no (decide_eq_false (by omega))
    rw [e1, e2]
    have H2 := Lib.hid (fun u => inR_is t 0 (1000 * m) u false (decide_eq_false h2).symm)
    clear no h1 h2 e1 e2
    go_enter Try.func70, Try.ntmps70
    go_wp2_with (go_at_call 36; (first | ((with_reducible refine (H1.out _).mono ?_); rintro e w1 ⟨rfl, rfl⟩) | ((with_reducible refine (H2.out _).mono ?_); rintro e w1 ⟨rfl, rfl⟩)))
    exact bodyPost_ret_by (results_tmp2 (fn := Try.f70) rfl _ _ _) rfl ⟨rfl, rfl⟩
  have H2 := Lib.hid (fun u => inR_is t 0 (1000 * m) u true (decide_eq_true h2).symm)
  by_cases h3 : 0 ≤ r ∧ r ≤ m
  case neg =>
    obtain ⟨e1, e2⟩ := no (decide_eq_false (by omega))
    rw [e1, e2]
    have H3 := Lib.hid (fun u => inR_is r 0 m u false (decide_eq_false h3).symm)
    clear no h1 h2 h3 e1 e2
    go_enter Try.func70, Try.ntmps70
    go_wp2_with (go_at_call 36; (first | ((with_reducible refine (H1.out _).mono ?_); rintro e w1 ⟨rfl, rfl⟩) | ((with_reducible refine (H2.out _).mono ?_); rintro e w1 ⟨rfl, rfl⟩) | ((with_reducible refine (H3.out _).mono ?_); rintro e w1 ⟨rfl, rfl⟩)))
    exact bodyPost_ret_by (results_tmp2 (fn := Try.f70) rfl _ _ _) rfl ⟨rfl, rfl⟩
  have H3 := Lib.hid (fun u => inR_is r 0 m u true (decide_eq_true h3).symm)
  have hw2 : IntKind.i64.wrap (m - r) = m - r := IntWalk.i64_in _ (by omega)
  by_cases h4 : 0 ≤ l ∧ l ≤ m - r
  case neg =>
    obtain ⟨e1, e2⟩ := no (decide_eq_false (by omega))
    rw [e1, e2]
    have H4 := Lib.hid (fun u => inR_is l 0 (m - r) u false (decide_eq_false h4).symm)
    clear no h1 h2 h3 h4 e1 e2
    go_enter Try.func70, Try.ntmps70
    go_wp2_with (go_at_call 36; (first | ((with_reducible refine (H1.out _).mono ?_); rintro e w1 ⟨rfl, rfl⟩) | ((with_reducible refine (H2.out _).mono ?_); rintro e w1 ⟨rfl, rfl⟩) | ((with_reducible refine (H3.out _).mono ?_); rintro e w1 ⟨rfl, rfl⟩) | ((with_reducible refine (H4.out _).mono ?_); rintro e w1 ⟨rfl, rfl⟩)))
    exact bodyPost_ret_by (results_tmp2 (fn := Try.f70) rfl _ _ _) rfl ⟨rfl, rfl⟩
  have H4 := Lib.hid (fun u => inR_is l 0 (m - r) u true (decide_eq_true h4).symm)
  have ho : outB t m r l = true := decide_eq_true (by omega)
  rw [show outR t m r l = shareOf t r m from if_pos ho, show outL t m r l = shareOf t (r + l) m - shareOf t r m from if_pos ho]
  have HA := Lib.hid (fun u => specShare_is t r m u)
  have HB := Lib.hid (fun u => specShare_is t (r + l) m u)
  have hx := share_range t r m
  have hy := share_range t (r + l) m
  have hw3 : IntKind.i64.wrap (r + l) = r + l := IntWalk.i64_in _ (by omega)
  clear no ho
  generalize shareOf t r m = x at *
  generalize shareOf t (r + l) m = y at *
  have hw4 : IntKind.i64.wrap (y - x) = y - x := IntWalk.i64_in _ (by omega)
  clear h1 h2 h3 h4 hx hy
  go_enter Try.func70, Try.ntmps70
  go_wp2_with (first
    | (go_at_call 36; (first | ((with_reducible refine (H1.out _).mono ?_); rintro e w1 ⟨rfl, rfl⟩) | ((with_reducible refine (H2.out _).mono ?_); rintro e w1 ⟨rfl, rfl⟩) | ((with_reducible refine (H3.out _).mono ?_); rintro e w1 ⟨rfl, rfl⟩) | ((with_reducible refine (H4.out _).mono ?_); rintro e w1 ⟨rfl, rfl⟩)))
    | (go_at_call 88; (first | ((with_reducible refine (HA.out _).mono ?_); rintro e w1 ⟨rfl, rfl⟩) | ((with_reducible refine (HB.out _).mono ?_); rintro e w1 ⟨rfl, rfl⟩))))
  exact bodyPost_ret_by (results_tmp2 (fn := Try.f70) rfl _ _ _) rfl ⟨rfl, rfl⟩

end Go.Proofs.Ytnelgnfahkljmaa.State
