/- The program's rounded quotients, as contracts.
   Conditions: the numbers are ints. -/
import Derived.Test.YtcdkhapepabpkaaDraw
import Derived.Test.YtcdkhapepabpkaaQuot
set_option maxRecDepth 100000
namespace Go.Proofs.Ytcdkhapepabpkaa.Draw
open Go.ChangeShapes Go.WideShapes Go.ChangeAt Go.RowKit

theorem table_is (w : World) :
    Calls Try.prog 81 #[] w fun e w' => e = .returned (.agg #[.func (.func 87) #[] #[], .func (.func 88) #[] #[], .func (.func 89) #[] #[]]) ∧ w.grownBy w' Option.none := by
  have hst : ∀ (u : World) (a : Addr) (f : Nat) (m : Mode), (store a (.func (.func f) #[] #[]) m).run Try.prog u = stored Try.prog u a (.func (.func f) #[] #[]) m := fun u a f m => run_store _ u a _ m rfl
  go_enter Try.func81, Try.ntmps81
  go_wp2
  exact bodyPost_ret_by (results_cell_row (fn := Try.f81) rfl _ _ w.heap.size _ _ (0, 0) (.array 3 101) rfl (heap_alloc_new _ _) (by kernel_rfl) rfl (by kernel_rfl)) rfl ⟨rfl, World.grownBy_alloc _ _ _⟩

theorem down_is (q r b : Int) (hq : r < 0 → -9223372036854775808 < q) (hq1 : q ≤ 9223372036854775807) (w : World) :
    Calls Try.prog 87 #[.int .i64 q, .int .i64 r, .int .i64 b] w fun e w' => e = .returned (.int .i64 (if r < 0 then q - 1 else q)) ∧ w' = w := by
  by_cases h : r < 0
  · rw [if_pos h]
    have hq2 := hq h
    clear hq
    go_enter Try.func87, Try.ntmps87
    go_wp2
    go_ret
    exact ⟨rfl, rfl⟩
  · rw [if_neg h]
    clear hq
    go_enter Try.func87, Try.ntmps87
    go_wp2
    go_ret
    exact ⟨rfl, rfl⟩

theorem toZero_is (q r b : Int) (w : World) :
    Calls Try.prog 88 #[.int .i64 q, .int .i64 r, .int .i64 b] w fun e w' => e = .returned (.int .i64 q) ∧ w' = w := by
  go_enter Try.func88, Try.ntmps88
  go_wp2
  go_ret
  exact ⟨rfl, rfl⟩

theorem near_is (q r b : Int) (hq : -4611686018427387904 < q ∧ q ≤ 4611686018427387903) (hr : -2147483647 ≤ r ∧ r ≤ 2147483647) (hb : 0 < b ∧ b ≤ 2147483647) (w : World) :
    Calls Try.prog 89 #[.int .i64 q, .int .i64 r, .int .i64 b] w fun e w' => e = .returned (.int .i64 (if b ≤ 2 * r then q + 1 else if 2 * r < -b then q - 1 else q)) ∧ w' = w := by
  by_cases h : b ≤ 2 * r
  · rw [if_pos h]
    go_enter Try.func89, Try.ntmps89
    go_wp2
    go_ret
    exact ⟨rfl, rfl⟩
  · rw [if_neg h]
    by_cases h1 : 2 * r < -b
    · rw [if_pos h1]
      go_enter Try.func89, Try.ntmps89
      go_wp2
      go_ret
      exact ⟨rfl, rfl⟩
    · rw [if_neg h1]
      go_enter Try.func89, Try.ntmps89
      go_wp2
      go_ret
      exact ⟨rfl, rfl⟩

theorem divide_down (a b : Int) (ha : -9223372036854775808 ≤ a ∧ a ≤ 9223372036854775807) (hb : b ≤ 9223372036854775807) (w : World) :
    Calls Try.prog 68 #[.int .i64 a, .int .i64 b, .int .i64 0] w fun e w' => e = .returned (.int .i64 (if b ≤ 0 then 0 else a / b)) ∧ w.grownBy w' Option.none := by
  have hix : ∀ (u : World) (x y z : Value), (Instr.index 102 (.agg #[x, y, z]) (.int .i64 0)).run Try.prog u = .ok x u := fun u x y z => by kernel_rfl
  by_cases h0 : b ≤ 0
  · rw [if_pos h0]
    go_enter Try.func68, Try.ntmps68
    go_wp2
    go_ret
    exact ⟨rfl, grown_refl _ _⟩
  · rw [if_neg h0, ← Quot.floor_rest (by omega)]
    have hp : 0 < b := by omega
    have hne : ¬ b = 0 := by omega
    have hw1 : IntKind.i64.wrap (a.tdiv b) = a.tdiv b := by
      have := Quot.tdiv_range (a := a) hp (by omega) (by omega)
      rw [IntKind.wrap_i64]; omega
    have hw2 : IntKind.i64.wrap (a.tmod b) = a.tmod b := by
      have := Quot.tmod_range (a := a) hp
      rw [IntKind.wrap_i64]; omega
    have HQ0 := Lib.hid (fun hr => Quot.tdiv_room (a := a) hp (by omega) hr)
    have HQ1 := Lib.hid (Quot.tdiv_range (a := a) hp (by omega) (by omega)).2
    have HP := Lib.hid hp; clear hp
    go_enter Try.func68, Try.ntmps68
    go_wp2_with fail
    refine (table_is w).mono ?_; rintro e w1 ⟨rfl, hg⟩
    go_wp2_with fail
    go_quiet ((refine Calls.quiet_of_same (down_is (a.tdiv b) (a.tmod b) b HQ0.out HQ1.out _); done))
    go_wp2_with fail
    all_goals go_ret
    all_goals exact ⟨rfl, grown_trans hg (grown_drewN _ _ _)⟩

theorem divide_zero (a b : Int) (ha : -9223372036854775808 ≤ a ∧ a ≤ 9223372036854775807) (hb : b ≤ 9223372036854775807) (w : World) :
    Calls Try.prog 68 #[.int .i64 a, .int .i64 b, .int .i64 1] w fun e w' => e = .returned (.int .i64 (if b ≤ 0 then 0 else a.tdiv b)) ∧ w.grownBy w' Option.none := by
  have hix : ∀ (u : World) (x y z : Value), (Instr.index 102 (.agg #[x, y, z]) (.int .i64 1)).run Try.prog u = .ok y u := fun u x y z => by kernel_rfl
  by_cases h0 : b ≤ 0
  · rw [if_pos h0]
    go_enter Try.func68, Try.ntmps68
    go_wp2
    go_ret
    exact ⟨rfl, grown_refl _ _⟩
  · rw [if_neg h0]
    have hp : 0 < b := by omega
    have hne : ¬ b = 0 := by omega
    have hw1 : IntKind.i64.wrap (a.tdiv b) = a.tdiv b := by
      have := Quot.tdiv_range (a := a) hp (by omega) (by omega)
      rw [IntKind.wrap_i64]; omega
    have hw2 : IntKind.i64.wrap (a.tmod b) = a.tmod b := by
      have := Quot.tmod_range (a := a) hp
      rw [IntKind.wrap_i64]; omega
    have HP := Lib.hid hp; clear hp
    go_enter Try.func68, Try.ntmps68
    go_wp2_with fail
    refine (table_is w).mono ?_; rintro e w1 ⟨rfl, hg⟩
    go_wp2_with fail
    go_quiet ((refine Calls.quiet_of_same (toZero_is (a.tdiv b) (a.tmod b) b _); done))
    go_wp2_with fail
    all_goals go_ret
    all_goals exact ⟨rfl, grown_trans hg (grown_drewN _ _ _)⟩

theorem divide_near (a b : Int) (ha : -1000000000000000 ≤ a ∧ a ≤ 1000000000000000) (hb : b ≤ 2147483647) (w : World) :
    Calls Try.prog 68 #[.int .i64 a, .int .i64 b, .int .i64 2] w fun e w' => e = .returned (.int .i64 (if b ≤ 0 then 0 else (2 * a + b) / (2 * b))) ∧ w.grownBy w' Option.none := by
  have hix : ∀ (u : World) (x y z : Value), (Instr.index 102 (.agg #[x, y, z]) (.int .i64 2)).run Try.prog u = .ok z u := fun u x y z => by kernel_rfl
  by_cases h0 : b ≤ 0
  · rw [if_pos h0]
    go_enter Try.func68, Try.ntmps68
    go_wp2
    go_ret
    exact ⟨rfl, grown_refl _ _⟩
  · rw [if_neg h0, ← Quot.near_rest (by omega)]
    have hp : 0 < b := by omega
    have hne : ¬ b = 0 := by omega
    have hw1 : IntKind.i64.wrap (a.tdiv b) = a.tdiv b := by
      have := Quot.tdiv_range (a := a) hp (by omega) (by omega)
      rw [IntKind.wrap_i64]; omega
    have hw2 : IntKind.i64.wrap (a.tmod b) = a.tmod b := by
      have := Quot.tmod_range (a := a) hp
      rw [IntKind.wrap_i64]; omega
    have HQ0 := Lib.hid (Quot.tdiv_small (a := a) hp (by omega) (by omega))
    have HQ1 := Lib.hid (show -2147483647 ≤ a.tmod b ∧ a.tmod b ≤ 2147483647 by have := Quot.tmod_range (a := a) hp; omega)
    have HQ2 := Lib.hid (show 0 < b ∧ b ≤ 2147483647 from ⟨hp, hb⟩)
    have HP := Lib.hid hp; clear hp
    go_enter Try.func68, Try.ntmps68
    go_wp2_with fail
    refine (table_is w).mono ?_; rintro e w1 ⟨rfl, hg⟩
    go_wp2_with fail
    go_quiet ((refine Calls.quiet_of_same (near_is (a.tdiv b) (a.tmod b) b HQ0.out HQ1.out HQ2.out _); done))
    go_wp2_with fail
    all_goals go_ret
    all_goals exact ⟨rfl, grown_trans hg (grown_drewN _ _ _)⟩

end Go.Proofs.Ytcdkhapepabpkaa.Draw
