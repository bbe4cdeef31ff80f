/- The program's LeafOut; GreatestShare, LeastShare of a state, as contracts: what each answers; nothing that was there is written.
   Conditions: at most 2^20 leaves and numbers; ints. -/
import Derived.Test.YtnaofcbbdlhjpaaStTrcP
import Derived.Test.YtnaofcbbdlhjpaaStShare
import Derived.Test.YtnaofcbbdlhjpaaStPlace
import Derived.Test.YtnaofcbbdlhjpaaStI
set_option maxRecDepth 100000
namespace Go.Proofs.Ytnaofcbbdlhjpaa.State
open Go.ChangeShapes Go.WideShapes Go.ChangeAt Go.RowKit Go.Joins Go.Proofs.Ytnaofcbbdlhjpaa.Cell Go.Proofs.Ytnaofcbbdlhjpaa.Mesh Go.Proofs.Ytnaofcbbdlhjpaa.Law Go.Proofs.Ytnaofcbbdlhjpaa.Ints Go.Deep
set_option linter.unusedVariables false

theorem cell_two0 (w : World) (x y : Value) (t : TypeId) : (w.alloc (.cells #[x, y] t)).cell? ⟨w.heap.size, 0, none⟩ = some x := cell_of_row _ _ 0 _ t (0, 0) (heap_alloc_new w _)
theorem cell_two1 (w : World) (x y : Value) (t : TypeId) : (w.alloc (.cells #[x, y] t)).cell? ⟨w.heap.size, 1, none⟩ = some y := cell_of_row _ _ 1 _ t (0, 0) (heap_alloc_new w _)
set_option maxHeartbeats 4000000 in
/-- Two parts by their ends. -/
theorem parts_is (x y : Int) (g : Nat) (w : World) (h0 : w.cell? ⟨g, 0, none⟩ = some (.int .i64 x)) (h1 : w.cell? ⟨g, 1, none⟩ = some (.int .i64 y)) (hx : 0 ≤ x ∧ x ≤ 10000000000) (hy : 0 ≤ y ∧ y ≤ 10000000000) :
    Calls Try.prog 108 #[.slice (some ⟨g, 0, none⟩) 2 2] w fun e w' => ∃ q, e = .returned (.slice (some ⟨q, 0, none⟩) 2 2) ∧ w'.cell? ⟨q, 0, none⟩ = some (.int .i64 x) ∧ w'.cell? ⟨q, 1, none⟩ = some (.int .i64 (y - x)) ∧ w.grownBy w' none := by
  have HC := Lib.hid (show ∀ u, w.grownBy u none → u.cell? ⟨g, 0, none⟩ = some (.int .i64 x) ∧ u.cell? ⟨g, 1, none⟩ = some (.int .i64 y) from fun u hu => ⟨hu.cell h0 (by simp), hu.cell h1 (by simp)⟩)
  have hmk : ∀ u : World, (Instr.makeSlice 27 (.int .i64 2) (.int .i64 2)).run Try.prog u = .ok (.slice (some ⟨u.heap.size, 0, none⟩) 2 2) (u.alloc (.cells #[.int .i64 0, .int .i64 0] 3)) := fun u => makeN_is u 2 (by decide)
  have HE := Lib.hid ((Held.nil w).box 3 #[.int .i64 0, .int .i64 0])
  clear h0 h1
  go_enter Try.func108, Try.ntmps108
  go_upto_region 4 with fail
  generalize w.alloc (.cells #[.int .i64 0, .int .i64 0] 3) = W0 at *
  go_loopw [4, 12] (fun s i wr => (i = .int .i64 0 ∧ s = .int .i64 0 ∧ Hid (Held w wr [boxG w.heap.size 3 #[.int .i64 0, .int .i64 0]])) ∨ (i = .int .i64 1 ∧ s = .int .i64 x ∧ Hid (Held w wr [boxG w.heap.size 3 #[.int .i64 x, .int .i64 0]])) ∨ (i = .int .i64 2 ∧ s = .int .i64 y ∧ Hid (Held w wr [boxG w.heap.size 3 #[.int .i64 x, .int .i64 (y - x)]]))) (fun _ i _ => 2 - (intOf i).toNat)
  case atStart => exact .inl ⟨rfl, rfl, HE⟩
  case round =>
    clear HE hmk
    rcases hrel with ⟨rfl, rfl, HF⟩ | ⟨rfl, rfl, HF⟩ | ⟨rfl, rfl, HF⟩
    · obtain ⟨c0, c1⟩ := HC.out _ HF.out.gr
      obtain ⟨d0, d1⟩ := box2 (HF.out.nth 0 rfl)
      have f0 := boxG.free (HF.out.nth 0 rfl) 0
      go_wp2_with fail
      exact ⟨.inr (.inl ⟨rfl, rfl, Lib.hid (by have := HF.out.put 0 rfl 0 (.int .i64 x); simpa using this)⟩), by simp [intOf]⟩
    · obtain ⟨c0, c1⟩ := HC.out _ HF.out.gr
      obtain ⟨d0, d1⟩ := box2 (HF.out.nth 0 rfl)
      have f0 := boxG.free (HF.out.nth 0 rfl) 1
      go_wp2_with fail
      exact ⟨.inr (.inr ⟨rfl, rfl, Lib.hid (by have := HF.out.put 0 rfl 1 (.int .i64 (y - x)); simpa using this)⟩), by simp [intOf]⟩
    · obtain ⟨d0, d1⟩ := box2 (HF.out.nth 0 rfl)
      go_wp2_with fail
      go_ret
      exact ⟨_, rfl, d0, d1, HF.out.gr⟩

set_option maxHeartbeats 4000000 in
theorem leafOut_is (t m r l : Int) (hr : -9223372036854775808 ≤ r ∧ r ≤ 9223372036854775807) (hl : -9223372036854775808 ≤ l ∧ l ≤ 9223372036854775807) (w : World) :
    Calls Try.prog 86 #[.int .i64 t, .int .i64 m, .int .i64 r, .int .i64 l] w fun e w' => e = .returned (.tuple #[.int .i64 (outR t m r l), .int .i64 (outL t m r l)]) ∧ w.grownBy w' none := by
  have no : outB t m r l = false → outR t m r l = 0 ∧ outL t m r l = 0 := fun h => by unfold outR outL; rw [h]; exact ⟨rfl, rfl⟩
  by_cases h1 : 1 ≤ m ∧ m ≤ 10000000 ∧ 0 ≤ t ∧ t ≤ 1000 * m
  case neg =>
    obtain ⟨e1, e2⟩ := no (decide_eq_false (by omega))
    rw [e1, e2]
    have H1 := Lib.hid (fun u => hold_is m t false (decide_eq_false h1).symm u)
    clear no h1 e1 e2
    go_enter Try.func86, Try.ntmps86
    go_wp2_with (go_at_call 107; ((with_reducible refine (H1.out _).mono ?_); rintro e w1 ⟨rfl, rfl⟩))
    exact bodyPost_ret_by (results_tmp2 (fn := Try.f86) rfl _ _ _) rfl ⟨rfl, Draw.grown_refl _ _⟩
  have H1 := Lib.hid (fun u => hold_is m t true (decide_eq_true h1).symm u)
  by_cases h2 : r < 0
  · obtain ⟨e1, e2⟩ := no (decide_eq_false (by omega))
    rw [e1, e2]
    clear no h1 e1 e2
    go_enter Try.func86, Try.ntmps86
    go_wp2_with (go_at_call 107; ((with_reducible refine (H1.out _).mono ?_); rintro e w1 ⟨rfl, rfl⟩))
    exact bodyPost_ret_by (results_tmp2 (fn := Try.f86) rfl _ _ _) rfl ⟨rfl, Draw.grown_refl _ _⟩
  by_cases h3 : l < 0
  · obtain ⟨e1, e2⟩ := no (decide_eq_false (by omega))
    rw [e1, e2]
    clear no h1 e1 e2
    go_enter Try.func86, Try.ntmps86
    go_wp2_with (go_at_call 107; ((with_reducible refine (H1.out _).mono ?_); rintro e w1 ⟨rfl, rfl⟩))
    exact bodyPost_ret_by (results_tmp2 (fn := Try.f86) rfl _ _ _) rfl ⟨rfl, Draw.grown_refl _ _⟩
  have hw : IntKind.i64.wrap (m - l) = m - l := IntWalk.i64_in _ (by omega)
  by_cases h4 : m - l < r
  · obtain ⟨e1, e2⟩ := no (decide_eq_false (by omega))
    rw [e1, e2]
    clear no h1 e1 e2
    go_enter Try.func86, Try.ntmps86
    go_wp2_with (go_at_call 107; ((with_reducible refine (H1.out _).mono ?_); rintro e w1 ⟨rfl, rfl⟩))
    exact bodyPost_ret_by (results_tmp2 (fn := Try.f86) rfl _ _ _) rfl ⟨rfl, Draw.grown_refl _ _⟩
  have ho : outB t m r l = true := decide_eq_true (by omega)
  rw [show outR t m r l = shareOf t r m from if_pos ho, show outL t m r l = shareOf t (r + l) m - shareOf t r m from if_pos ho]
  have HA := Lib.hid (fun u => share_is t r m u)
  have HB := Lib.hid (fun u => share_is t (r + l) m u)
  have hx := share_range t r m
  have hy := share_range t (r + l) m
  clear no ho
  have hw2 : IntKind.i64.wrap (r + l) = r + l := IntWalk.i64_in _ (by omega)
  generalize shareOf t r m = x at *
  generalize shareOf t (r + l) m = y at *
  clear h1
  go_enter Try.func86, Try.ntmps86
  go_upto_region 4 with (first
    | (go_at_call 107; ((with_reducible refine (H1.out _).mono ?_); rintro e w1 ⟨rfl, rfl⟩))
    | (go_at_call 109; ((with_reducible refine (HA.out _).mono ?_); rintro e w2 ⟨rfl, hg⟩; have HG2 := Lib.hid hg; clear hg))
    | (go_at_call 109; ((with_reducible refine (HB.out _).mono ?_); rintro e w3 ⟨rfl, hg⟩; have HG3 := Lib.hid (Cell.grown_trans HG2.out hg); clear hg))
    | (go_at_call 108; ((with_reducible refine (parts_is x y _ _ (cell_two0 _ _ _ _) (cell_two1 _ _ _ _) hx hy).mono ?_); rintro e w4 ⟨q, rfl, d0, d1, hg⟩; have HG4 := Lib.hid (Cell.grown_trans (Cell.grown_trans HG3.out (World.grownBy_alloc _ _ none)) hg); clear hg)))
  go_quiet (fail)
  go_wp2_with fail
  exact bodyPost_ret_by (results_tmp2 (fn := Try.f86) rfl _ _ _) rfl ⟨rfl, Cell.g_drewN HG4.out nq⟩

end Go.Proofs.Ytnaofcbbdlhjpaa.State
