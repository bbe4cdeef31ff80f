/- Steps: IsActive and ActiveFaces of the program and of the reference model, as contracts: what each answers; the slice is the call's own.
   Conditions: at most 2^20 leaves. -/
import Derived.Test.YtnelgnfahkljmaaStStepP
import Derived.Test.YtnelgnfahkljmaaStFluxA
import Derived.Test.YtnelgnfahkljmaaMFaceSF
import Derived.Test.YtnelgnfahkljmaaMOkS
set_option maxRecDepth 100000
namespace Go.Proofs.Ytnelgnfahkljmaa.State
open Go.ChangeShapes Go.WideShapes Go.ChangeAt Go.RowKit Go.Joins Go.Proofs.Ytnelgnfahkljmaa.Cell Go.Proofs.Ytnelgnfahkljmaa.Mesh Go.Proofs.Ytnelgnfahkljmaa.Law Go.Proofs.Ytnelgnfahkljmaa.Ints Go.Deep

theorem width_cases (l : Int) : (widthOf l = 0 ∧ (l < 0 ∨ 4 < l)) ∨ (0 ≤ l ∧ l ≤ 4 ∧ (widthOf l = 1 ∨ widthOf l = 2 ∨ widthOf l = 4 ∨ widthOf l = 8 ∨ widthOf l = 16)) := by
  by_cases h : 0 ≤ l ∧ l ≤ 4
  · right
    refine ⟨h.1, h.2, ?_⟩
    rcases lvl h.1 h.2 with rfl | rfl | rfl | rfl | rfl <;> decide
  · left
    exact ⟨if_neg h, by omega⟩

set_option maxHeartbeats 4000000 in
theorem specIsActive_is (t l : Int) (w : World) :
    Calls Try.prog 67 #[.int .i64 t, .int .i64 l] w fun e w' => e = .returned (.bool (actN t l)) ∧ w' = w := by
  have HW := Lib.hid fun u => specWidth_is l u
  obtain ⟨wd, hwd⟩ : ∃ wd, widthOf l = wd := ⟨_, rfl⟩
  have hc := width_cases l
  rw [hwd] at HW hc
  by_cases h0 : 0 ≤ t
  · rcases hc with ⟨rfl, hl⟩ | ⟨l0, l1, hw⟩
    · rw [show actN t l = false from decide_eq_false (by omega)]
      clear hwd
      go_enter Try.func67, Try.ntmps67
      go_wp2_with (go_at_call 83; ((with_reducible refine (HW.out _).mono ?_); rintro e w1 ⟨rfl, rfl⟩))
      go_ret
      exact ⟨rfl, rfl⟩
    · by_cases hm : t % wd = 0
      · rw [show actN t l = true from decide_eq_true ⟨h0, l0, l1, by rw [hwd]; exact hm⟩]
        clear hwd
        rcases hw with rfl | rfl | rfl | rfl | rfl
        all_goals
          have hq : t.tmod _ = 0 := (Int.tmod_eq_emod_of_nonneg (b := _) h0).trans hm
          go_enter Try.func67, Try.ntmps67
          go_wp2_with (go_at_call 83; ((with_reducible refine (HW.out _).mono ?_); rintro e w1 ⟨rfl, rfl⟩))
          go_ret
          exact ⟨by first | (exfalso; omega) | simp [*], rfl⟩
      · rw [show actN t l = false from decide_eq_false (by rw [hwd]; omega)]
        clear hwd
        rcases hw with rfl | rfl | rfl | rfl | rfl
        all_goals
          have hq : ¬ t.tmod _ = 0 := fun q => hm ((Int.tmod_eq_emod_of_nonneg (b := _) h0).symm.trans q)
          go_enter Try.func67, Try.ntmps67
          go_wp2_with (go_at_call 83; ((with_reducible refine (HW.out _).mono ?_); rintro e w1 ⟨rfl, rfl⟩))
          go_ret
          exact ⟨by first | (exfalso; omega) | simp [*], rfl⟩
  · rw [show actN t l = false from decide_eq_false (by omega)]
    clear hwd hc
    go_enter Try.func67, Try.ntmps67
    go_wp2_with (go_at_call 83; ((with_reducible refine (HW.out _).mono ?_); rintro e w1 ⟨rfl, rfl⟩))
    go_ret
    exact ⟨rfl, rfl⟩

theorem actF_snoc {xs : List C3} {t : Int} {k : Nat} (h : actN t (faceAt xs k) = true) : vals (toI (actF xs t k)) ++ [Value.int .i64 (k : Int)] = vals (toI (actF xs t (k + 1))) := by
  rw [actF_succ, if_pos h, toI_snoc]; simp [vals]
theorem actF_same {xs : List C3} {t : Int} {k : Nat} (h : actN t (faceAt xs k) = false) : actF xs t (k + 1) = actF xs t k := by
  rw [actF_succ, if_neg (by rw [h]; simp)]
theorem actF_len1 {xs : List C3} {t : Int} {k : Nat} (h : actN t (faceAt xs k) = true) : (actF xs t (k + 1)).length = (actF xs t k).length + 1 := by
  rw [actF_succ, if_pos h]; simp

end Go.Proofs.Ytnelgnfahkljmaa.State
