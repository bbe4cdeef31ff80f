/- Meshes: LeafAt, LeafOf and DeepestLevel of the program, as contracts: what each answers; nothing that was there is written.
   Conditions: at most 2^20 leaves. -/
import Derived.Test.YtjhfjceieaanhaaMLeafPure
namespace Go.Proofs.Ytjhfjceieaanhaa.Mesh
open Go.ChangeShapes Go.WideShapes Go.ChangeAt Go.RowKit Go.Proofs.Ytjhfjceieaanhaa.Cell

set_option maxHeartbeats 2000000 in
theorem leafAt_is (R pos : Int) (a : Option Addr) (n cap : Nat) (xs : List C3) (w : World) (hr : Reads w a n xs) (hn : n ≤ 1048576) :
    Calls Try.prog 14 #[.agg #[.int .i64 R, .slice a n cap], .int .i64 pos] w fun e w' => e = .returned (.int .i64 (leafAt R xs pos)) ∧ w.grownBy w' none := by
  have hni : (n : Int) ≤ 1048576 := by omega
  have HN := Lib.hid hn; clear hn
  have HR := Lib.hid hr; clear hr
  have HL := Lib.hid (show leafAt R xs pos = if meshOk R xs then idx (inB pos) xs else -1 from rfl)
  rw [HL.out]
  have hok : ∀ u, Reads u a n xs → Calls Try.prog 18 #[.agg #[.int .i64 R, .slice a n cap]] u fun e w' => e = .returned (.bool (meshOk R xs)) ∧ u.grownBy w' none := fun u h => meshOk_is R a n cap xs u h HN.out
  have HOK := Lib.hid hok; clear hok
  cases hm : meshOk R xs with
  | false =>
    rw [hm] at HOK
    rw [if_neg (by decide)]
    go_enter Try.func14, Try.ntmps14
    go_wp2_with (go_at_call 18; (with_reducible refine (HOK.out _ (HR.out.past _)).mono ?_); rintro e w' ⟨rfl, hg⟩; have HG := Lib.hid hg; clear hg)
    go_ret
    exact ⟨rfl, grown_trans (g_alloc (grown_refl _) _) HG.out⟩
  | true =>
    rw [hm] at HOK
    rw [if_pos rfl]
    clear HL hm
    go_enter Try.func14, Try.ntmps14
    go_wp2_with (go_at_call 18; (with_reducible refine (HOK.out _ (HR.out.past _)).mono ?_); rintro e w1 ⟨rfl, hg⟩; have hb1 := ((boxM_new w 26 R (.slice a n cap)).on hg).c1; have HG1 := Lib.hid (grown_trans (g_alloc (grown_refl _) _) hg); clear hg)
    go_loopw [14] (fun i wr => ∃ (k : Nat), (k : Int) ≤ n ∧ i = .int .i64 k ∧ Hid (∀ (j : Nat) y, j < k → xs[j]? = some y → inB pos y = false) ∧ Hid (w.grownBy wr none) ∧ Hid (Reads wr a n xs)) (fun i _ => n - (intOf i).toNat)
    case atStart => exact ⟨0, by omega, rfl, Lib.hid (fun j y hj => by omega), HG1, Lib.hid (HR.out.on HG1.out)⟩
    case round =>
      obtain ⟨k, hk, rfl, HF, HG, HR⟩ := hrel
      by_cases hlt : (k : Int) < n
      · obtain ⟨r, l, i, hx⟩ := get_of_lt HR.out.len (k := k) (by omega)
        obtain ⟨g, rfl, hg, d0, d1, d2⟩ := HR.out.at_ k _ hx
        have HX := Lib.hid hx; clear hx
        obtain ⟨y0, y1⟩ := wd_bounds l
        obtain ⟨z0, z1⟩ := st_bounds r l i
        dsimp only at d0 d1 d2
        by_cases hs : startOf r l i ≤ pos
        · by_cases ht : pos < startOf r l i + widthOf l
          · have HI := Lib.hid (show inB pos (r, l, i) = true from decide_eq_true ⟨hs, ht⟩)
            go_wp2_with (first
              | (go_at_call 39; (with_reducible refine (start_is _ _ _ _).mono ?_); rintro e w' ⟨rfl, hgc⟩; have hc1 := ((Cell.laid_new wr 30 r l i).on hgc).c1; have HGC := Lib.hid hgc; clear hgc)
              | (go_at_call 40; (with_reducible refine (width_is _ _).mono ?_); rintro e w' ⟨rfl, rfl⟩))
            go_ret
            rw [idx_hit HX.out HI.out HF.out]
            exact ⟨rfl, grown_trans (g_alloc HG.out _) HGC.out⟩
          · have HI := Lib.hid (show inB pos (r, l, i) = false from decide_eq_false (fun h => ht h.2))
            go_wp2_with (first
              | (go_at_call 39; (with_reducible refine (start_is _ _ _ _).mono ?_); rintro e w' ⟨rfl, hgc⟩; have hc1 := ((Cell.laid_new wr 30 r l i).on hgc).c1; have HGC := Lib.hid hgc; clear hgc)
              | (go_at_call 40; (with_reducible refine (width_is _ _).mono ?_); rintro e w' ⟨rfl, rfl⟩))
            go_roundw
            case rel => exact ⟨k + 1, by omega, by go_num, Lib.hid (snoc_false HF.out HX.out HI.out), Lib.hid (grown_trans (g_alloc HG.out _) HGC.out), Lib.hid ((HR.out.past _).on HGC.out)⟩
            case measure => simp [intOf]; omega
        · have HI := Lib.hid (show inB pos (r, l, i) = false from decide_eq_false (fun h => hs h.1))
          go_wp2_with (first
            | (go_at_call 39; (with_reducible refine (start_is _ _ _ _).mono ?_); rintro e w' ⟨rfl, hgc⟩; have hc1 := ((Cell.laid_new wr 30 r l i).on hgc).c1; have HGC := Lib.hid hgc; clear hgc))
          go_roundw
          case rel => exact ⟨k + 1, by omega, by go_num, Lib.hid (snoc_false HF.out HX.out HI.out), Lib.hid (grown_trans (g_alloc HG.out _) HGC.out), Lib.hid ((HR.out.past _).on HGC.out)⟩
          case measure => simp [intOf]; omega
      · go_wp2_with fail
        go_ret
        rw [idx_none (all_false HF.out (by rw [HR.out.len]; omega))]
        exact ⟨rfl, HG.out⟩

set_option maxHeartbeats 2000000 in
theorem deepest_is (R : Int) (a : Option Addr) (n cap : Nat) (xs : List C3) (w : World) (hr : Reads w a n xs) (hn : n ≤ 1048576) :
    Calls Try.prog 23 #[.agg #[.int .i64 R, .slice a n cap]] w fun e w' => e = .returned (.int .i64 (deepest R xs)) ∧ w.grownBy w' none := by
  have hni : (n : Int) ≤ 1048576 := by omega
  have HN := Lib.hid hn; clear hn
  have HR := Lib.hid hr; clear hr
  have HL := Lib.hid (show deepest R xs = if meshOk R xs then deepOf xs else -1 from rfl)
  rw [HL.out]
  have hok : ∀ u, Reads u a n xs → Calls Try.prog 18 #[.agg #[.int .i64 R, .slice a n cap]] u fun e w' => e = .returned (.bool (meshOk R xs)) ∧ u.grownBy w' none := fun u h => meshOk_is R a n cap xs u h HN.out
  have HOK := Lib.hid hok; clear hok
  cases hm : meshOk R xs with
  | false =>
    rw [hm] at HOK
    rw [if_neg (by decide)]
    go_enter Try.func23, Try.ntmps23
    go_wp2_with (go_at_call 18; (with_reducible refine (HOK.out _ (HR.out.past _)).mono ?_); rintro e w' ⟨rfl, hg⟩; have HG := Lib.hid hg; clear hg)
    go_ret
    exact ⟨rfl, grown_trans (g_alloc (grown_refl _) _) HG.out⟩
  | true =>
    rw [hm] at HOK
    rw [if_pos rfl]
    clear HL hm
    go_enter Try.func23, Try.ntmps23
    go_wp2_with (go_at_call 18; (with_reducible refine (HOK.out _ (HR.out.past _)).mono ?_); rintro e w1 ⟨rfl, hg⟩; have hb1 := ((boxM_new w 26 R (.slice a n cap)).on hg).c1; have HG1 := Lib.hid (grown_trans (g_alloc (grown_refl _) _) hg); clear hg)
    go_loopw [3, 12] (fun d i wr => ∃ (k : Nat), (k : Int) ≤ n ∧ i = .int .i64 k ∧ d = .int .i64 (deepOf (xs.take k)) ∧ Hid (w.grownBy wr none) ∧ Hid (Reads wr a n xs)) (fun _ i _ => n - (intOf i).toNat)
    case atStart => exact ⟨0, by omega, rfl, rfl, HG1, Lib.hid (HR.out.on HG1.out)⟩
    case round =>
      obtain ⟨k, hk, rfl, rfl, HG, HR⟩ := hrel
      by_cases hlt : (k : Int) < n
      · obtain ⟨r, l, i, hx⟩ := get_of_lt HR.out.len (k := k) (by omega)
        obtain ⟨g, rfl, hg, d0, d1, d2⟩ := HR.out.at_ k _ hx
        have HX := Lib.hid hx; clear hx
        dsimp only at d0 d1 d2
        have HD := Lib.hid (show deepOf (xs.take (k + 1)) = max (deepOf (xs.take k)) l by rw [take_snoc HX.out]; simp [deepOf])
        generalize deepOf (xs.take k) = d at *
        go_wp2_with fail
        go_roundw
        case rel => exact ⟨k + 1, by omega, by go_num, congrArg (Value.int IntKind.i64) ((max_if d l).trans HD.out.symm), Lib.hid (g_alloc HG.out _), Lib.hid (HR.out.past _)⟩
        case measure => simp [intOf]; omega
      · obtain rfl : k = n := by omega
        have HD := Lib.hid (show deepOf (xs.take k) = deepOf xs by rw [← HR.out.len, List.take_length])
        rw [HD.out]
        go_wp2_with fail
        go_ret
        exact ⟨rfl, HG.out⟩

set_option maxHeartbeats 2000000 in
theorem index_is (r' l' i' : Int) (a : Option Addr) (n cap : Nat) (xs : List C3) (w : World) (hr : Reads w a n xs) (hn : n ≤ 1048576) :
    Calls Try.prog 43 #[.slice a n cap, .agg #[.int .i64 r', .int .i64 l', .int .i64 i']] w fun e w' => e = .returned (.int .i64 (leafOf xs (r', l', i'))) ∧ w.grownBy w' none := by
  have hni : (n : Int) ≤ 1048576 := by omega
  have HN := Lib.hid hn; clear hn
  have HR := Lib.hid hr; clear hr
  have LB := Cell.laid_new w 30 r' l' i'
  have HB := Lib.hid LB; clear LB
  go_enter Try.func43, Try.ntmps43
  go_wp2_with fail
  go_loopw [8] (fun i wr => ∃ (k : Nat), (k : Int) ≤ n ∧ i = .int .i64 k ∧ Hid (∀ (j : Nat) y, j < k → xs[j]? = some y → decide (y = (r', l', i')) = false) ∧ Hid (w.grownBy wr none) ∧ Hid (Reads wr a n xs) ∧ Hid (Cell.Laid wr w.heap.size r' l' i')) (fun i _ => n - (intOf i).toNat)
  case atStart => exact ⟨0, by omega, rfl, Lib.hid (fun j y hj => by omega), Lib.hid (g_alloc (grown_refl _) _), Lib.hid (HR.out.past _), HB⟩
  case round =>
    obtain ⟨k, hk, rfl, HF, HG, HR, HB⟩ := hrel
    by_cases hlt : (k : Int) < n
    · obtain ⟨r, l, i, hx⟩ := get_of_lt HR.out.len (k := k) (by omega)
      obtain ⟨g, rfl, hg, d0, d1, d2⟩ := HR.out.at_ k _ hx
      have HX := Lib.hid hx; clear hx
      obtain ⟨c0, c1, c2, -⟩ := HB.out
      dsimp only at d0 d1 d2
      rcases cases3 r' l' i' r l i with ⟨he, q0, q1, q2⟩ | ⟨hne, hq⟩
      · have HI := Lib.hid (show decide ((r, l, i) = (r', l', i')) = true from decide_eq_true he.symm)
        clear he
        go_wp2_with fail
        go_quiet (fail)
        go_wp2_with fail
        go_ret
        have h : leafOf xs (r', l', i') = k := idx_hit HX.out HI.out HF.out
        rw [h]
        exact ⟨rfl, g_drewN HG.out _⟩
      · have HI := Lib.hid (show decide ((r, l, i) = (r', l', i')) = false from decide_eq_false (fun h => hne h.symm))
        clear hne
        rcases hq with q0 | ⟨q0, q1⟩ | ⟨q0, q1, q2⟩
        all_goals
          go_wp2_with fail
          go_quiet (fail)
          go_wp2_with fail
          go_roundw
          case rel => exact ⟨k + 1, by omega, by go_num, Lib.hid (snoc_false HF.out HX.out HI.out), Lib.hid (g_drewN HG.out _), Lib.hid (HR.out.on (g_drewN (grown_refl _) _)), Lib.hid (HB.out.on (g_drewN (grown_refl _) _))⟩
          case measure => simp [intOf]; omega
    · go_wp2_with fail
      go_ret
      have h : leafOf xs (r', l', i') = -1 := idx_none (all_false HF.out (by rw [HR.out.len]; omega))
      rw [h]
      exact ⟨rfl, HG.out⟩

set_option maxHeartbeats 2000000 in
theorem leafOf_is (R r' l' i' : Int) (a : Option Addr) (n cap : Nat) (xs : List C3) (w : World) (hr : Reads w a n xs) (hn : n ≤ 1048576) :
    Calls Try.prog 17 #[.agg #[.int .i64 R, .slice a n cap], .agg #[.int .i64 r', .int .i64 l', .int .i64 i']] w fun e w' => e = .returned (.int .i64 (leafOf xs (r', l', i'))) ∧ w.grownBy w' none := by
  have HN := Lib.hid hn; clear hn
  have HR := Lib.hid hr; clear hr
  go_enter Try.func17, Try.ntmps17
  go_wp2_with (go_at_call 43; (with_reducible refine (index_is _ _ _ _ _ _ _ _ ((HR.out.past _).past _) HN.out).mono ?_); rintro e w' ⟨rfl, hg⟩; have HG := Lib.hid hg; clear hg)
  go_ret
  exact ⟨rfl, grown_trans (g_alloc (g_alloc (grown_refl _) _) _) HG.out⟩
end Go.Proofs.Ytjhfjceieaanhaa.Mesh
