/- Meshes: LeafAt, LeafOf and DeepestLevel of the reference model, as contracts: what each answers; nothing that was there is written.
   Conditions: at most 2^20 leaves. -/
import Derived.Test.YtjhfjceieaanhaaMOkS
import Derived.Test.YtjhfjceieaanhaaMLeafPure
namespace Go.Proofs.Ytjhfjceieaanhaa.Mesh
open Go.ChangeShapes Go.WideShapes Go.ChangeAt Go.RowKit Go.Proofs.Ytjhfjceieaanhaa.Cell

/-- The greatest level so far, from -1 on. -/
def deepS (xs : List C3) : Int := xs.foldl (fun m x => max m x.2.1) (-1)
theorem deepS_eq {R : Int} {xs : List C3} (h : meshOk R xs = true) : deepS xs = deepOf xs := by
  obtain ⟨h1, h2, h3⟩ : 1 ≤ R ∧ R ≤ 8 ∧ run xs = some (R * 16) := of_decide_eq_true h
  obtain ⟨-, -, b⟩ := run_bounds _ h3
  cases xs with
  | nil => simp [run] at h3; omega
  | cons x xs =>
    obtain ⟨-, -, b2, -⟩ := ok_bounds (b x (by simp))
    unfold deepS deepOf
    rw [List.foldl_cons, List.foldl_cons]
    congr 1
    omega
theorem deepS_ge (xs : List C3) : ∀ m : Int, m ≤ xs.foldl (fun m x => max m x.2.1) m := by
  induction xs with
  | nil => intro m; exact Int.le_refl _
  | cons x xs ih => intro m; exact Int.le_trans (by omega) (ih (max m x.2.1))

set_option maxHeartbeats 2000000 in
theorem specLeafAt_is (R pos : Int) (a : Option Addr) (n cap : Nat) (xs : List C3) (w : World) (hr : Reads w a n xs) (hn : n ≤ 1048576) :
    Calls Try.prog 31 #[.agg #[.int .i64 R, .slice a n cap], .int .i64 pos] w fun e w' => e = .returned (.int .i64 (leafAt R xs pos)) ∧ w.grownBy w' none := by
  have hni : (n : Int) ≤ 1048576 := by omega
  have HN := Lib.hid hn; clear hn
  have HR := Lib.hid hr; clear hr
  have HL := Lib.hid (show leafAt R xs pos = if meshOk R xs then idx (inB pos) xs else -1 from rfl)
  have hok : ∀ u, Reads u a n xs → Calls Try.prog 29 #[.agg #[.int .i64 R, .slice a n cap]] u fun e w' => e = .returned (.bool (meshOk R xs)) ∧ u.grownBy w' none := fun u h => specMeshOk_is R a n cap xs u h HN.out
  have HOK := Lib.hid hok; clear hok
  have HB := Lib.hid (boxM_new w 26 R (.slice a n cap))
  go_enter Try.func31, Try.ntmps31
  go_wp2_with fail
  go_loopw [5] (fun i wr => ∃ (k : Nat), (k : Int) ≤ n ∧ i = .int .i64 k ∧ Hid (∀ (j : Nat) y, j < k → xs[j]? = some y → inB pos y = false) ∧ Hid (w.grownBy wr none) ∧ Hid (Reads wr a n xs) ∧ Hid (BoxM wr w.heap.size R (.slice a n cap))) (fun i _ => n - (intOf i).toNat)
  case atStart => exact ⟨0, by omega, rfl, Lib.hid (fun j y hj => by omega), Lib.hid (g_alloc (grown_refl _) _), Lib.hid (HR.out.past _), HB⟩
  case round =>
    obtain ⟨k, hk, rfl, HF, HG, HR, HB⟩ := hrel
    have hb0 := HB.out.c0
    have hb1 := HB.out.c1
    by_cases hlt : (k : Int) < n
    · obtain ⟨r, l, i, hx⟩ := get_of_lt HR.out.len (k := k) (by omega)
      obtain ⟨g, rfl, hg, d0, d1, d2⟩ := HR.out.at_ k _ hx
      have HX := Lib.hid hx; clear hx
      obtain ⟨y0, y1⟩ := wd_bounds l
      obtain ⟨z0, z1⟩ := st_bounds r l i
      dsimp only at d0 d1 d2
      cases hm : meshOk R xs with
      | false =>
        rw [hm] at HOK
        have HV := Lib.hid (show leafAt R xs pos = -1 by rw [HL.out, hm]; rfl)
        clear HL hm
        go_wp2_with (go_at_call 29; (with_reducible refine (HOK.out _ HR.out).mono ?_); rintro e w' ⟨rfl, hg⟩; have HG1 := Lib.hid hg; clear hg)
        go_ret
        rw [HV.out]
        exact ⟨rfl, grown_trans HG.out HG1.out⟩
      | true =>
        rw [hm] at HOK
        have HV := Lib.hid (show leafAt R xs pos = idx (inB pos) xs by rw [HL.out, hm]; rfl)
        clear HL hm
        by_cases hs : startOf r l i ≤ pos
        · by_cases ht : pos < startOf r l i + widthOf l
          · have HI := Lib.hid (show inB pos (r, l, i) = true from decide_eq_true ⟨hs, ht⟩)
            go_wp2_with (first
              | (go_at_call 29; (with_reducible refine (HOK.out _ HR.out).mono ?_); rintro e w1 ⟨rfl, hg1⟩; have hb1' := (HB.out.on hg1).c1; obtain ⟨g_, hg_, -, d10, d11, d12⟩ := (HR.out.on hg1).at_ k _ HX.out; cases hg_; dsimp only at d10 d11 d12; have HG1 := Lib.hid hg1; clear hg1)
              | (go_at_call 15; (with_reducible refine (specStart_is _ _ _ _).mono ?_); rintro e w2 ⟨rfl, hg2⟩; have HG2 := Lib.hid (grown_trans HG1.out hg2); have hb2' := (HB.out.on HG2.out).c1; obtain ⟨g_, hg_, -, d20, d21, d22⟩ := (HR.out.on HG2.out).at_ k _ HX.out; cases hg_; dsimp only at d20 d21 d22; clear hg2)
              | (go_at_call 51; (with_reducible refine (end_is _ _ _ _).mono ?_); rintro e w3 ⟨rfl, hg3⟩; have HG3 := Lib.hid (grown_trans HG2.out hg3); clear hg3))
            go_ret
            rw [HV.out, idx_hit HX.out HI.out HF.out]
            exact ⟨rfl, grown_trans HG.out HG3.out⟩
          · have HI := Lib.hid (show inB pos (r, l, i) = false from decide_eq_false (fun h => ht h.2))
            go_wp2_with (first
              | (go_at_call 29; (with_reducible refine (HOK.out _ HR.out).mono ?_); rintro e w1 ⟨rfl, hg1⟩; have hb1' := (HB.out.on hg1).c1; obtain ⟨g_, hg_, -, d10, d11, d12⟩ := (HR.out.on hg1).at_ k _ HX.out; cases hg_; dsimp only at d10 d11 d12; have HG1 := Lib.hid hg1; clear hg1)
              | (go_at_call 15; (with_reducible refine (specStart_is _ _ _ _).mono ?_); rintro e w2 ⟨rfl, hg2⟩; have HG2 := Lib.hid (grown_trans HG1.out hg2); have hb2' := (HB.out.on HG2.out).c1; obtain ⟨g_, hg_, -, d20, d21, d22⟩ := (HR.out.on HG2.out).at_ k _ HX.out; cases hg_; dsimp only at d20 d21 d22; clear hg2)
              | (go_at_call 51; (with_reducible refine (end_is _ _ _ _).mono ?_); rintro e w3 ⟨rfl, hg3⟩; have HG3 := Lib.hid (grown_trans HG2.out hg3); clear hg3))
            go_roundw
            case rel => exact ⟨k + 1, by omega, by go_num, Lib.hid (snoc_false HF.out HX.out HI.out), Lib.hid (grown_trans HG.out HG3.out), Lib.hid (HR.out.on HG3.out), Lib.hid (HB.out.on HG3.out)⟩
            case measure => simp [intOf]; omega
        · have HI := Lib.hid (show inB pos (r, l, i) = false from decide_eq_false (fun h => hs h.1))
          go_wp2_with (first
            | (go_at_call 29; (with_reducible refine (HOK.out _ HR.out).mono ?_); rintro e w1 ⟨rfl, hg1⟩; have hb1' := (HB.out.on hg1).c1; obtain ⟨g_, hg_, -, d10, d11, d12⟩ := (HR.out.on hg1).at_ k _ HX.out; cases hg_; dsimp only at d10 d11 d12; have HG1 := Lib.hid hg1; clear hg1)
            | (go_at_call 15; (with_reducible refine (specStart_is _ _ _ _).mono ?_); rintro e w2 ⟨rfl, hg2⟩; have HG2 := Lib.hid (grown_trans HG1.out hg2); clear hg2))
          go_roundw
          case rel => exact ⟨k + 1, by omega, by go_num, Lib.hid (snoc_false HF.out HX.out HI.out), Lib.hid (grown_trans HG.out HG2.out), Lib.hid (HR.out.on HG2.out), Lib.hid (HB.out.on HG2.out)⟩
          case measure => simp [intOf]; omega
    · go_wp2_with fail
      go_ret
      have hi : idx (inB pos) xs = -1 := idx_none (all_false HF.out (by rw [HR.out.len]; omega))
      have h : leafAt R xs pos = -1 := by rw [HL.out, hi]; split <;> rfl
      rw [h]
      exact ⟨rfl, HG.out⟩

set_option maxHeartbeats 2000000 in
theorem specDeepest_is (R : Int) (a : Option Addr) (n cap : Nat) (xs : List C3) (w : World) (hr : Reads w a n xs) (hn : n ≤ 1048576) :
    Calls Try.prog 34 #[.agg #[.int .i64 R, .slice a n cap]] w fun e w' => e = .returned (.int .i64 (deepest R xs)) ∧ w.grownBy w' none := by
  have hni : (n : Int) ≤ 1048576 := by omega
  have HN := Lib.hid hn; clear hn
  have HR := Lib.hid hr; clear hr
  have HB := Lib.hid (boxM_new w 26 R (.slice a n cap))
  have hok : ∀ u, Reads u a n xs → Calls Try.prog 29 #[.agg #[.int .i64 R, .slice a n cap]] u fun e w' => e = .returned (.bool (meshOk R xs)) ∧ u.grownBy w' none := fun u h => specMeshOk_is R a n cap xs u h HN.out
  have HOK := Lib.hid hok; clear hok
  cases hm : meshOk R xs with
  | false =>
    rw [hm] at HOK
    rw [show deepest R xs = -1 by simp [deepest, hm]]
    clear hm
    by_cases hlt : 0 < (n : Int)
    · go_enter Try.func34, Try.ntmps34
      go_wp2_with fail
      go_loopw [3, 4] (fun d i wr => d = .int .i64 (-1) ∧ i = .int .i64 0 ∧ Hid (w.grownBy wr none) ∧ Hid (Reads wr a n xs) ∧ Hid (BoxM wr w.heap.size R (.slice a n cap))) (fun _ i _ => n - (intOf i).toNat)
      case atStart => exact ⟨rfl, rfl, Lib.hid (g_alloc (grown_refl _) _), Lib.hid (HR.out.past _), HB⟩
      case round =>
        obtain ⟨rfl, rfl, HG, HR, HB⟩ := hrel
        have hb0 := HB.out.c0
        have hb1 := HB.out.c1
        go_wp2_with (go_at_call 29; (with_reducible refine (HOK.out _ HR.out).mono ?_); rintro e w' ⟨rfl, hg⟩; have HG1 := Lib.hid hg; clear hg)
        go_ret
        exact ⟨rfl, grown_trans HG.out HG1.out⟩
    · go_enter Try.func34, Try.ntmps34
      go_wp2_with fail
      go_loopw [3, 4] (fun d i wr => d = .int .i64 (-1) ∧ i = .int .i64 0 ∧ Hid (w.grownBy wr none) ∧ Hid (BoxM wr w.heap.size R (.slice a n cap))) (fun _ i _ => n - (intOf i).toNat)
      case atStart => exact ⟨rfl, rfl, Lib.hid (g_alloc (grown_refl _) _), HB⟩
      case round =>
        obtain ⟨rfl, rfl, HG, HB⟩ := hrel
        have hb0 := HB.out.c0
        have hb1 := HB.out.c1
        go_wp2_with fail
        go_ret
        exact ⟨rfl, HG.out⟩
  | true =>
    rw [hm] at HOK
    rw [show deepest R xs = deepS xs by simp [deepest, hm, deepS_eq hm]]
    clear hm
    go_enter Try.func34, Try.ntmps34
    go_wp2_with fail
    go_loopw [3, 4] (fun d i wr => ∃ (k : Nat), (k : Int) ≤ n ∧ i = .int .i64 k ∧ d = .int .i64 (deepS (xs.take k)) ∧ Hid (w.grownBy wr none) ∧ Hid (Reads wr a n xs) ∧ Hid (BoxM wr w.heap.size R (.slice a n cap))) (fun _ i _ => n - (intOf i).toNat)
    case atStart => exact ⟨0, by omega, rfl, rfl, Lib.hid (g_alloc (grown_refl _) _), Lib.hid (HR.out.past _), HB⟩
    case round =>
      obtain ⟨k, hk, rfl, rfl, HG, HR, HB⟩ := hrel
      have hb0 := HB.out.c0
      have hb1 := HB.out.c1
      by_cases hlt : (k : Int) < n
      · obtain ⟨r, l, i, hx⟩ := get_of_lt HR.out.len (k := k) (by omega)
        obtain ⟨g, rfl, hg, d0, d1, d2⟩ := HR.out.at_ k _ hx
        have HX := Lib.hid hx; clear hx
        dsimp only at d0 d1 d2
        have HD := Lib.hid (show deepS (xs.take (k + 1)) = max (deepS (xs.take k)) l by rw [take_snoc HX.out]; simp [deepS])
        generalize deepS (xs.take k) = d at *
        go_wp2_with (first
          | (go_at_call 29; (with_reducible refine (HOK.out _ HR.out).mono ?_); rintro e w1 ⟨rfl, hg1⟩; have hb1' := (HB.out.on hg1).c1; obtain ⟨g_, hg_, -, d10, d11, d12⟩ := (HR.out.on hg1).at_ k _ HX.out; cases hg_; dsimp only at d10 d11 d12; have HG1 := Lib.hid hg1; clear hg1))
        go_roundw
        case rel => exact ⟨k + 1, by omega, by go_num, congrArg (Value.int IntKind.i64) ((max_if d l).trans HD.out.symm), Lib.hid (grown_trans HG.out HG1.out), Lib.hid (HR.out.on HG1.out), Lib.hid (HB.out.on HG1.out)⟩
        case measure => simp [intOf]; omega
      · obtain rfl : k = n := by omega
        have HD := Lib.hid (show deepS (xs.take k) = deepS xs by rw [← HR.out.len, List.take_length])
        rw [HD.out]
        go_wp2_with fail
        go_ret
        exact ⟨rfl, HG.out⟩

set_option maxHeartbeats 2000000 in
theorem specLeafOf_is (R r' l' i' : Int) (a : Option Addr) (n cap : Nat) (xs : List C3) (w : World) (hr : Reads w a n xs) (hn : n ≤ 1048576) :
    Calls Try.prog 32 #[.agg #[.int .i64 R, .slice a n cap], .agg #[.int .i64 r', .int .i64 l', .int .i64 i']] w fun e w' => e = .returned (.int .i64 (leafOf xs (r', l', i'))) ∧ w.grownBy w' none := by
  have hni : (n : Int) ≤ 1048576 := by omega
  have HN := Lib.hid hn; clear hn
  have HR := Lib.hid hr; clear hr
  have HM0 := Lib.hid ((boxM_new w 26 R (.slice a n cap)).on (World.grownBy_alloc _ (cellOf 30 r' l' i') _))
  have LB := Cell.laid_new (w.alloc (.cells #[.int .i64 R, .slice a n cap] 26)) 30 r' l' i'
  rw [World.size_alloc] at LB
  have HB0 := Lib.hid LB; clear LB
  go_enter Try.func32, Try.ntmps32
  go_wp2_with fail
  go_loopw [5] (fun i wr => ∃ (k : Nat), (k : Int) ≤ n ∧ i = .int .i64 k ∧ Hid (∀ (j : Nat) y, j < k → xs[j]? = some y → decide (y = (r', l', i')) = false) ∧ Hid (w.grownBy wr none) ∧ Hid (Reads wr a n xs) ∧ Hid (Cell.Laid wr (w.heap.size + 1) r' l' i') ∧ Hid (BoxM wr w.heap.size R (.slice a n cap))) (fun i _ => n - (intOf i).toNat)
  case atStart => exact ⟨0, by omega, rfl, Lib.hid (fun j y hj => by omega), Lib.hid (g_alloc (g_alloc (grown_refl _) _) _), Lib.hid ((HR.out.past _).past _), HB0, HM0⟩
  case round =>
    obtain ⟨k, hk, rfl, HF, HG, HR, HB, HM⟩ := hrel
    have hb1 := HM.out.c1
    by_cases hlt : (k : Int) < n
    · obtain ⟨r, l, i, hx⟩ := get_of_lt HR.out.len (k := k) (by omega)
      obtain ⟨g, rfl, hg, d0, d1, d2⟩ := HR.out.at_ k _ hx
      have HX := Lib.hid hx; clear hx
      obtain ⟨c0, c1, c2, -⟩ := HB.out
      dsimp only at d0 d1 d2
      rcases cases3 r l i r' l' i' with ⟨he, q0, q1, q2⟩ | ⟨hne, hq⟩
      · have HI := Lib.hid (show decide ((r, l, i) = (r', l', i')) = true from decide_eq_true he)
        clear he
        go_wp2_with fail
        go_quiet (fail)
        go_wp2_with fail
        go_ret
        have h : leafOf xs (r', l', i') = k := idx_hit HX.out HI.out HF.out
        rw [h]
        exact ⟨rfl, g_drewN HG.out _⟩
      · have HI := Lib.hid (show decide ((r, l, i) = (r', l', i')) = false from decide_eq_false hne)
        clear hne
        rcases hq with q0 | ⟨q0, q1⟩ | ⟨q0, q1, q2⟩
        all_goals
          go_wp2_with fail
          go_quiet (fail)
          go_wp2_with fail
          go_roundw
          case rel => exact ⟨k + 1, by omega, by go_num, Lib.hid (snoc_false HF.out HX.out HI.out), Lib.hid (g_drewN HG.out _), Lib.hid (HR.out.on (g_drewN (grown_refl _) _)), Lib.hid (HB.out.on (g_drewN (grown_refl _) _)), Lib.hid (HM.out.on (g_drewN (grown_refl _) _))⟩
          case measure => simp [intOf]; omega
    · go_wp2_with fail
      go_ret
      have h : leafOf xs (r', l', i') = -1 := idx_none (all_false HF.out (by rw [HR.out.len]; omega))
      rw [h]
      exact ⟨rfl, HG.out⟩
end Go.Proofs.Ytjhfjceieaanhaa.Mesh
