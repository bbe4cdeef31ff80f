/- Steps: IsActive and ActiveFaces of the program and of the reference model, as contracts: what each answers; the slice is the call's own.
   Conditions: at most 2^20 leaves. -/
import Derived.Test.YtnaofcbbdlhjpaaStStepP
import Derived.Test.YtnaofcbbdlhjpaaStFluxA
import Derived.Test.YtnaofcbbdlhjpaaMFaceSF
import Derived.Test.YtnaofcbbdlhjpaaMOkS
set_option maxRecDepth 100000
namespace Go.Proofs.Ytnaofcbbdlhjpaa.State
open Go.ChangeShapes Go.WideShapes Go.ChangeAt Go.RowKit Go.Joins Go.Proofs.Ytnaofcbbdlhjpaa.Cell Go.Proofs.Ytnaofcbbdlhjpaa.Mesh Go.Proofs.Ytnaofcbbdlhjpaa.Law Go.Proofs.Ytnaofcbbdlhjpaa.Ints Go.Deep

theorem width_cases (l : Int) : (widthOf l = 0 ∧ (l < 0 ∨ 4 < l)) ∨ (0 ≤ l ∧ l ≤ 4 ∧ (widthOf l = 1 ∨ widthOf l = 2 ∨ widthOf l = 4 ∨ widthOf l = 8 ∨ widthOf l = 16)) := by
  by_cases h : 0 ≤ l ∧ l ≤ 4
  · right
    refine ⟨h.1, h.2, ?_⟩
    rcases lvl h.1 h.2 with rfl | rfl | rfl | rfl | rfl <;> decide
  · left
    exact ⟨if_neg h, by omega⟩

set_option maxHeartbeats 4000000 in
theorem isActive_is (t l : Int) (w : World) :
    Calls Try.prog 28 #[.int .i64 t, .int .i64 l] w fun e w' => e = .returned (.bool (actN t l)) ∧ w' = w := by
  have HW := Lib.hid fun u => width_is l u
  obtain ⟨wd, hwd⟩ : ∃ wd, widthOf l = wd := ⟨_, rfl⟩
  have hc := width_cases l
  rw [hwd] at HW hc
  by_cases h0 : 0 ≤ t
  · rcases hc with ⟨rfl, hl⟩ | ⟨l0, l1, hw⟩
    · rw [show actN t l = false from decide_eq_false (by omega)]
      clear hwd
      go_enter Try.func28, Try.ntmps28
      go_wp2_with (go_at_call 62; ((with_reducible refine (HW.out _).mono ?_); rintro e w1 ⟨rfl, rfl⟩))
      go_ret
      exact ⟨rfl, rfl⟩
    · by_cases hm : t % wd = 0
      · rw [show actN t l = true from decide_eq_true ⟨h0, l0, l1, by rw [hwd]; exact hm⟩]
        clear hwd
        rcases hw with rfl | rfl | rfl | rfl | rfl
        all_goals
          have hq : t.tmod _ = 0 := (Int.tmod_eq_emod_of_nonneg (b := _) h0).trans hm
          go_enter Try.func28, Try.ntmps28
          go_wp2_with (go_at_call 62; ((with_reducible refine (HW.out _).mono ?_); rintro e w1 ⟨rfl, rfl⟩))
          go_ret
          exact ⟨by first | (exfalso; omega) | simp [*], rfl⟩
      · rw [show actN t l = false from decide_eq_false (by rw [hwd]; omega)]
        clear hwd
        rcases hw with rfl | rfl | rfl | rfl | rfl
        all_goals
          have hq : ¬ t.tmod _ = 0 := fun q => hm ((Int.tmod_eq_emod_of_nonneg (b := _) h0).symm.trans q)
          go_enter Try.func28, Try.ntmps28
          go_wp2_with (go_at_call 62; ((with_reducible refine (HW.out _).mono ?_); rintro e w1 ⟨rfl, rfl⟩))
          go_ret
          exact ⟨by first | (exfalso; omega) | simp [*], rfl⟩
  · rw [show actN t l = false from decide_eq_false (by omega)]
    clear hwd hc
    go_enter Try.func28, Try.ntmps28
    go_wp2_with (go_at_call 62; ((with_reducible refine (HW.out _).mono ?_); rintro e w1 ⟨rfl, rfl⟩))
    go_ret
    exact ⟨rfl, rfl⟩
set_option maxHeartbeats 4000000 in
theorem specIsActive_is (t l : Int) (w : World) :
    Calls Try.prog 30 #[.int .i64 t, .int .i64 l] w fun e w' => e = .returned (.bool (actN t l)) ∧ w' = w := by
  have HW := Lib.hid fun u => specWidth_is l u
  obtain ⟨wd, hwd⟩ : ∃ wd, widthOf l = wd := ⟨_, rfl⟩
  have hc := width_cases l
  rw [hwd] at HW hc
  by_cases h0 : 0 ≤ t
  · rcases hc with ⟨rfl, hl⟩ | ⟨l0, l1, hw⟩
    · rw [show actN t l = false from decide_eq_false (by omega)]
      clear hwd
      go_enter Try.func30, Try.ntmps30
      go_wp2_with (go_at_call 65; ((with_reducible refine (HW.out _).mono ?_); rintro e w1 ⟨rfl, rfl⟩))
      go_ret
      exact ⟨rfl, rfl⟩
    · by_cases hm : t % wd = 0
      · rw [show actN t l = true from decide_eq_true ⟨h0, l0, l1, by rw [hwd]; exact hm⟩]
        clear hwd
        rcases hw with rfl | rfl | rfl | rfl | rfl
        all_goals
          have hq : t.tmod _ = 0 := (Int.tmod_eq_emod_of_nonneg (b := _) h0).trans hm
          go_enter Try.func30, Try.ntmps30
          go_wp2_with (go_at_call 65; ((with_reducible refine (HW.out _).mono ?_); rintro e w1 ⟨rfl, rfl⟩))
          go_ret
          exact ⟨by first | (exfalso; omega) | simp [*], rfl⟩
      · rw [show actN t l = false from decide_eq_false (by rw [hwd]; omega)]
        clear hwd
        rcases hw with rfl | rfl | rfl | rfl | rfl
        all_goals
          have hq : ¬ t.tmod _ = 0 := fun q => hm ((Int.tmod_eq_emod_of_nonneg (b := _) h0).symm.trans q)
          go_enter Try.func30, Try.ntmps30
          go_wp2_with (go_at_call 65; ((with_reducible refine (HW.out _).mono ?_); rintro e w1 ⟨rfl, rfl⟩))
          go_ret
          exact ⟨by first | (exfalso; omega) | simp [*], rfl⟩
  · rw [show actN t l = false from decide_eq_false (by omega)]
    clear hwd hc
    go_enter Try.func30, Try.ntmps30
    go_wp2_with (go_at_call 65; ((with_reducible refine (HW.out _).mono ?_); rintro e w1 ⟨rfl, rfl⟩))
    go_ret
    exact ⟨rfl, rfl⟩

theorem actF_snoc {xs : List C3} {t : Int} {k : Nat} (h : actN t (faceAt xs k) = true) : vals (toI (actF xs t k)) ++ [Value.int .i64 (k : Int)] = vals (toI (actF xs t (k + 1))) := by
  rw [actF_succ, if_pos h, toI_snoc]; simp [vals]
theorem actF_same {xs : List C3} {t : Int} {k : Nat} (h : actN t (faceAt xs k) = false) : actF xs t (k + 1) = actF xs t k := by
  rw [actF_succ, if_neg (by rw [h]; simp)]
theorem actF_len1 {xs : List C3} {t : Int} {k : Nat} (h : actN t (faceAt xs k) = true) : (actF xs t (k + 1)).length = (actF xs t k).length + 1 := by
  rw [actF_succ, if_pos h]; simp

set_option maxHeartbeats 8000000 in
theorem activeFaces_is (R t : Int) (a : Option Addr) (n cap : Nat) (xs : List C3) (w : World) (hr : Reads w a n xs) (hn : n ≤ 1048576) :
    Calls Try.prog 27 #[.agg #[.int .i64 R, .slice a n cap], .int .i64 t] w (GivesI (actG R xs t) w) := by
  have HOK := Lib.hid fun (u : World) (hu : w.grownBy u none) => meshOk_is R a n cap xs u (hr.on hu) hn
  have HE := Lib.hid ((Held.nil w).box 26 #[.int .i64 R, .slice a n cap])
  have HEM := Lib.hid fun (W : World) => own_emptyI W W.heap.size (Nat.le_refl _)
  unfold actG
  cases hs : meshOk R xs with
  | false =>
    rw [hs] at HOK
    clear hs
    go_enter Try.func27, Try.ntmps27
    go_upto_region 1 with fail
    generalize w.alloc (.cells #[.int .i64 R, .slice a n cap] 26) = W0 at *
    have p0 := boxG.cell (HE.out.nth 0 rfl) 0
    have p1 := boxG.cell (HE.out.nth 0 rfl) 1
    go_wp2_with (go_at_call 60; ((with_reducible refine (HOK.out _ HE.out.gr).mono ?_); rintro e w1 ⟨rfl, hg⟩; have HE1 := Lib.hid (HE.out.on hg); clear hg))
    go_ret
    exact ⟨none, 0, rfl, nil_own _ _ _ _, HE1.out.gr⟩
  | true =>
    rw [hs] at HOK
    rw [if_pos rfl]
    obtain ⟨-, hx0, hx1⟩ := mesh_parts hs
    have hl := hr.len
    obtain ⟨p, rfl⟩ : ∃ p, n = p + 1 := ⟨n - 1, by omega⟩
    have hpi : (p : Int) ≤ 128 := by omega
    have HFX := Lib.hid fun (k : Nat) (hk : k + 1 < p + 1) (u : World) (hu : w.grownBy u none) => faceLevel_is k a (p + 1) cap xs (xs[k]'(by omega)) (xs[k + 1]'(by omega)) u (hr.on hu) hn (List.getElem?_eq_getElem (by omega)) (List.getElem?_eq_getElem (by omega))
    have HPL := Lib.hid (show xs.length - 1 = p by omega)
    have HFL := Lib.hid fun k => actF_len xs t k
    obtain ⟨i0, hi0, hz0, hz1, hz2⟩ := info_parts infoInt
    clear hs hr hx0 hx1 hl hn
    go_enter Try.func27, Try.ntmps27
    go_upto_region 1 with fail
    generalize w.alloc (.cells #[.int .i64 R, .slice a (p + 1) cap] 26) = W0 at *
    have p0 := boxG.cell (HE.out.nth 0 rfl) 0
    have p1 := boxG.cell (HE.out.nth 0 rfl) 1
    go_upto_region 4 with (go_at_call 60; ((with_reducible refine (HOK.out _ HE.out.gr).mono ?_); rintro e w1 ⟨rfl, hg⟩; have HE1 := Lib.hid (HE.out.on hg); clear hg))
    have HE2 := Lib.hid (HE1.out.row (World.grownBy_alloc w1 (.cells #[] 3) none) (HEM.out w1))
    clear p0 p1 HE HE1 HEM HOK
    obtain ⟨B, hB⟩ : ∃ B, B = w1.heap.size := ⟨_, rfl⟩
    rw [← hB] at HE2 ⊢
    clear hB
    generalize w1.alloc (.cells #[] 3) = W2 at *
    have p1 := boxG.cell (HE2.out.nth 0 rfl) 1
    go_wp2_with fail
    clear p1
    go_loopw [5, 15] (fun v i wr => ∃ (k m : Nat) (q : Option Addr) (d : Nat), (k : Int) ≤ p ∧ i = .int .i64 k ∧ v = .slice q m d ∧ Hid (m = (actF xs t k).length) ∧ Hid (Held w wr [boxG w.heap.size 26 #[.int .i64 R, .slice a (p + 1) cap], rowG 3 1 (.slice q m d) m (vals (toI (actF xs t k)))])) (fun _ i _ => p - (intOf i).toNat)
    case atStart => exact ⟨0, 0, _, _, by omega, rfl, rfl, Lib.hid rfl, HE2⟩
    case round =>
      clear HE2
      obtain ⟨k, m, q, d, hk, rfl, rfl, HM, HF⟩ := hrel
      have p1 := boxG.cell (HF.out.nth 0 rfl) 1
      by_cases hlt : (k : Int) < p
      · have HK := Lib.hid (show k < p by omega)
        have HC := Lib.hid (HFX.out k (by omega))
        have HA := Lib.hid fun u => isActive_is t (faceAt xs k) u
        have hm : (m : Int) ≤ k := by have := HM.out; have := HFL.out k; omega
        cases ha : actN t (faceAt xs k) with
        | true =>
          have HT := Lib.hid (actF_snoc ha)
          have HT1 := Lib.hid (actF_len1 ha)
          rw [ha] at HA
          clear ha
          go_wp2_with (first
            | (go_at_call 61; ((with_reducible refine (HC.out _ HF.out.gr).mono ?_); rintro e w4 ⟨rfl, hg⟩; have HF2 := Lib.hid (HF.out.on hg); clear hg))
            | (go_at_call 28; ((with_reducible refine (HA.out _).mono ?_); rintro e w5 ⟨rfl, rfl⟩))
            | (at_builtin; refine wpList_append_own_at _ rfl _ _ 27 rfl 0 3 i0 (.int .i64 0) 1 8 Try.underlying27 hi0 hz0 hz1 hz2 rfl (by decide) _ m (vals (toI (actF xs t k))) rfl (own_on (HF2.out.nth 1 rfl) (World.grownBy_alloc _ _ none)) ⟨_, 0, none⟩ 1 1 [.int .i64 k] rfl rfl (cell_one_new _ _ _) (fun x hx => by simp at hx; subst hx; rfl) (by have := HK.out; unfold maxLen; omega) (by have := HK.out; omega) (Nat.zero_le _) ?_; intro v' w6 hown hg _ hat; rw [HT.out] at hown; obtain ⟨q', d', rfl⟩ := own_shapeAny hown; have HE6 := Lib.hid ((HF2.out.on (World.grownBy_alloc _ _ none)).appended 1 rfl hown hg hat); clear hown hg hat))
          exact ⟨⟨k + 1, m + 1, q', d', by omega, by go_num, rfl, Lib.hid (by rw [HT1.out, HM.out]), HE6⟩, by simp [intOf]; omega⟩
        | false =>
          have HT := Lib.hid (actF_same ha)
          rw [ha] at HA
          clear ha
          go_wp2_with (first
            | (go_at_call 61; ((with_reducible refine (HC.out _ HF.out.gr).mono ?_); rintro e w4 ⟨rfl, hg⟩; have HF2 := Lib.hid (HF.out.on hg); clear hg))
            | (go_at_call 28; ((with_reducible refine (HA.out _).mono ?_); rintro e w5 ⟨rfl, rfl⟩)))
          exact ⟨⟨k + 1, m, q, d, by omega, by go_num, rfl, Lib.hid (by rw [HT.out]; exact HM.out), by rw [HT.out]; exact HF2⟩, by simp [intOf]; omega⟩
      · obtain rfl : p = k := by omega
        go_wp2_with fail
        go_ret
        have hr := HF.out.own 1 rfl
        rw [HPL.out]
        obtain rfl : m = (toI (actF xs t p)).length := by rw [toI_len]; exact HM.out
        exact ⟨q, d, rfl, hr, HF.out.gr⟩

set_option maxHeartbeats 8000000 in
theorem specActiveFaces_is (R t : Int) (a : Option Addr) (n cap : Nat) (xs : List C3) (w : World) (hr : Reads w a n xs) (hn : n ≤ 1048576) :
    Calls Try.prog 39 #[.agg #[.int .i64 R, .slice a n cap], .int .i64 t] w (GivesI (actG R xs t) w) := by
  have HOK := Lib.hid fun (u : World) (hu : w.grownBy u none) => specMeshOk_is R a n cap xs u (hr.on hu) hn
  have HE := Lib.hid ((Held.nil w).box 26 #[.int .i64 R, .slice a n cap])
  have HEM := Lib.hid fun (W : World) => own_emptyI W W.heap.size (Nat.le_refl _)
  unfold actG
  cases hs : meshOk R xs with
  | false =>
    rw [hs] at HOK
    have hni : (n : Int) ≤ 1048576 := by omega
    clear hs hr hn
    go_enter Try.func39, Try.ntmps39
    go_upto_region 1 with fail
    generalize w.alloc (.cells #[.int .i64 R, .slice a n cap] 26) = W0 at *
    go_upto_region 2 with fail
    have HE2 := Lib.hid (HE.out.row (World.grownBy_alloc W0 (.cells #[] 3) none) (HEM.out W0))
    obtain ⟨B, hB⟩ : ∃ B, B = W0.heap.size := ⟨_, rfl⟩
    rw [← hB] at HE2 ⊢
    clear hB HE HEM
    generalize W0.alloc (.cells #[] 3) = W2 at *
    go_wp2_with fail
    go_loopw [5, 6] (fun v i wr => v = .slice (some ⟨B, 0, none⟩) 0 0 ∧ i = .int .i64 0 ∧ Hid (Held w wr [boxG w.heap.size 26 #[.int .i64 R, .slice a n cap], rowG 3 1 (.slice (some ⟨B, 0, none⟩) 0 0) 0 []])) (fun _ _ _ => 0)
    case atStart => exact ⟨rfl, rfl, HE2⟩
    case round =>
      clear HE2
      obtain ⟨rfl, rfl, HF⟩ := hrel
      have p0 := boxG.cell (HF.out.nth 0 rfl) 0
      have p1 := boxG.cell (HF.out.nth 0 rfl) 1
      by_cases hlt : (1 : Int) < n
      · go_wp2_with (go_at_call 63; ((with_reducible refine (HOK.out _ HF.out.gr).mono ?_); rintro e w1 ⟨rfl, hg⟩; have HE1 := Lib.hid (HF.out.on hg); clear hg))
        go_ret
        exact ⟨_, _, rfl, HE1.out.own 1 rfl, HE1.out.gr⟩
      · go_wp2_with fail
        go_ret
        exact ⟨_, _, rfl, HF.out.own 1 rfl, HF.out.gr⟩
  | true =>
    rw [hs] at HOK
    rw [if_pos rfl]
    obtain ⟨-, hx0, hx1⟩ := mesh_parts hs
    have hl := hr.len
    obtain ⟨p, rfl⟩ : ∃ p, n = p + 1 := ⟨n - 1, by omega⟩
    have hpi : (p : Int) ≤ 128 := by omega
    have HFX := Lib.hid fun (k : Nat) (hk : k + 1 < p + 1) (u : World) (hu : w.grownBy u none) => specFace_is R k a (p + 1) cap xs (xs[k]'(by omega)) (xs[k + 1]'(by omega)) u (hr.on hu) hn (List.getElem?_eq_getElem (by omega)) (List.getElem?_eq_getElem (by omega))
    have HPL := Lib.hid (show xs.length - 1 = p by omega)
    have HFL := Lib.hid fun k => actF_len xs t k
    obtain ⟨i0, hi0, hz0, hz1, hz2⟩ := info_parts infoInt
    clear hs hr hx0 hx1 hl hn
    go_enter Try.func39, Try.ntmps39
    go_upto_region 1 with fail
    generalize w.alloc (.cells #[.int .i64 R, .slice a (p + 1) cap] 26) = W0 at *
    go_upto_region 2 with fail
    have HE2 := Lib.hid (HE.out.row (World.grownBy_alloc W0 (.cells #[] 3) none) (HEM.out W0))
    obtain ⟨B, hB⟩ : ∃ B, B = W0.heap.size := ⟨_, rfl⟩
    rw [← hB] at HE2 ⊢
    clear hB HE HEM
    generalize W0.alloc (.cells #[] 3) = W2 at *
    go_wp2_with fail
    go_loopw [5, 6] (fun v i wr => ∃ (k m : Nat) (q : Option Addr) (d : Nat), (k : Int) ≤ p ∧ i = .int .i64 k ∧ v = .slice q m d ∧ Hid (m = (actF xs t k).length) ∧ Hid (Held w wr [boxG w.heap.size 26 #[.int .i64 R, .slice a (p + 1) cap], rowG 3 1 (.slice q m d) m (vals (toI (actF xs t k)))])) (fun _ i _ => p - (intOf i).toNat)
    case atStart => exact ⟨0, 0, _, _, by omega, rfl, rfl, Lib.hid rfl, HE2⟩
    case round =>
      clear HE2
      obtain ⟨k, m, q, d, hk, rfl, rfl, HM, HF⟩ := hrel
      have p0 := boxG.cell (HF.out.nth 0 rfl) 0
      have p1 := boxG.cell (HF.out.nth 0 rfl) 1
      by_cases hlt : (k : Int) < p
      · have HK := Lib.hid (show k < p by omega)
        have HC := Lib.hid (HFX.out k (by omega))
        have HA := Lib.hid fun u => specIsActive_is t (faceAt xs k) u
        have hm : (m : Int) ≤ k := by have := HM.out; have := HFL.out k; omega
        cases ha : actN t (faceAt xs k) with
        | true =>
          have HT := Lib.hid (actF_snoc ha)
          have HT1 := Lib.hid (actF_len1 ha)
          rw [ha] at HA
          clear ha
          go_wp2_with (first
            | (go_at_call 63; ((with_reducible refine (HOK.out _ HF.out.gr).mono ?_); rintro e w3 ⟨rfl, hg⟩; have HF1 := Lib.hid (HF.out.on hg); have q0 := boxG.cell (HF1.out.nth 0 rfl) 0; have q1 := boxG.cell (HF1.out.nth 0 rfl) 1; clear hg))
            | (go_at_call 64; ((with_reducible refine (HC.out _ HF1.out.gr).mono ?_); rintro e w4 ⟨rfl, hg⟩; have HF2 := Lib.hid (HF1.out.on hg); clear hg))
            | (go_at_call 30; ((with_reducible refine (HA.out _).mono ?_); rintro e w5 ⟨rfl, rfl⟩))
            | (at_builtin; refine wpList_append_own_at _ rfl _ _ 27 rfl 0 3 i0 (.int .i64 0) 1 8 Try.underlying27 hi0 hz0 hz1 hz2 rfl (by decide) _ m (vals (toI (actF xs t k))) rfl (own_on (HF2.out.nth 1 rfl) (World.grownBy_alloc _ _ none)) ⟨_, 0, none⟩ 1 1 [.int .i64 k] rfl rfl (cell_one_new _ _ _) (fun x hx => by simp at hx; subst hx; rfl) (by have := HK.out; unfold maxLen; omega) (by have := HK.out; omega) (Nat.zero_le _) ?_; intro v' w6 hown hg _ hat; rw [HT.out] at hown; obtain ⟨q', d', rfl⟩ := own_shapeAny hown; have HE6 := Lib.hid ((HF2.out.on (World.grownBy_alloc _ _ none)).appended 1 rfl hown hg hat); clear hown hg hat))
          exact ⟨⟨k + 1, m + 1, q', d', by omega, by go_num, rfl, Lib.hid (by rw [HT1.out, HM.out]), HE6⟩, by simp [intOf]; omega⟩
        | false =>
          have HT := Lib.hid (actF_same ha)
          rw [ha] at HA
          clear ha
          go_wp2_with (first
            | (go_at_call 63; ((with_reducible refine (HOK.out _ HF.out.gr).mono ?_); rintro e w3 ⟨rfl, hg⟩; have HF1 := Lib.hid (HF.out.on hg); have q0 := boxG.cell (HF1.out.nth 0 rfl) 0; have q1 := boxG.cell (HF1.out.nth 0 rfl) 1; clear hg))
            | (go_at_call 64; ((with_reducible refine (HC.out _ HF1.out.gr).mono ?_); rintro e w4 ⟨rfl, hg⟩; have HF2 := Lib.hid (HF1.out.on hg); clear hg))
            | (go_at_call 30; ((with_reducible refine (HA.out _).mono ?_); rintro e w5 ⟨rfl, rfl⟩)))
          exact ⟨⟨k + 1, m, q, d, by omega, by go_num, rfl, Lib.hid (by rw [HT.out]; exact HM.out), by rw [HT.out]; exact HF2⟩, by simp [intOf]; omega⟩
      · obtain rfl : p = k := by omega
        go_wp2_with fail
        go_ret
        have hr := HF.out.own 1 rfl
        rw [HPL.out]
        obtain rfl : m = (toI (actF xs t p)).length := by rw [toI_len]; exact HM.out
        exact ⟨q, d, rfl, hr, HF.out.gr⟩
end Go.Proofs.Ytnaofcbbdlhjpaa.State
