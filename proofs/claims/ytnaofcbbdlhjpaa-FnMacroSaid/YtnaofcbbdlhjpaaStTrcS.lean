/- The reference model's LeafOut, l10Pair; GreatestShare, LeastShare, ShareAt of a state, as contracts: what each answers; nothing that was there is written.
   Conditions: at most 2^20 leaves and numbers; ints. -/
import Derived.Test.YtnaofcbbdlhjpaaStTrcP
import Derived.Test.YtnaofcbbdlhjpaaStShare
import Derived.Test.YtnaofcbbdlhjpaaStOkS
import Derived.BigRegion
import Derived.BigQuiet
set_option maxRecDepth 100000
namespace Go.Proofs.Ytnaofcbbdlhjpaa.State
open Go.ChangeShapes Go.WideShapes Go.ChangeAt Go.RowKit Go.Joins Go.Proofs.Ytnaofcbbdlhjpaa.Cell Go.Proofs.Ytnaofcbbdlhjpaa.Mesh Go.Proofs.Ytnaofcbbdlhjpaa.Law Go.Proofs.Ytnaofcbbdlhjpaa.Ints Go.Deep
set_option linter.unusedVariables false

set_option maxHeartbeats 4000000 in
theorem specLeafOut_is (t m r l : Int) (w : World) :
    Calls Try.prog 98 #[.int .i64 t, .int .i64 m, .int .i64 r, .int .i64 l] w fun e w' => e = .returned (.tuple #[.int .i64 (outR t m r l), .int .i64 (outL t m r l)]) ∧ w' = w := by
  have no : outB t m r l = false → outR t m r l = 0 ∧ outL t m r l = 0 := fun h => by unfold outR outL; rw [h]; exact ⟨rfl, rfl⟩
  by_cases h1 : 1 ≤ m ∧ m ≤ 10000000
  case neg =>
    obtain ⟨e1, e2⟩ := no (decide_eq_false (by omega))
    rw [e1, e2]
    have H1 := Lib.hid (fun u => inR_is m 1 10000000 u false (decide_eq_false h1).symm)
    clear no h1 e1 e2
    go_enter Try.func98, Try.ntmps98
    go_wp2_with (go_at_call 54; ((with_reducible refine (H1.out _).mono ?_); rintro e w1 ⟨rfl, rfl⟩))
    exact bodyPost_ret_by (results_tmp2 (fn := Try.f98) rfl _ _ _) rfl ⟨rfl, rfl⟩
  have H1 := Lib.hid (fun u => inR_is m 1 10000000 u true (decide_eq_true h1).symm)
  have hw : IntKind.i64.wrap (1000 * m) = 1000 * m := IntWalk.i64_in _ (by omega)
  by_cases h2 : 0 ≤ t ∧ t ≤ 1000 * m
  case neg =>
    obtain ⟨e1, e2⟩ := no (decide_eq_false (by omega))
    rw [e1, e2]
    have H2 := Lib.hid (fun u => inR_is t 0 (1000 * m) u false (decide_eq_false h2).symm)
    clear no h1 h2 e1 e2
    go_enter Try.func98, Try.ntmps98
    go_wp2_with (go_at_call 54; (first | ((with_reducible refine (H1.out _).mono ?_); rintro e w1 ⟨rfl, rfl⟩) | ((with_reducible refine (H2.out _).mono ?_); rintro e w1 ⟨rfl, rfl⟩)))
    exact bodyPost_ret_by (results_tmp2 (fn := Try.f98) rfl _ _ _) rfl ⟨rfl, rfl⟩
  have H2 := Lib.hid (fun u => inR_is t 0 (1000 * m) u true (decide_eq_true h2).symm)
  by_cases h3 : 0 ≤ r ∧ r ≤ m
  case neg =>
    obtain ⟨e1, e2⟩ := no (decide_eq_false (by omega))
    rw [e1, e2]
    have H3 := Lib.hid (fun u => inR_is r 0 m u false (decide_eq_false h3).symm)
    clear no h1 h2 h3 e1 e2
    go_enter Try.func98, Try.ntmps98
    go_wp2_with (go_at_call 54; (first | ((with_reducible refine (H1.out _).mono ?_); rintro e w1 ⟨rfl, rfl⟩) | ((with_reducible refine (H2.out _).mono ?_); rintro e w1 ⟨rfl, rfl⟩) | ((with_reducible refine (H3.out _).mono ?_); rintro e w1 ⟨rfl, rfl⟩)))
    exact bodyPost_ret_by (results_tmp2 (fn := Try.f98) rfl _ _ _) rfl ⟨rfl, rfl⟩
  have H3 := Lib.hid (fun u => inR_is r 0 m u true (decide_eq_true h3).symm)
  have hw2 : IntKind.i64.wrap (m - r) = m - r := IntWalk.i64_in _ (by omega)
  by_cases h4 : 0 ≤ l ∧ l ≤ m - r
  case neg =>
    obtain ⟨e1, e2⟩ := no (decide_eq_false (by omega))
    rw [e1, e2]
    have H4 := Lib.hid (fun u => inR_is l 0 (m - r) u false (decide_eq_false h4).symm)
    clear no h1 h2 h3 h4 e1 e2
    go_enter Try.func98, Try.ntmps98
    go_wp2_with (go_at_call 54; (first | ((with_reducible refine (H1.out _).mono ?_); rintro e w1 ⟨rfl, rfl⟩) | ((with_reducible refine (H2.out _).mono ?_); rintro e w1 ⟨rfl, rfl⟩) | ((with_reducible refine (H3.out _).mono ?_); rintro e w1 ⟨rfl, rfl⟩) | ((with_reducible refine (H4.out _).mono ?_); rintro e w1 ⟨rfl, rfl⟩)))
    exact bodyPost_ret_by (results_tmp2 (fn := Try.f98) rfl _ _ _) rfl ⟨rfl, rfl⟩
  have H4 := Lib.hid (fun u => inR_is l 0 (m - r) u true (decide_eq_true h4).symm)
  have ho : outB t m r l = true := decide_eq_true (by omega)
  rw [show outR t m r l = shareOf t r m from if_pos ho, show outL t m r l = shareOf t (r + l) m - shareOf t r m from if_pos ho]
  have HA := Lib.hid (fun u => specShare_is t r m u)
  have HB := Lib.hid (fun u => specShare_is t (r + l) m u)
  have hx := share_range t r m
  have hy := share_range t (r + l) m
  have hw3 : IntKind.i64.wrap (r + l) = r + l := IntWalk.i64_in _ (by omega)
  clear no ho
  generalize shareOf t r m = x at *
  generalize shareOf t (r + l) m = y at *
  have hw4 : IntKind.i64.wrap (y - x) = y - x := IntWalk.i64_in _ (by omega)
  clear h1 h2 h3 h4 hx hy
  go_enter Try.func98, Try.ntmps98
  go_wp2_with (first
    | (go_at_call 54; (first | ((with_reducible refine (H1.out _).mono ?_); rintro e w1 ⟨rfl, rfl⟩) | ((with_reducible refine (H2.out _).mono ?_); rintro e w1 ⟨rfl, rfl⟩) | ((with_reducible refine (H3.out _).mono ?_); rintro e w1 ⟨rfl, rfl⟩) | ((with_reducible refine (H4.out _).mono ?_); rintro e w1 ⟨rfl, rfl⟩)))
    | (go_at_call 115; (first | ((with_reducible refine (HA.out _).mono ?_); rintro e w1 ⟨rfl, rfl⟩) | ((with_reducible refine (HB.out _).mono ?_); rintro e w1 ⟨rfl, rfl⟩))))
  exact bodyPost_ret_by (results_tmp2 (fn := Try.f98) rfl _ _ _) rfl ⟨rfl, rfl⟩

set_option maxHeartbeats 8000000 in
theorem specGreatest_is (R : Int) (a1 a2 a3 a4 : Option Addr) (n1 n2 n3 n4 c1 c2 c3 c4 : Nat) (xs : List C3) (ms ts bs : List Int) (w : World) (h : ReadsS w a1 a2 a3 a4 n1 n2 n3 n4 xs ms ts bs) (h1 : n1 ≤ 1048576) (h2 : n2 ≤ 1048576) (h3 : n3 ≤ 1048576) (h4 : n4 ≤ 1048576) :
    Calls Try.prog 21 #[.agg #[.int .i64 R, .slice a1 n1 c1, .slice a2 n2 c2, .slice a3 n3 c3, .slice a4 n4 c4]] w fun e w' => e = .returned (.int .i64 (greatG R xs ms ts bs)) ∧ w.grownBy w' none := by
  have hok : ∀ u, w.grownBy u none → Calls Try.prog 16 #[.agg #[.int .i64 R, .slice a1 n1 c1, .slice a2 n2 c2, .slice a3 n3 c3, .slice a4 n4 c4]] u fun e w' => e = .returned (.bool (stOk R xs ms ts bs)) ∧ u.grownBy w' none := fun u hu => specStateOk_is R a1 a2 a3 a4 n1 n2 n3 n4 c1 c2 c3 c4 xs ms ts bs u (h.on hu) h1 h2 h3 h4
  have HOK := Lib.hid hok
  have HE := Lib.hid ((Held.nil w).box 29 #[.int .i64 R, .slice a1 n1 c1, .slice a2 n2 c2, .slice a3 n3 c3, .slice a4 n4 c4])
  have hni : (n2 : Int) ≤ 1048576 := by omega
  clear hok
  unfold greatG
  cases hs : stOk R xs ms ts bs with
  | false =>
    rw [if_neg (fun hh => nomatch hh)]
    rw [hs] at HOK
    clear hs h h1 h2 h3 h4
    go_enter Try.func21, Try.ntmps21
    go_upto_region 1 with fail
    generalize w.alloc (.cells #[.int .i64 R, .slice a1 n1 c1, .slice a2 n2 c2, .slice a3 n3 c3, .slice a4 n4 c4] 29) = W0 at *
    go_wp2_with fail
    go_loopw [3, 4] (fun s i wr => s = .int .i64 0 ∧ i = .int .i64 0 ∧ Hid (Held w wr [boxG w.heap.size 29 #[.int .i64 R, .slice a1 n1 c1, .slice a2 n2 c2, .slice a3 n3 c3, .slice a4 n4 c4]])) (fun _ _ _ => 0)
    case atStart => exact ⟨rfl, rfl, HE⟩
    case round =>
      clear HE
      obtain ⟨rfl, rfl, HF⟩ := hrel
      obtain ⟨p0, p1, p2, p3, p4⟩ := box5 (HF.out.nth 0 rfl)
      by_cases hz : (0 : Int) < n2
      · go_wp2_with (go_at_call 16; ((with_reducible refine (HOK.out _ HF.out.gr).mono ?_); rintro e w1 ⟨rfl, hg⟩; have HE1 := Lib.hid (HF.out.on hg); clear hg))
        go_ret
        exact ⟨rfl, HE1.out.gr⟩
      · go_wp2_with fail
        go_ret
        exact ⟨rfl, HF.out.gr⟩
  | true =>
    rw [hs] at HOK
    rw [if_pos rfl]
    have hm := h.m.len
    obtain rfl : n3 = n2 := by rw [← h.t.len, (stOk_parts hs).2.1.2.1, hm]
    rw [hm]
    have HPA := Lib.hid fun (k : Nat) (hk : k < n3) => pair_at hs (k := k) (by omega)
    have HGB := Lib.hid fun (k : Nat) (hk : k ≤ n3) => great_bounds hs k (by omega)
    have HRM := Lib.hid h.m; have HRT := Lib.hid h.t
    clear hs h h1 h2 h3 h4 hm
    go_enter Try.func21, Try.ntmps21
    go_upto_region 1 with fail
    generalize w.alloc (.cells #[.int .i64 R, .slice a1 n1 c1, .slice a2 n3 c2, .slice a3 n3 c3, .slice a4 n4 c4] 29) = W0 at *
    go_wp2_with fail
    go_loopw [3, 4] (fun s i wr => ∃ (k : Nat) (v : Int), (k : Int) ≤ n3 ∧ i = .int .i64 k ∧ s = .int .i64 v ∧ Hid (v = great ms ts k) ∧ Hid (Held w wr [boxG w.heap.size 29 #[.int .i64 R, .slice a1 n1 c1, .slice a2 n3 c2, .slice a3 n3 c3, .slice a4 n4 c4]])) (fun _ i _ => n3 - (intOf i).toNat)
    case atStart => exact ⟨0, 0, by omega, rfl, rfl, Lib.hid rfl, HE⟩
    case round =>
      clear HE
      obtain ⟨k, v, hk, rfl, rfl, HV, HF⟩ := hrel
      obtain ⟨b0, b1⟩ := HGB.out k (by omega)
      rw [← HV.out] at b0 b1
      obtain ⟨p0, p1, p2, p3, p4⟩ := box5 (HF.out.nth 0 rfl)
      by_cases hlt : (k : Int) < n3
      · have HK := Lib.hid (show k < n3 by omega)
        obtain ⟨m, t, hm, ht, em, et, m0, m1, t0, t1⟩ := HPA.out k HK.out
        have hn : great ms ts (k + 1) = max v (upN t m) := by rw [great, em, et, HV.out]
        go_upto_region 5 with (go_at_call 16; ((with_reducible refine (HOK.out _ HF.out.gr).mono ?_); rintro e w1 ⟨rfl, hg⟩; have HF1 := Lib.hid (HF.out.on hg); clear hg))
        clear p0 p1 p2 p3 p4 HF
        obtain ⟨p0, p1, p2, p3, p4⟩ := box5 (HF1.out.nth 0 rfl)
        obtain ⟨g2, o2, e, d0⟩ := (HRM.out.on HF1.out.gr).at_ k _ hm
        obtain ⟨g3, o3, e', d1⟩ := (HRT.out.on HF1.out.gr).at_ k _ ht
        subst e e'
        by_cases hp : 0 < m
        · have hq : (t + m - 1).tdiv m = upN t m := by
            rw [show upN t m = -(-t / m) from if_neg (by omega), ← ceil_eq hp, Int.tdiv_eq_ediv_of_nonneg (by omega)]
          obtain ⟨u0, u1, -⟩ := up_bounds m0 t0 t1
          have t2 : t ≤ 10000000000 := by omega
          generalize upN t m = q at *
          have hm0 : ¬ m = 0 := by omega
          have w1' : IntKind.i64.wrap (t + m) = t + m := IntWalk.i64_in _ (by omega)
          have w2' : IntKind.i64.wrap (t + m - 1) = t + m - 1 := IntWalk.i64_in _ (by omega)
          have w3' : IntKind.i64.wrap ((t + m - 1).tdiv m) = q := by rw [hq]; exact IntWalk.i64_in _ (by omega)
          have HN := Lib.hid hn
          clear hn hm ht em et t1 hq
          go_upto_region 6 with fail
          go_region
          have HF2 := Lib.hid (HF1.out.on (Mesh.gr_drew (Cell.grown_refl _)))
          go_wp2_with fail
          exact ⟨⟨k + 1, _, by omega, by go_num, rfl, Lib.hid (by rw [HN.out]; split <;> omega), HF2⟩, by simp [intOf]; omega⟩
        · have hu : upN t m = 0 := if_pos (by omega)
          rw [hu] at hn
          have HN := Lib.hid hn
          clear hn hm ht em et t1 hu
          go_wp2_with fail
          exact ⟨⟨k + 1, v, by omega, by go_num, rfl, Lib.hid (by rw [HN.out]; omega), HF1⟩, by simp [intOf]; omega⟩
      · obtain rfl : n3 = k := by omega
        go_wp2_with fail
        go_ret
        exact ⟨congrArg (fun z => Ending.returned (.int .i64 z)) HV.out, HF.out.gr⟩

set_option maxHeartbeats 8000000 in
theorem specLeast_is (R : Int) (a1 a2 a3 a4 : Option Addr) (n1 n2 n3 n4 c1 c2 c3 c4 : Nat) (xs : List C3) (ms ts bs : List Int) (w : World) (h : ReadsS w a1 a2 a3 a4 n1 n2 n3 n4 xs ms ts bs) (h1 : n1 ≤ 1048576) (h2 : n2 ≤ 1048576) (h3 : n3 ≤ 1048576) (h4 : n4 ≤ 1048576) :
    Calls Try.prog 22 #[.agg #[.int .i64 R, .slice a1 n1 c1, .slice a2 n2 c2, .slice a3 n3 c3, .slice a4 n4 c4]] w fun e w' => e = .returned (.int .i64 (leastG R xs ms ts bs)) ∧ w.grownBy w' none := by
  have hok : ∀ u, w.grownBy u none → Calls Try.prog 16 #[.agg #[.int .i64 R, .slice a1 n1 c1, .slice a2 n2 c2, .slice a3 n3 c3, .slice a4 n4 c4]] u fun e w' => e = .returned (.bool (stOk R xs ms ts bs)) ∧ u.grownBy w' none := fun u hu => specStateOk_is R a1 a2 a3 a4 n1 n2 n3 n4 c1 c2 c3 c4 xs ms ts bs u (h.on hu) h1 h2 h3 h4
  have HOK := Lib.hid hok
  have HE := Lib.hid ((Held.nil w).box 29 #[.int .i64 R, .slice a1 n1 c1, .slice a2 n2 c2, .slice a3 n3 c3, .slice a4 n4 c4])
  have hni : (n2 : Int) ≤ 1048576 := by omega
  clear hok
  cases hs : stOk R xs ms ts bs with
  | false =>
    rw [show leastG R xs ms ts bs = 0 from if_neg (fun hh => by rw [hs] at hh; exact nomatch hh.1)]
    rw [hs] at HOK
    clear hs h h1 h2 h3 h4
    go_enter Try.func22, Try.ntmps22
    go_upto_region 1 with fail
    generalize w.alloc (.cells #[.int .i64 R, .slice a1 n1 c1, .slice a2 n2 c2, .slice a3 n3 c3, .slice a4 n4 c4] 29) = W0 at *
    go_wp2_with fail
    go_loopw [3, 4] (fun s i wr => s = .int .i64 (-1) ∧ i = .int .i64 0 ∧ Hid (Held w wr [boxG w.heap.size 29 #[.int .i64 R, .slice a1 n1 c1, .slice a2 n2 c2, .slice a3 n3 c3, .slice a4 n4 c4]])) (fun _ _ _ => 0)
    case atStart => exact ⟨rfl, rfl, HE⟩
    case round =>
      clear HE
      obtain ⟨rfl, rfl, HF⟩ := hrel
      obtain ⟨p0, p1, p2, p3, p4⟩ := box5 (HF.out.nth 0 rfl)
      by_cases hz : (0 : Int) < n2
      · go_wp2_with (go_at_call 16; ((with_reducible refine (HOK.out _ HF.out.gr).mono ?_); rintro e w1 ⟨rfl, hg⟩; have HE1 := Lib.hid (HF.out.on hg); clear hg))
        go_ret
        exact ⟨rfl, HE1.out.gr⟩
      · go_wp2_with fail
        go_ret
        exact ⟨rfl, HF.out.gr⟩
  | true =>
    rw [hs] at HOK
    rw [← leastM_max hs]
    have hm := h.m.len
    obtain rfl : n3 = n2 := by rw [← h.t.len, (stOk_parts hs).2.1.2.1, hm]
    rw [hm]
    have HPA := Lib.hid fun (k : Nat) (hk : k < n3) => pair_at hs (k := k) (by omega)
    have HGB := Lib.hid fun (k : Nat) (hk : k ≤ n3) => (show -1 ≤ leastM ms ts k ∧ leastM ms ts k ≤ 1000 from by
      obtain ⟨l0, l1⟩ := least_bounds hs k (by omega)
      rcases leastM_is hs k (by omega) with ⟨q1, q2, q3⟩ | ⟨q1, q2, q3⟩ <;> omega)
    have HRM := Lib.hid h.m; have HRT := Lib.hid h.t
    clear hs h h1 h2 h3 h4 hm
    go_enter Try.func22, Try.ntmps22
    go_upto_region 1 with fail
    generalize w.alloc (.cells #[.int .i64 R, .slice a1 n1 c1, .slice a2 n3 c2, .slice a3 n3 c3, .slice a4 n4 c4] 29) = W0 at *
    go_wp2_with fail
    go_loopw [3, 4] (fun s i wr => ∃ (k : Nat) (v : Int), (k : Int) ≤ n3 ∧ i = .int .i64 k ∧ s = .int .i64 v ∧ Hid (v = leastM ms ts k) ∧ Hid (Held w wr [boxG w.heap.size 29 #[.int .i64 R, .slice a1 n1 c1, .slice a2 n3 c2, .slice a3 n3 c3, .slice a4 n4 c4]])) (fun _ i _ => n3 - (intOf i).toNat)
    case atStart => exact ⟨0, -1, by omega, rfl, rfl, Lib.hid rfl, HE⟩
    case round =>
      clear HE
      obtain ⟨k, v, hk, rfl, rfl, HV, HF⟩ := hrel
      obtain ⟨b0, b1⟩ := HGB.out k (by omega)
      rw [← HV.out] at b0 b1
      obtain ⟨p0, p1, p2, p3, p4⟩ := box5 (HF.out.nth 0 rfl)
      by_cases hlt : (k : Int) < n3
      · have HK := Lib.hid (show k < n3 by omega)
        obtain ⟨m, t, hm, ht, em, et, m0, m1, t0, t1⟩ := HPA.out k HK.out
        have hn : leastM ms ts (k + 1) = if 0 < m ∧ (v < 0 ∨ t / m < v) then t / m else v := by rw [leastM, em, et, HV.out]
        have t2 : t ≤ 10000000000 := by omega
        go_upto_region 5 with (go_at_call 16; ((with_reducible refine (HOK.out _ HF.out.gr).mono ?_); rintro e w1 ⟨rfl, hg⟩; have HF1 := Lib.hid (HF.out.on hg); clear hg))
        clear p0 p1 p2 p3 p4 HF
        obtain ⟨p0, p1, p2, p3, p4⟩ := box5 (HF1.out.nth 0 rfl)
        obtain ⟨g2, o2, e, d0⟩ := (HRM.out.on HF1.out.gr).at_ k _ hm
        obtain ⟨g3, o3, e', d1⟩ := (HRT.out.on HF1.out.gr).at_ k _ ht
        subst e e'
        have HMM := Lib.hid hm; have HTT := Lib.hid ht
        clear hm ht em et
        by_cases hp : 0 < m
        · have hq : t.tdiv m = t / m := Int.tdiv_eq_ediv_of_nonneg t0
          obtain ⟨l0, l1⟩ := low_bounds hp t0 t1
          have hm0 : ¬ m = 0 := by omega
          have w3' : IntKind.i64.wrap (t.tdiv m) = t / m := by rw [hq]; exact IntWalk.i64_in _ (by omega)
          have dp : decide (0 < m) = true := decide_eq_true hp
          clear t1 hq
          generalize t / m = q at *
          by_cases hv : v < 0
          · rw [if_pos ⟨hp, .inl hv⟩] at hn
            have HN := Lib.hid hn
            have dv : decide (v < 0) = true := decide_eq_true hv
            clear hn
            go_quiet (fail)
            go_upto_region 6 with fail
            have HF2 := Lib.hid (HF1.out.on (Cell.g_drewN (Cell.grown_refl _) nq))
            clear p0 p1 p2 p3 p4 d0 d1 HF1
            generalize w1.drewN nq = W4 at *
            obtain ⟨p0, p1, p2, p3, p4⟩ := box5 (HF2.out.nth 0 rfl)
            obtain ⟨g2', o2', e, d0⟩ := (HRM.out.on HF2.out.gr).at_ k _ HMM.out
            cases e
            obtain ⟨g3', o3', e, d1⟩ := (HRT.out.on HF2.out.gr).at_ k _ HTT.out
            cases e
            go_quiet (fail)
            skip
            have HF3 := Lib.hid (HF2.out.on (Cell.g_drewN (Cell.grown_refl _) nq))
            go_wp2_with fail
            exact ⟨⟨k + 1, _, by omega, by go_num, rfl, Lib.hid HN.out.symm, HF3⟩, by simp [intOf]; omega⟩
          · have dv : decide (v < 0) = false := decide_eq_false hv
            by_cases hqv : q < v
            · rw [if_pos ⟨hp, .inr hqv⟩] at hn
              have HN := Lib.hid hn
              have dq : decide (q < v) = true := decide_eq_true hqv
              clear hn
              go_quiet (fail)
              go_upto_region 6 with fail
              have HF2 := Lib.hid (HF1.out.on (Cell.g_drewN (Cell.grown_refl _) nq))
              clear p0 p1 p2 p3 p4 d0 d1 HF1
              generalize w1.drewN nq = W4 at *
              obtain ⟨p0, p1, p2, p3, p4⟩ := box5 (HF2.out.nth 0 rfl)
              obtain ⟨g2', o2', e, d0⟩ := (HRM.out.on HF2.out.gr).at_ k _ HMM.out
              cases e
              obtain ⟨g3', o3', e, d1⟩ := (HRT.out.on HF2.out.gr).at_ k _ HTT.out
              cases e
              go_quiet (fail)
              skip
              have HF3 := Lib.hid (HF2.out.on (Cell.g_drewN (Cell.grown_refl _) nq))
              go_wp2_with fail
              exact ⟨⟨k + 1, _, by omega, by go_num, rfl, Lib.hid HN.out.symm, HF3⟩, by simp [intOf]; omega⟩
            · rw [if_neg (fun hh => by rcases hh.2 with g | g <;> omega)] at hn
              have HN := Lib.hid hn
              have dq : decide (q < v) = false := decide_eq_false hqv
              clear hn
              go_quiet (fail)
              have HF2 := Lib.hid (HF1.out.on (Cell.g_drewN (Cell.grown_refl _) nq))
              go_wp2_with fail
              exact ⟨⟨k + 1, _, by omega, by go_num, rfl, Lib.hid HN.out.symm, HF2⟩, by simp [intOf]; omega⟩
        · rw [if_neg (fun hh => hp hh.1)] at hn
          have HN := Lib.hid hn
          have dp : decide (0 < m) = false := decide_eq_false hp
          clear hn t1
          go_quiet (fail)
          have HF2 := Lib.hid (HF1.out.on (Cell.g_drewN (Cell.grown_refl _) nq))
          go_wp2_with fail
          exact ⟨⟨k + 1, _, by omega, by go_num, rfl, Lib.hid HN.out.symm, HF2⟩, by simp [intOf]; omega⟩
      · obtain rfl : n3 = k := by omega
        go_wp2_with fail
        all_goals go_ret
        all_goals exact ⟨congrArg (fun z => Ending.returned (.int .i64 z)) (by have := HV.out; omega), HF.out.gr⟩
end Go.Proofs.Ytnaofcbbdlhjpaa.State
