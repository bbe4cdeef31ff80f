/- The program's LeafOut; GreatestShare, LeastShare of a state, as contracts: what each answers; nothing that was there is written.
   Conditions: at most 2^20 leaves and numbers; ints. -/
import Derived.Test.YtfoilfgiablleaaStTrcP
import Derived.Test.YtfoilfgiablleaaStShare
import Derived.Test.YtfoilfgiablleaaStPlace
import Derived.Test.YtfoilfgiablleaaStI
set_option maxRecDepth 100000
namespace Go.Proofs.Ytfoilfgiablleaa.State
open Go.ChangeShapes Go.WideShapes Go.ChangeAt Go.RowKit Go.Joins Go.Proofs.Ytfoilfgiablleaa.Cell Go.Proofs.Ytfoilfgiablleaa.Mesh Go.Proofs.Ytfoilfgiablleaa.Law Go.Proofs.Ytfoilfgiablleaa.Ints Go.Deep
set_option linter.unusedVariables false

theorem cell_two0 (w : World) (x y : Value) (t : TypeId) : (w.alloc (.cells #[x, y] t)).cell? ⟨w.heap.size, 0, none⟩ = some x := cell_of_row _ _ 0 _ t (0, 0) (heap_alloc_new w _)
theorem cell_two1 (w : World) (x y : Value) (t : TypeId) : (w.alloc (.cells #[x, y] t)).cell? ⟨w.heap.size, 1, none⟩ = some y := cell_of_row _ _ 1 _ t (0, 0) (heap_alloc_new w _)
set_option maxHeartbeats 4000000 in
/-- Two parts by their ends. -/
theorem parts_is (x y : Int) (g : Nat) (w : World) (h0 : w.cell? ⟨g, 0, none⟩ = some (.int .i64 x)) (h1 : w.cell? ⟨g, 1, none⟩ = some (.int .i64 y)) (hx : 0 ≤ x ∧ x ≤ 10000000000) (hy : 0 ≤ y ∧ y ≤ 10000000000) :
    Calls Try.prog 71 #[.slice (some ⟨g, 0, none⟩) 2 2] w fun e w' => ∃ q, e = .returned (.slice (some ⟨q, 0, none⟩) 2 2) ∧ w'.cell? ⟨q, 0, none⟩ = some (.int .i64 x) ∧ w'.cell? ⟨q, 1, none⟩ = some (.int .i64 (y - x)) ∧ w.grownBy w' none := by
  have HC := Lib.hid (show ∀ u, w.grownBy u none → u.cell? ⟨g, 0, none⟩ = some (.int .i64 x) ∧ u.cell? ⟨g, 1, none⟩ = some (.int .i64 y) from fun u hu => ⟨hu.cell h0 (by simp), hu.cell h1 (by simp)⟩)
  have hmk : ∀ u : World, (Instr.makeSlice 27 (.int .i64 2) (.int .i64 2)).run Try.prog u = .ok (.slice (some ⟨u.heap.size, 0, none⟩) 2 2) (u.alloc (.cells #[.int .i64 0, .int .i64 0] 3)) := fun u => makeN_is u 2 (by decide)
  have HE := Lib.hid ((Held.nil w).box 3 #[.int .i64 0, .int .i64 0])
  clear h0 h1
  go_enter Try.func71, Try.ntmps71
  go_upto_region 4 with fail
  generalize w.alloc (.cells #[.int .i64 0, .int .i64 0] 3) = W0 at *
  go_loopw [4, 12] (fun s i wr => (i = .int .i64 0 ∧ s = .int .i64 0 ∧ Hid (Held w wr [boxG w.heap.size 3 #[.int .i64 0, .int .i64 0]])) ∨ (i = .int .i64 1 ∧ s = .int .i64 x ∧ Hid (Held w wr [boxG w.heap.size 3 #[.int .i64 x, .int .i64 0]])) ∨ (i = .int .i64 2 ∧ s = .int .i64 y ∧ Hid (Held w wr [boxG w.heap.size 3 #[.int .i64 x, .int .i64 (y - x)]]))) (fun _ i _ => 2 - (intOf i).toNat)
  case atStart => exact .inl ⟨rfl, rfl, HE⟩
  case round =>
    clear HE hmk
    rcases hrel with ⟨rfl, rfl, HF⟩ | ⟨rfl, rfl, HF⟩ | ⟨rfl, rfl, HF⟩
    · obtain ⟨c0, c1⟩ := HC.out _ HF.out.gr
      obtain ⟨d0, d1⟩ := box2 (HF.out.nth 0 rfl)
      have f0 := boxG.free (HF.out.nth 0 rfl) 0
      go_wp2_with fail
      exact ⟨.inr (.inl ⟨rfl, rfl, Lib.hid (by have := HF.out.put 0 rfl 0 (.int .i64 x); simpa using this)⟩), by simp [intOf]⟩
    · obtain ⟨c0, c1⟩ := HC.out _ HF.out.gr
      obtain ⟨d0, d1⟩ := box2 (HF.out.nth 0 rfl)
      have f0 := boxG.free (HF.out.nth 0 rfl) 1
      go_wp2_with fail
      exact ⟨.inr (.inr ⟨rfl, rfl, Lib.hid (by have := HF.out.put 0 rfl 1 (.int .i64 (y - x)); simpa using this)⟩), by simp [intOf]⟩
    · obtain ⟨d0, d1⟩ := box2 (HF.out.nth 0 rfl)
      go_wp2_with fail
      go_ret
      exact ⟨_, rfl, d0, d1, HF.out.gr⟩

set_option maxHeartbeats 4000000 in
theorem leafOut_is (t m r l : Int) (hr : -9223372036854775808 ≤ r ∧ r ≤ 9223372036854775807) (hl : -9223372036854775808 ≤ l ∧ l ≤ 9223372036854775807) (w : World) :
    Calls Try.prog 30 #[.int .i64 t, .int .i64 m, .int .i64 r, .int .i64 l] w fun e w' => e = .returned (.tuple #[.int .i64 (outR t m r l), .int .i64 (outL t m r l)]) ∧ w.grownBy w' none := by
  have no : outB t m r l = false → outR t m r l = 0 ∧ outL t m r l = 0 := fun h => by unfold outR outL; rw [h]; exact ⟨rfl, rfl⟩
  by_cases h1 : 1 ≤ m ∧ m ≤ 10000000 ∧ 0 ≤ t ∧ t ≤ 1000 * m
  case neg =>
    obtain ⟨e1, e2⟩ := no (decide_eq_false (by omega))
    rw [e1, e2]
    have H1 := Lib.hid (fun u => hold_is m t false (decide_eq_false h1).symm u)
    clear no h1 e1 e2
    go_enter Try.func30, Try.ntmps30
    go_wp2_with (go_at_call 70; ((with_reducible refine (H1.out _).mono ?_); rintro e w1 ⟨rfl, rfl⟩))
    exact bodyPost_ret_by (results_tmp2 (fn := Try.f30) rfl _ _ _) rfl ⟨rfl, Draw.grown_refl _ _⟩
  have H1 := Lib.hid (fun u => hold_is m t true (decide_eq_true h1).symm u)
  by_cases h2 : r < 0
  · obtain ⟨e1, e2⟩ := no (decide_eq_false (by omega))
    rw [e1, e2]
    clear no h1 e1 e2
    go_enter Try.func30, Try.ntmps30
    go_wp2_with (go_at_call 70; ((with_reducible refine (H1.out _).mono ?_); rintro e w1 ⟨rfl, rfl⟩))
    exact bodyPost_ret_by (results_tmp2 (fn := Try.f30) rfl _ _ _) rfl ⟨rfl, Draw.grown_refl _ _⟩
  by_cases h3 : l < 0
  · obtain ⟨e1, e2⟩ := no (decide_eq_false (by omega))
    rw [e1, e2]
    clear no h1 e1 e2
    go_enter Try.func30, Try.ntmps30
    go_wp2_with (go_at_call 70; ((with_reducible refine (H1.out _).mono ?_); rintro e w1 ⟨rfl, rfl⟩))
    exact bodyPost_ret_by (results_tmp2 (fn := Try.f30) rfl _ _ _) rfl ⟨rfl, Draw.grown_refl _ _⟩
  have hw : IntKind.i64.wrap (m - l) = m - l := IntWalk.i64_in _ (by omega)
  by_cases h4 : m - l < r
  · obtain ⟨e1, e2⟩ := no (decide_eq_false (by omega))
    rw [e1, e2]
    clear no h1 e1 e2
    go_enter Try.func30, Try.ntmps30
    go_wp2_with (go_at_call 70; ((with_reducible refine (H1.out _).mono ?_); rintro e w1 ⟨rfl, rfl⟩))
    exact bodyPost_ret_by (results_tmp2 (fn := Try.f30) rfl _ _ _) rfl ⟨rfl, Draw.grown_refl _ _⟩
  have ho : outB t m r l = true := decide_eq_true (by omega)
  rw [show outR t m r l = shareOf t r m from if_pos ho, show outL t m r l = shareOf t (r + l) m - shareOf t r m from if_pos ho]
  have HA := Lib.hid (fun u => share_is t r m u)
  have HB := Lib.hid (fun u => share_is t (r + l) m u)
  have hx := share_range t r m
  have hy := share_range t (r + l) m
  clear no ho
  have hw2 : IntKind.i64.wrap (r + l) = r + l := IntWalk.i64_in _ (by omega)
  generalize shareOf t r m = x at *
  generalize shareOf t (r + l) m = y at *
  clear h1
  go_enter Try.func30, Try.ntmps30
  go_upto_region 4 with (first
    | (go_at_call 70; ((with_reducible refine (H1.out _).mono ?_); rintro e w1 ⟨rfl, rfl⟩))
    | (go_at_call 32; ((with_reducible refine (HA.out _).mono ?_); rintro e w2 ⟨rfl, hg⟩; have HG2 := Lib.hid hg; clear hg))
    | (go_at_call 32; ((with_reducible refine (HB.out _).mono ?_); rintro e w3 ⟨rfl, hg⟩; have HG3 := Lib.hid (Cell.grown_trans HG2.out hg); clear hg))
    | (go_at_call 71; ((with_reducible refine (parts_is x y _ _ (cell_two0 _ _ _ _) (cell_two1 _ _ _ _) hx hy).mono ?_); rintro e w4 ⟨q, rfl, d0, d1, hg⟩; have HG4 := Lib.hid (Cell.grown_trans (Cell.grown_trans HG3.out (World.grownBy_alloc _ _ none)) hg); clear hg)))
  go_quiet (fail)
  go_wp2_with fail
  exact bodyPost_ret_by (results_tmp2 (fn := Try.f30) rfl _ _ _) rfl ⟨rfl, Cell.g_drewN HG4.out nq⟩

set_option maxHeartbeats 4000000 in
theorem greatest_is (R : Int) (a1 a2 a3 a4 : Option Addr) (n1 n2 n3 n4 c1 c2 c3 c4 : Nat) (xs : List C3) (ms ts bs : List Int) (w : World) (h : ReadsS w a1 a2 a3 a4 n1 n2 n3 n4 xs ms ts bs) (h1 : n1 ≤ 1048576) (h2 : n2 ≤ 1048576) (h3 : n3 ≤ 1048576) (h4 : n4 ≤ 1048576) :
    Calls Try.prog 27 #[.agg #[.int .i64 R, .slice a1 n1 c1, .slice a2 n2 c2, .slice a3 n3 c3, .slice a4 n4 c4]] w fun e w' => e = .returned (.int .i64 (greatG R xs ms ts bs)) ∧ w.grownBy w' none := by
  have hok : ∀ u, w.grownBy u none → Calls Try.prog 48 #[.agg #[.int .i64 R, .slice a1 n1 c1, .slice a2 n2 c2, .slice a3 n3 c3, .slice a4 n4 c4]] u fun e w' => e = .returned (.bool (stOk R xs ms ts bs)) ∧ u.grownBy w' none := fun u hu => stateOk_is R a1 a2 a3 a4 n1 n2 n3 n4 c1 c2 c3 c4 xs ms ts bs u (h.on hu) h1 h2 h3 h4
  have HOK := Lib.hid hok
  have HE := Lib.hid ((Held.nil w).box 29 #[.int .i64 R, .slice a1 n1 c1, .slice a2 n2 c2, .slice a3 n3 c3, .slice a4 n4 c4])
  clear hok
  unfold greatG
  cases hs : stOk R xs ms ts bs with
  | false =>
    rw [if_neg (fun hh => nomatch hh)]
    rw [hs] at HOK
    clear hs h h1 h2 h3 h4
    go_enter Try.func27, Try.ntmps27
    go_upto_region 1 with fail
    generalize w.alloc (.cells #[.int .i64 R, .slice a1 n1 c1, .slice a2 n2 c2, .slice a3 n3 c3, .slice a4 n4 c4] 29) = W0 at *
    obtain ⟨p0, p1, p2, p3, p4⟩ := box5 (HE.out.nth 0 rfl)
    go_wp2_with (go_at_call 48; ((with_reducible refine (HOK.out _ HE.out.gr).mono ?_); rintro e w1 ⟨rfl, hg⟩; have HE1 := Lib.hid (HE.out.on hg); clear hg))
    go_ret
    exact ⟨rfl, HE1.out.gr⟩
  | true =>
    rw [hs] at HOK
    rw [if_pos rfl]
    have hm := h.m.len
    obtain rfl : n3 = n2 := by rw [← h.t.len, (stOk_parts hs).2.1.2.1, hm]
    rw [hm]
    have hni : (n3 : Int) ≤ 1048576 := by omega
    have HPA := Lib.hid fun (k : Nat) (hk : k < n3) => pair_at hs (k := k) (by omega)
    have HGB := Lib.hid fun (k : Nat) (hk : k ≤ n3) => great_bounds hs k (by omega)
    have HRM := Lib.hid h.m; have HRT := Lib.hid h.t
    clear hs h h1 h2 h3 h4 hm
    go_enter Try.func27, Try.ntmps27
    go_upto_region 1 with fail
    generalize w.alloc (.cells #[.int .i64 R, .slice a1 n1 c1, .slice a2 n3 c2, .slice a3 n3 c3, .slice a4 n4 c4] 29) = W0 at *
    obtain ⟨p0, p1, p2, p3, p4⟩ := box5 (HE.out.nth 0 rfl)
    go_wp2_with (go_at_call 48; ((with_reducible refine (HOK.out _ HE.out.gr).mono ?_); rintro e w1 ⟨rfl, hg⟩; have HE1 := Lib.hid (HE.out.on hg); obtain ⟨q0, q1, q2, q3, q4⟩ := box5 (HE1.out.nth 0 rfl); clear hg))
    clear p0 p1 p2 p3 p4 q0 q1 q2 q3 q4 HE HOK
    go_loopw [3, 12] (fun s i wr => ∃ (k : Nat) (v : Int), (k : Int) ≤ n3 ∧ i = .int .i64 k ∧ s = .int .i64 v ∧ Hid (v = great ms ts k) ∧ Hid (Held w wr [boxG w.heap.size 29 #[.int .i64 R, .slice a1 n1 c1, .slice a2 n3 c2, .slice a3 n3 c3, .slice a4 n4 c4]])) (fun _ i _ => n3 - (intOf i).toNat)
    case atStart => exact ⟨0, 0, by omega, rfl, rfl, Lib.hid rfl, HE1⟩
    case round =>
      clear HE1
      obtain ⟨k, v, hk, rfl, rfl, HV, HF⟩ := hrel
      obtain ⟨b0, b1⟩ := HGB.out k (by omega)
      rw [← HV.out] at b0 b1
      obtain ⟨p0, p1, p2, p3, p4⟩ := box5 (HF.out.nth 0 rfl)
      by_cases hlt : (k : Int) < n3
      · have HK := Lib.hid (show k < n3 by omega)
        obtain ⟨m, t, hm, ht, em, et, m0, m1, t0, t1⟩ := HPA.out k HK.out
        obtain ⟨g2, o2, e, d0⟩ := (HRM.out.on HF.out.gr).at_ k _ hm
        obtain ⟨g3, o3, e', d1⟩ := (HRT.out.on HF.out.gr).at_ k _ ht
        obtain ⟨u, hu⟩ : ∃ u, upN t m = -u ∧ (if m ≤ 0 then 0 else -t / m) = u := ⟨if m ≤ 0 then 0 else -t / m, by unfold upN; split <;> rfl, rfl⟩
        obtain ⟨u0, u1, -⟩ := up_bounds m0 t0 t1
        have hn : great ms ts (k + 1) = max v (-u) := by rw [great, em, et, hu.1, HV.out]
        have HN := Lib.hid hn
        have HD := Lib.hid (fun W => Draw.floor_is (-t) m (by omega) (by omega) W)
        rw [hu.2] at HD
        rw [hu.1] at u0 u1
        have t2 : t ≤ 10000000000 := by omega
        clear hn hu em et hm ht t1
        subst e e'
        go_wp2_with (go_at_call 68; ((with_reducible refine (HD.out _).mono ?_); rintro e w2 ⟨rfl, hg⟩; have HF2 := Lib.hid (HF.out.on hg); clear hg))
        exact ⟨⟨k + 1, _, by omega, by go_num, rfl, Lib.hid (by rw [HN.out]; split <;> omega), HF2⟩, by simp [intOf]; omega⟩
      · obtain rfl : n3 = k := by omega
        go_wp2_with fail
        go_ret
        exact ⟨congrArg (fun z => Ending.returned (.int .i64 z)) HV.out, HF.out.gr⟩

set_option maxHeartbeats 4000000 in
theorem least_is (R : Int) (a1 a2 a3 a4 : Option Addr) (n1 n2 n3 n4 c1 c2 c3 c4 : Nat) (xs : List C3) (ms ts bs : List Int) (w : World) (h : ReadsS w a1 a2 a3 a4 n1 n2 n3 n4 xs ms ts bs) (h1 : n1 ≤ 1048576) (h2 : n2 ≤ 1048576) (h3 : n3 ≤ 1048576) (h4 : n4 ≤ 1048576) :
    Calls Try.prog 28 #[.agg #[.int .i64 R, .slice a1 n1 c1, .slice a2 n2 c2, .slice a3 n3 c3, .slice a4 n4 c4]] w fun e w' => e = .returned (.int .i64 (leastG R xs ms ts bs)) ∧ w.grownBy w' none := by
  have hok : ∀ u, w.grownBy u none → Calls Try.prog 69 #[.agg #[.int .i64 R, .slice a1 n1 c1, .slice a2 n2 c2, .slice a3 n3 c3, .slice a4 n4 c4]] u fun e w' => e = .returned (.int .i64 (if stOk R xs ms ts bs = true then ms.sum else 0)) ∧ u.grownBy w' none := fun u hu => totalMass_is R a1 a2 a3 a4 n1 n2 n3 n4 c1 c2 c3 c4 xs ms ts bs u (h.on hu) h1 h2 h3 h4
  have HOK := Lib.hid hok
  have HE := Lib.hid ((Held.nil w).box 29 #[.int .i64 R, .slice a1 n1 c1, .slice a2 n2 c2, .slice a3 n3 c3, .slice a4 n4 c4])
  clear hok
  by_cases hc : stOk R xs ms ts bs = true ∧ ms.sum ≠ 0
  case neg =>
    rw [show leastG R xs ms ts bs = 0 from if_neg hc]
    rw [show (if stOk R xs ms ts bs = true then ms.sum else 0) = 0 by
      split
      · rename_i g; exact Classical.byContradiction fun q => hc ⟨g, q⟩
      · rfl] at HOK
    clear hc h h1 h2 h3 h4
    go_enter Try.func28, Try.ntmps28
    go_upto_region 1 with fail
    generalize w.alloc (.cells #[.int .i64 R, .slice a1 n1 c1, .slice a2 n2 c2, .slice a3 n3 c3, .slice a4 n4 c4] 29) = W0 at *
    obtain ⟨p0, p1, p2, p3, p4⟩ := box5 (HE.out.nth 0 rfl)
    go_wp2_with (go_at_call 69; ((with_reducible refine (HOK.out _ HE.out.gr).mono ?_); rintro e w1 ⟨rfl, hg⟩; have HE1 := Lib.hid (HE.out.on hg); clear hg))
    go_ret
    exact ⟨rfl, HE1.out.gr⟩
  case pos =>
    rw [show leastG R xs ms ts bs = least ms ts ms.length from if_pos hc]
    rw [if_pos hc.1] at HOK
    obtain ⟨hs, hz⟩ := hc
    have hm := h.m.len
    obtain rfl : n3 = n2 := by rw [← h.t.len, (stOk_parts hs).2.1.2.1, hm]
    rw [hm]
    have hni : (n3 : Int) ≤ 1048576 := by omega
    have HPA := Lib.hid fun (k : Nat) (hk : k < n3) => pair_at hs (k := k) (by omega)
    have HGB := Lib.hid fun (k : Nat) (hk : k ≤ n3) => least_bounds hs k (by omega)
    have HRM := Lib.hid h.m; have HRT := Lib.hid h.t
    clear hs h h1 h2 h3 h4 hm
    generalize ms.sum = T at HOK hz
    go_enter Try.func28, Try.ntmps28
    go_upto_region 1 with fail
    generalize w.alloc (.cells #[.int .i64 R, .slice a1 n1 c1, .slice a2 n3 c2, .slice a3 n3 c3, .slice a4 n4 c4] 29) = W0 at *
    obtain ⟨p0, p1, p2, p3, p4⟩ := box5 (HE.out.nth 0 rfl)
    go_wp2_with (go_at_call 69; ((with_reducible refine (HOK.out _ HE.out.gr).mono ?_); rintro e w1 ⟨rfl, hg⟩; have HE1 := Lib.hid (HE.out.on hg); obtain ⟨q0, q1, q2, q3, q4⟩ := box5 (HE1.out.nth 0 rfl); clear hg))
    clear p0 p1 p2 p3 p4 q0 q1 q2 q3 q4 HE HOK hz
    go_loopw [3, 12] (fun s i wr => ∃ (k : Nat) (v : Int), (k : Int) ≤ n3 ∧ i = .int .i64 k ∧ s = .int .i64 v ∧ Hid (v = least ms ts k) ∧ Hid (Held w wr [boxG w.heap.size 29 #[.int .i64 R, .slice a1 n1 c1, .slice a2 n3 c2, .slice a3 n3 c3, .slice a4 n4 c4]])) (fun _ i _ => n3 - (intOf i).toNat)
    case atStart => exact ⟨0, 1000, by omega, rfl, rfl, Lib.hid rfl, HE1⟩
    case round =>
      clear HE1
      obtain ⟨k, v, hk, rfl, rfl, HV, HF⟩ := hrel
      obtain ⟨b0, b1⟩ := HGB.out k (by omega)
      rw [← HV.out] at b0 b1
      obtain ⟨p0, p1, p2, p3, p4⟩ := box5 (HF.out.nth 0 rfl)
      by_cases hlt : (k : Int) < n3
      · have HK := Lib.hid (show k < n3 by omega)
        obtain ⟨m, t, hm, ht, em, et, m0, m1, t0, t1⟩ := HPA.out k HK.out
        obtain ⟨g2, o2, e, d0⟩ := (HRM.out.on HF.out.gr).at_ k _ hm
        obtain ⟨g3, o3, e', d1⟩ := (HRT.out.on HF.out.gr).at_ k _ ht
        have t2 : t ≤ 10000000000 := by omega
        have hn : least ms ts (k + 1) = if 0 < m then min v (t / m) else v := by rw [least, em, et, HV.out]
        clear em et hm ht
        subst e e'
        by_cases hp : 0 < m
        · rw [if_pos hp] at hn
          have HD := Lib.hid (fun W => Draw.floor_is t m (by omega) (by omega) W)
          obtain ⟨l0, l1⟩ := low_bounds hp t0 t1
          rw [if_neg (by omega)] at HD
          generalize t / m = q at *
          have HN := Lib.hid hn
          clear hn t1
          go_wp2_with (go_at_call 68; ((with_reducible refine (HD.out _).mono ?_); rintro e w2 ⟨rfl, hg⟩; have HF2 := Lib.hid (HF.out.on hg); clear hg))
          all_goals exact ⟨⟨_, _, _, _, ⟨k + 1, by have := HK.out; omega, by go_num, _, rfl, Lib.hid (by rw [HN.out]; omega)⟩, rfl, rfl, rfl, rfl⟩, by simp [intOf]; omega⟩
        · rw [if_neg hp] at hn
          have HN := Lib.hid hn
          clear hn t1
          go_wp2_with fail
          exact ⟨⟨k + 1, _, by omega, by go_num, rfl, Lib.hid HN.out.symm, HF⟩, by simp [intOf]; omega⟩
      · obtain rfl : n3 = k := by omega
        go_wp2_with fail
        go_ret
        exact ⟨congrArg (fun z => Ending.returned (.int .i64 z)) HV.out, HF.out.gr⟩
end Go.Proofs.Ytfoilfgiablleaa.State
