/- Rain and losses: the reference model's l14Part, l14Rain, l14Soak, RainOn, Soak, DryOut, as contracts: what each answers, in memory of the call's own; nothing that was there is written (written by wip/tools/stsrcs.py).
   Conditions: at most 2^20 leaves and numbers. -/
import Derived.Test.YtmbmeajneankpaaStSrcP
import Derived.Test.YtmbmeajneankpaaStLedI
set_option maxRecDepth 100000
namespace Go.Proofs.Ytmbmeajneankpaa.State
open Go.ChangeShapes Go.WideShapes Go.ChangeAt Go.RowKit Go.Joins Go.Proofs.Ytmbmeajneankpaa.Cell Go.Proofs.Ytmbmeajneankpaa.Mesh Go.Proofs.Ytmbmeajneankpaa.Law Go.Proofs.Ytmbmeajneankpaa.Ints Go.Proofs.Ytmbmeajneankpaa.Draws Go.Deep
set_option linter.unusedVariables false

set_option maxHeartbeats 2000000 in
theorem specPart_is (a l P : Int) (ha : amtB a = true) (hP : a * widthOf l / 16 = P) (w : World) : Calls Try.prog 56 #[.int .i64 a, .int .i64 l] w fun e w' => e = .returned (.int .i64 P) ∧ w' = w := by
  obtain ⟨a0, a1⟩ := of_decide_eq_true ha
  obtain ⟨w0, w1⟩ := width_range l
  have p0 : 0 ≤ a * widthOf l := Int.mul_nonneg a0 w0
  have p1 : a * widthOf l ≤ a * 16 := Int.mul_le_mul_of_nonneg_left w1 a0
  have hw : IntKind.i64.wrap (a * widthOf l) = a * widthOf l := IntWalk.i64_in _ (by omega)
  have hq : (a * widthOf l).tdiv 16 = P := by rw [Int.tdiv_eq_ediv_of_nonneg p0]; exact hP
  have hw2 : IntKind.i64.wrap P = P := IntWalk.i64_in _ (by omega)
  clear hP
  have HW := Lib.hid (fun u => specWidth_is l u)
  generalize widthOf l = V at *
  clear w0 w1 p0 p1 a0 a1
  go_enter Try.func56, Try.ntmps56
  go_wp2_with (go_at_call 80; ((with_reducible refine (HW.out _).mono ?_); rintro e w1 ⟨rfl, rfl⟩))
  go_ret
  exact ⟨rfl, rfl⟩

set_option maxHeartbeats 16000000 in
theorem specRain_is (R : Int) (g1 g2 g3 g4 n1 n2 n3 n4 c1 c2 c3 c4 : Nat) (xs : List C3) (ms ts bs : List Int) (a : Int) (w : World) (h : ReadsS w (some ⟨g1, 0, none⟩) (some ⟨g2, 0, none⟩) (some ⟨g3, 0, none⟩) (some ⟨g4, 0, none⟩) n1 n2 n3 n4 xs ms ts bs) (h1 : n1 ≤ 1048576) (h2 : n2 ≤ 1048576) (h3 : n3 ≤ 1048576) (h4 : n4 ≤ 1048576) (hs : stOk R xs ms ts bs = true) (hb : amtB a = true) :
    Calls Try.prog 46 #[.agg #[.int .i64 R, .slice (some ⟨g1, 0, none⟩) n1 c1, .slice (some ⟨g2, 0, none⟩) n2 c2, .slice (some ⟨g3, 0, none⟩) n3 c3, .slice (some ⟨g4, 0, none⟩) n4 c4], .int .i64 a] w (GivesSL R n1 n2 n3 n4 xs (rainM a xs ms) ts bs (rainL a xs ms) 0 0 0 w) := by
  obtain ⟨z1, z2, z3, z4⟩ := st_sizes hs
  have hn1 := h.l.len; have hn2 := h.m.len; have hn3 := h.t.len
  obtain rfl : n2 = n1 := by omega
  obtain rfl : n3 = n2 := by omega
  obtain ⟨n, hn⟩ : ∃ n, n = n3 := ⟨_, rfl⟩
  subst hn
  have HCP := Lib.hid (show ∀ u, w.grownBy u none → Calls Try.prog 45 #[.agg #[.int .i64 R, .slice (some ⟨g1, 0, none⟩) n c1, .slice (some ⟨g2, 0, none⟩) n c2, .slice (some ⟨g3, 0, none⟩) n c3, .slice (some ⟨g4, 0, none⟩) n4 c4]] u (GivesS R n n n n4 xs ms ts bs u) from fun u hu => specStCopy_is R g1 g2 g3 g4 n n n n4 c1 c2 c3 c4 xs ms ts bs u (h.on hu) h1 h2 h3 h4)
  have he := (((Held.nil w).box 29 #[.int .i64 R, .slice (some ⟨g1, 0, none⟩) n c1, .slice (some ⟨g2, 0, none⟩) n c2, .slice (some ⟨g3, 0, none⟩) n c3, .slice (some ⟨g4, 0, none⟩) n4 c4]).box 29 #[.int .i64 0, .slice none 0 0, .slice none 0 0, .slice none 0 0, .slice none 0 0]).box 33 #[.int .i64 0, .int .i64 0, .int .i64 0, .int .i64 0]
  simp only [World.size_alloc] at he
  have HE := Lib.hid he; clear he
  have HRS := Lib.hid fun k => rain_small hb xs k
  have HLF := Lib.hid fun k => leaf_range hs k
  have HPF := Lib.hid fun k => (part_facts hb xs k).2
  have HFB := Lib.hid (show fits a xs ms = decide (ms.sum + rainN a xs n ≤ 10000000) by rw [fits, hn2])
  have HMM : rainM a xs ms = if fits a xs ms = true then wetM a xs ms else ms := rfl
  have HLL : rainL a xs ms = if fits a xs ms = true then rainN a xs n else 0 := by rw [rainL, hn2]
  rw [HMM, HLL]
  have HWS := Lib.hid (show (gen n (wetAt a xs ms)).sum = ms.sum + rainN a xs n by
    have := wet_sum (a := a) (xs := xs) (ms := ms)
    rw [wetM, hn2] at this
    exact this)
  have HWM : wetM a xs ms = gen n (wetAt a xs ms) := by rw [wetM, hn2]
  rw [HWM]
  obtain ⟨RM, hRM⟩ : ∃ z, z = (if fits a xs ms = true then gen n (wetAt a xs ms) else ms) := ⟨_, rfl⟩
  obtain ⟨RL, hRL⟩ : ∃ z, z = (if fits a xs ms = true then rainN a xs n else 0) := ⟨_, rfl⟩
  rw [← hRM, ← hRL]
  have HAN := Lib.hid (And.intro hRM hRL)
  clear hRM hRL
  have HMS := Lib.hid (show ms = gen n (msAt ms) by rw [← hn2, gen_ms])
  have HRL := Lib.hid h.l
  have HSB := Lib.hid (show 0 ≤ ms.sum ∧ ms.sum ≤ 10000000 from ⟨by
    have := (sum_bounds fun x hx => mass_bounds (stOk_parts hs).2.2.1 (stOk_parts hs).2.1.2.1 (m := x) hx).1
    exact this, (stOk_parts hs).2.2.2.2⟩)
  have H1 := Lib.hid h1
  have HK0 := Lib.hid (show 0 < n by omega)
  have HSP := Lib.hid (show ∀ (k : Nat) (l : Int), lvAt xs k = l → ∀ u, Calls Try.prog 56 #[.int .i64 a, .int .i64 l] u fun e w' => e = .returned (.int .i64 (partN a xs k)) ∧ w' = u from fun k l hl u => specPart_is a l _ hb (by rw [← hl]; rfl) u)
  have hni : (n : Int) ≤ 128 := by omega
  clear h h1 h2 h3 h4 hs hb z1 z2 z3 z4 hn1 hn2 hn3 HMM HLL HWM
  go_enter Try.func46, Try.ntmps46
  go_upto_region 1 with fail
  generalize ((w.alloc (.cells #[.int .i64 R, .slice (some ⟨g1, 0, none⟩) n c1, .slice (some ⟨g2, 0, none⟩) n c2, .slice (some ⟨g3, 0, none⟩) n c3, .slice (some ⟨g4, 0, none⟩) n4 c4] 29)).alloc (.cells #[.int .i64 0, .slice none 0 0, .slice none 0 0, .slice none 0 0, .slice none 0 0] 29)).alloc (.cells #[.int .i64 0, .int .i64 0, .int .i64 0, .int .i64 0] 33) = W0 at *
  obtain ⟨p0, p1, p2, p3, p4⟩ := box5 (HE.out.nth 0 rfl)
  go_upto_region 2 with (go_at_call 45; ((with_reducible refine (HCP.out _ HE.out.gr).mono ?_); rintro e w1 ⟨q1, d1, q2, d2, q3, d3, q4, d4, rfl, ho, hg⟩; have HE1 := Lib.hid (State.Held.state HE.out hg ho); clear ho hg))
  obtain ⟨k2, y2, rfl, -, -, -⟩ := own_cellI (OwnS.m (HE1.out.nth 3 rfl)) HK0.out
  obtain ⟨k3, y3, rfl, -, -, -⟩ := own_cellI (OwnS.t (HE1.out.nth 3 rfl)) HK0.out
  have HE2 := Lib.hid (HE1.out.box 29 #[.int .i64 R, .slice q1 n d1, .slice (some ⟨k2, 0, none⟩) n d2, .slice (some ⟨k3, 0, none⟩) n d3, .slice q4 n4 d4])
  clear p0 p1 p2 p3 p4 HE HE1
  obtain ⟨B, hB⟩ : ∃ B, B = w1.heap.size := ⟨_, rfl⟩
  rw [← hB] at HE2 ⊢
  clear hB
  generalize w1.alloc (.cells #[.int .i64 R, .slice q1 n d1, .slice (some ⟨k2, 0, none⟩) n d2, .slice (some ⟨k3, 0, none⟩) n d3, .slice q4 n4 d4] 29) = W2 at *
  have HE3 : Hid (Held w W2 [boxG w.heap.size 29 #[.int .i64 R, .slice (some ⟨g1, 0, none⟩) n c1, .slice (some ⟨g2, 0, none⟩) n c2, .slice (some ⟨g3, 0, none⟩) n c3, .slice (some ⟨g4, 0, none⟩) n4 c4], boxG (w.heap.size + 1) 29 #[.int .i64 0, .slice none 0 0, .slice none 0 0, .slice none 0 0, .slice none 0 0], boxG (w.heap.size + 2) 33 #[.int .i64 0, .int .i64 0, .int .i64 0, .int .i64 0], stateG (.slice q1 n d1) (.slice (some ⟨k2, 0, none⟩) n d2) (.slice (some ⟨k3, 0, none⟩) n d3) (.slice q4 n4 d4) n n n n4 xs (gen n (upto 0 (wetAt a xs ms) (msAt ms))) ts bs, boxG B 29 #[.int .i64 R, .slice q1 n d1, .slice (some ⟨k2, 0, none⟩) n d2, .slice (some ⟨k3, 0, none⟩) n d3, .slice q4 n4 d4]]) := by
    have q := HE2.out
    rw [upto_zero, ← HMS.out]
    exact Lib.hid q
  clear HE2
  go_wp2_with fail
  go_loopw [7, 8] (fun c i wr => ∃ (j : Nat) (N : Int), (j : Int) ≤ n ∧ i = .int .i64 j ∧ c = .int .i64 N ∧ Hid (N = rainN a xs j) ∧ Hid (Held w wr [boxG w.heap.size 29 #[.int .i64 R, .slice (some ⟨g1, 0, none⟩) n c1, .slice (some ⟨g2, 0, none⟩) n c2, .slice (some ⟨g3, 0, none⟩) n c3, .slice (some ⟨g4, 0, none⟩) n4 c4], boxG (w.heap.size + 1) 29 #[.int .i64 0, .slice none 0 0, .slice none 0 0, .slice none 0 0, .slice none 0 0], boxG (w.heap.size + 2) 33 #[.int .i64 0, .int .i64 0, .int .i64 0, .int .i64 0], stateG (.slice q1 n d1) (.slice (some ⟨k2, 0, none⟩) n d2) (.slice (some ⟨k3, 0, none⟩) n d3) (.slice q4 n4 d4) n n n n4 xs (gen n (upto j (wetAt a xs ms) (msAt ms))) ts bs, boxG B 29 #[.int .i64 R, .slice q1 n d1, .slice (some ⟨k2, 0, none⟩) n d2, .slice (some ⟨k3, 0, none⟩) n d3, .slice q4 n4 d4]])) (fun _ i _ => n - (intOf i).toNat)
  case atStart => exact ⟨0, 0, by omega, rfl, rfl, Lib.hid rfl, HE3⟩
  case round =>
    clear HE3
    obtain ⟨j, N, hj, rfl, rfl, HN, HF⟩ := hrel
    obtain ⟨p0, p1, p2, p3, p4⟩ := box5 (HF.out.nth 0 rfl)
    by_cases hlt : (j : Int) < n
    · have HK := Lib.hid (show j < n by omega)
      obtain ⟨r, l, i, hx⟩ := get_of_lt HRL.out.len (k := j) HK.out
      obtain ⟨g1', e1, -, -, d1', -⟩ := (HRL.out.on HF.out.gr).at_ j _ hx
      cases e1
      dsimp only at d1'
      have HD := Lib.hid (HSP.out j l (by simp [lvAt, hx]))
      have hpf := HPF.out j
      have hlf := HLF.out j
      have hrs := HRS.out j
      have hw1 : IntKind.i64.wrap (msAt ms j + partN a xs j) = msAt ms j + partN a xs j := IntWalk.i64_in _ (by omega)
      have hw2 : IntKind.i64.wrap (N + partN a xs j) = N + partN a xs j := IntWalk.i64_in _ (by have := HN.out; omega)
      have HT := Lib.hid (show (gen n (upto j (wetAt a xs ms) (msAt ms))).set j (msAt ms j + partN a xs j) = gen n (upto (j + 1) (wetAt a xs ms) (msAt ms)) from upto_set (wetAt a xs ms) (msAt ms))
      have HX := Lib.hid (show (gen n (upto j (wetAt a xs ms) (msAt ms)))[j]? = some (msAt ms j) by rw [gen_at _ HK.out, upto_here])
      have HNN := Lib.hid (show N + partN a xs j = rainN a xs (j + 1) by rw [HN.out]; exact sum_next j _)
      clear hx hpf hlf hrs
      generalize partN a xs j = V at *
      generalize msAt ms j = X at *
      go_upto_region 7 with (go_at_call 56; ((with_reducible refine (HD.out _).mono ?_); rintro e w3 ⟨rfl, rfl⟩))
      clear p0 p1 p2 p3 p4 d1'
      go_cut [] from 28 to 38 (fun wx => Hid (Held w wx [boxG w.heap.size 29 #[.int .i64 R, .slice (some ⟨g1, 0, none⟩) n c1, .slice (some ⟨g2, 0, none⟩) n c2, .slice (some ⟨g3, 0, none⟩) n c3, .slice (some ⟨g4, 0, none⟩) n4 c4], boxG (w.heap.size + 1) 29 #[.int .i64 0, .slice none 0 0, .slice none 0 0, .slice none 0 0, .slice none 0 0], boxG (w.heap.size + 2) 33 #[.int .i64 0, .int .i64 0, .int .i64 0, .int .i64 0], stateG (.slice q1 n d1) (.slice (some ⟨k2, 0, none⟩) n d2) (.slice (some ⟨k3, 0, none⟩) n d3) (.slice q4 n4 d4) n n n n4 xs (gen n (upto (j + 1) (wetAt a xs ms) (msAt ms))) ts bs, boxG B 29 #[.int .i64 R, .slice q1 n d1, .slice (some ⟨k2, 0, none⟩) n d2, .slice (some ⟨k3, 0, none⟩) n d3, .slice q4 n4 d4]]))
      case first =>
        obtain ⟨p0, p1, p2, p3, p4⟩ := box5 (HF.out.nth 4 rfl)
        obtain ⟨g', y9, e, r, mc, mf⟩ := own_cellI (OwnS.m (HF.out.nth 3 rfl)) HK.out
        cases e
        rw [HX.out] at r
        cases r
        go_region
        all_goals
          go_wp2_with fail
          go_meet
          first
            | (have q := State.Held.setMass (HF.out.on (Mesh.gr_drew (Cell.grown_refl _))) 3 rfl j (X + V); rw [HT.out] at q; exact Lib.hid q)
            | (have q := (State.Held.setMass HF.out 3 rfl j (X + V)).on (Mesh.gr_drew (Cell.grown_refl _)); rw [HT.out] at q; exact Lib.hid q)
            | (have q := State.Held.setMass HF.out 3 rfl j (X + V); rw [HT.out] at q; exact Lib.hid q)
      case rest =>
      have HF2 := Lib.hid hcut.out
      clear hcut HF
      go_wp2_with fail
      exact ⟨⟨j + 1, N + V, by omega, by go_num, rfl, HNN, HF2⟩, by simp [intOf]; omega⟩
    · obtain rfl : n = j := by omega
      have HE8 := Lib.hid HF.out
      rw [upto_all] at HE8
      clear HF
      have hrs := HRS.out n
      have hN := HN.out
      obtain ⟨Y, hY⟩ : ∃ Y, Y = ms.sum + N := ⟨_, rfl⟩
      have HSM := Lib.hid (show ∀ u, wr.grownBy u none → Calls Try.prog 40 #[.slice (some ⟨k2, 0, none⟩) n d2] u fun e w' => e = .returned (.int .i64 Y) ∧ u.grownBy w' none from fun u hu => by
        have q := specSum_is (some ⟨k2, 0, none⟩) n d2 (gen n (wetAt a xs ms)) u (OwnS.reads ((HE8.out.on hu).nth 3 rfl)).m H1.out (fun x hx => by
          obtain ⟨k, -, rfl⟩ := List.mem_map.1 hx
          have := HPF.out k; have := HLF.out k; unfold wetAt; omega)
        rw [HWS.out, ← hN, ← hY] at q
        exact q)
      obtain ⟨e1, e2⟩ := HAN.out
      rw [HFB.out, ← hN, ← hY] at e1 e2
      have hYb : 0 ≤ Y ∧ Y ≤ 20000000 := by have := HSB.out; omega
      clear hrs hY hN HLF HPF HRS HSB HWS HMS HFB HSP HRL
      obtain ⟨t0, t1, t2, t3, t4⟩ := box5 (HE8.out.nth 4 rfl)
      by_cases hr : Y ≤ 10000000
      · rw [if_pos (decide_eq_true hr)] at e1 e2
        have HA2 := Lib.hid (And.intro e1 e2)
        clear e1 e2 HAN
        go_upto_region 11 with (go_at_call 40; ((with_reducible refine (HSM.out _ (Cell.grown_refl _)).mono ?_); rintro e w5 ⟨rfl, hg⟩; have HE9 := Lib.hid (HE8.out.on hg); clear hg))
        clear p0 p1 p2 p3 p4 t0 t1 t2 t3 t4 HE8 HSM
        obtain ⟨p0, p1, p2, p3, p4⟩ := box5 (HE9.out.nth 4 rfl)
        obtain ⟨r0, r1, r2, r3, r4⟩ := box5 (HE9.out.nth 1 rfl)
        obtain ⟨f0, f1, f2, f3, f4⟩ := free5 (HE9.out.nth 1 rfl)
        obtain ⟨x0, x1, x2, x3⟩ := cells4 (HE9.out.nth 2 rfl)
        obtain ⟨e0, e1, e2, e3⟩ := frees4 (HE9.out.nth 2 rfl)
        go_wp2_with fail
        have he := (HE9.out.put5 1 rfl (.int .i64 R) (.slice q1 n d1) (.slice (some ⟨k2, 0, none⟩) n d2) (.slice (some ⟨k3, 0, none⟩) n d3) (.slice q4 n4 d4)).put4 2 rfl (.int .i64 N) (.int .i64 0) (.int .i64 0) (.int .i64 0)
        exact bodyPost_ret_by (results_two_rows (fn := Try.f46) rfl _ _ (w.heap.size + 1) (w.heap.size + 2) _ _ _ _ (0, 0) (0, 0) _ _ rfl rfl (he.nth 1 rfl) (he.nth 2 rfl) Try.underlying29 rfl (by kernel_rfl) Try.underlying33 rfl (by kernel_rfl)) rfl ⟨q1, d1, some ⟨k2, 0, none⟩, d2, some ⟨k3, 0, none⟩, d3, q4, d4, by rw [HA2.out.2], by rw [HA2.out.1]; exact Held.stateOwn he 3 rfl, he.gr⟩
      · rw [if_neg (fun e => hr (of_decide_eq_true e))] at e1 e2
        have HA2 := Lib.hid (And.intro e1 e2)
        clear e1 e2 HAN
        go_upto_region 10 with (go_at_call 40; ((with_reducible refine (HSM.out _ (Cell.grown_refl _)).mono ?_); rintro e w5 ⟨rfl, hg⟩; have HE9 := Lib.hid (HE8.out.on hg); clear hg))
        clear p0 p1 p2 p3 p4 t0 t1 t2 t3 t4 HE8 HSM
        obtain ⟨p0, p1, p2, p3, p4⟩ := box5 (HE9.out.nth 0 rfl)
        go_wp2_with (go_at_call 45; ((with_reducible refine (HCP.out _ HE9.out.gr).mono ?_); rintro e w6 ⟨u1, v1, u2, v2, u3, v3, u4, v4, rfl, ho, hg⟩; have HE10 := Lib.hid (State.Held.state HE9.out hg ho); obtain ⟨r0, r1, r2, r3, r4⟩ := box5 (HE10.out.nth 1 rfl); obtain ⟨f0, f1, f2, f3, f4⟩ := free5 (HE10.out.nth 1 rfl); obtain ⟨x0, x1, x2, x3⟩ := cells4 (HE10.out.nth 2 rfl); obtain ⟨e0, e1, e2, e3⟩ := frees4 (HE10.out.nth 2 rfl); clear ho hg))
        have he := (HE10.out.put5 1 rfl (.int .i64 R) (.slice u1 n v1) (.slice u2 n v2) (.slice u3 n v3) (.slice u4 n4 v4)).put4 2 rfl (.int .i64 0) (.int .i64 0) (.int .i64 0) (.int .i64 0)
        exact bodyPost_ret_by (results_two_rows (fn := Try.f46) rfl _ _ (w.heap.size + 1) (w.heap.size + 2) _ _ _ _ (0, 0) (0, 0) _ _ rfl rfl (he.nth 1 rfl) (he.nth 2 rfl) Try.underlying29 rfl (by kernel_rfl) Try.underlying33 rfl (by kernel_rfl)) rfl ⟨u1, v1, u2, v2, u3, v3, u4, v4, by rw [HA2.out.2], by rw [HA2.out.1]; exact Held.stateOwn he 5 rfl, he.gr⟩

set_option maxHeartbeats 8000000 in
theorem specRainOn_is (R : Int) (g1 g2 g3 g4 n1 n2 n3 n4 c1 c2 c3 c4 : Nat) (xs : List C3) (ms ts bs : List Int) (a : Int) (w : World) (h : ReadsS w (some ⟨g1, 0, none⟩) (some ⟨g2, 0, none⟩) (some ⟨g3, 0, none⟩) (some ⟨g4, 0, none⟩) n1 n2 n3 n4 xs ms ts bs) (h1 : n1 ≤ 1048576) (h2 : n2 ≤ 1048576) (h3 : n3 ≤ 1048576) (h4 : n4 ≤ 1048576) :
    Calls Try.prog 18 #[.agg #[.int .i64 R, .slice (some ⟨g1, 0, none⟩) n1 c1, .slice (some ⟨g2, 0, none⟩) n2 c2, .slice (some ⟨g3, 0, none⟩) n3 c3, .slice (some ⟨g4, 0, none⟩) n4 c4], .int .i64 a] w (GivesSL R n1 n2 n3 n4 xs (rnM R xs ms ts bs a) ts bs (rnL R xs ms ts bs a) 0 0 0 w) := by
  have HOK := Lib.hid (show ∀ u, w.grownBy u none → Calls Try.prog 38 #[.agg #[.int .i64 R, .slice (some ⟨g1, 0, none⟩) n1 c1, .slice (some ⟨g2, 0, none⟩) n2 c2, .slice (some ⟨g3, 0, none⟩) n3 c3, .slice (some ⟨g4, 0, none⟩) n4 c4]] u fun e w' => e = .returned (.bool (stOk R xs ms ts bs)) ∧ u.grownBy w' none from fun u hu => specStateOk_is R _ _ _ _ n1 n2 n3 n4 c1 c2 c3 c4 xs ms ts bs u (h.on hu) h1 h2 h3 h4)
  have HIN := Lib.hid (show ∀ u, Calls Try.prog 44 #[.int .i64 a, .int .i64 0, .int .i64 10000] u fun e w' => e = .returned (.bool (amtB a)) ∧ w' = u from fun u => range_is a 0 10000 u _ rfl)
  have HCP := Lib.hid (show ∀ u, w.grownBy u none → Calls Try.prog 45 #[.agg #[.int .i64 R, .slice (some ⟨g1, 0, none⟩) n1 c1, .slice (some ⟨g2, 0, none⟩) n2 c2, .slice (some ⟨g3, 0, none⟩) n3 c3, .slice (some ⟨g4, 0, none⟩) n4 c4]] u (GivesS R n1 n2 n3 n4 xs ms ts bs u) from fun u hu => specStCopy_is R g1 g2 g3 g4 n1 n2 n3 n4 c1 c2 c3 c4 xs ms ts bs u (h.on hu) h1 h2 h3 h4)
  have HAP := Lib.hid (show stOk R xs ms ts bs = true → amtB a = true → ∀ u, w.grownBy u none → Calls Try.prog 46 #[.agg #[.int .i64 R, .slice (some ⟨g1, 0, none⟩) n1 c1, .slice (some ⟨g2, 0, none⟩) n2 c2, .slice (some ⟨g3, 0, none⟩) n3 c3, .slice (some ⟨g4, 0, none⟩) n4 c4], .int .i64 a] u (GivesSL R n1 n2 n3 n4 xs (rainM a xs ms) ts bs (rainL a xs ms) 0 0 0 u) from fun hs hb u hu => specRain_is R g1 g2 g3 g4 n1 n2 n3 n4 c1 c2 c3 c4 xs ms ts bs a u (h.on hu) h1 h2 h3 h4 hs hb)
  clear h h1 h2 h3 h4
  have he := (((Held.nil w).box 29 #[.int .i64 R, .slice (some ⟨g1, 0, none⟩) n1 c1, .slice (some ⟨g2, 0, none⟩) n2 c2, .slice (some ⟨g3, 0, none⟩) n3 c3, .slice (some ⟨g4, 0, none⟩) n4 c4]).box 29 #[.int .i64 0, .slice none 0 0, .slice none 0 0, .slice none 0 0, .slice none 0 0]).box 33 #[.int .i64 0, .int .i64 0, .int .i64 0, .int .i64 0]
  simp only [World.size_alloc] at he
  have HE := Lib.hid he; clear he
  cases hs : stOk R xs ms ts bs with
  | false =>
    have hp : srcB R xs ms ts bs a = false := by unfold srcB; rw [hs]; rfl
    unfold rnM rnL
    rw [hp]
    rw [hs] at HOK
    simp only [Bool.false_eq_true, if_false]
    clear hs hp HAP
    go_enter Try.func18, Try.ntmps18
    go_upto_region 1 with fail
    generalize ((w.alloc (.cells #[.int .i64 R, .slice (some ⟨g1, 0, none⟩) n1 c1, .slice (some ⟨g2, 0, none⟩) n2 c2, .slice (some ⟨g3, 0, none⟩) n3 c3, .slice (some ⟨g4, 0, none⟩) n4 c4] 29)).alloc (.cells #[.int .i64 0, .slice none 0 0, .slice none 0 0, .slice none 0 0, .slice none 0 0] 29)).alloc (.cells #[.int .i64 0, .int .i64 0, .int .i64 0, .int .i64 0] 33) = W0 at *
    obtain ⟨p0, p1, p2, p3, p4⟩ := box5 (HE.out.nth 0 rfl)
    go_wp2_with (first
      | (go_at_call 38; ((with_reducible refine (HOK.out _ HE.out.gr).mono ?_); rintro e w1 ⟨rfl, hg⟩; have HE1 := Lib.hid (HE.out.on hg); obtain ⟨z0, z1, z2, z3, z4⟩ := box5 (HE1.out.nth 0 rfl); clear hg))
      | (go_at_call 44; ((with_reducible refine (HIN.out _).mono ?_); rintro e w2 ⟨rfl, rfl⟩))
      | (go_at_call 45; ((with_reducible refine (HCP.out _ HE1.out.gr).mono ?_); rintro e w2 ⟨q1, d1, q2, d2, q3, d3, q4, d4, rfl, ho, hg⟩; have HE2 := Lib.hid (State.Held.state HE1.out hg ho); obtain ⟨r0, r1, r2, r3, r4⟩ := box5 (HE2.out.nth 1 rfl); obtain ⟨f0, f1, f2, f3, f4⟩ := free5 (HE2.out.nth 1 rfl); obtain ⟨x0, x1, x2, x3⟩ := cells4 (HE2.out.nth 2 rfl); obtain ⟨e0, e1, e2, e3⟩ := frees4 (HE2.out.nth 2 rfl); clear ho hg)))
    have he := (HE2.out.put5 1 rfl (.int .i64 R) (.slice q1 n1 d1) (.slice q2 n2 d2) (.slice q3 n3 d3) (.slice q4 n4 d4)).put4 2 rfl (.int .i64 0) (.int .i64 0) (.int .i64 0) (.int .i64 0)
    exact bodyPost_ret_by (results_two_rows (fn := Try.f18) rfl _ _ (w.heap.size + 1) (w.heap.size + 2) _ _ _ _ (0, 0) (0, 0) _ _ rfl rfl (he.nth 1 rfl) (he.nth 2 rfl) Try.underlying29 rfl (by kernel_rfl) Try.underlying33 rfl (by kernel_rfl)) rfl ⟨q1, d1, q2, d2, q3, d3, q4, d4, rfl, Held.stateOwn he 3 rfl, he.gr⟩
  | true =>
  cases hb : amtB a with
  | false =>
    have hp : srcB R xs ms ts bs a = false := by unfold srcB; rw [hs, hb]; rfl
    unfold rnM rnL
    rw [hp]
    rw [hs] at HOK
    rw [hb] at HIN
    simp only [Bool.false_eq_true, if_false]
    clear hs hp hb HAP
    go_enter Try.func18, Try.ntmps18
    go_upto_region 1 with fail
    generalize ((w.alloc (.cells #[.int .i64 R, .slice (some ⟨g1, 0, none⟩) n1 c1, .slice (some ⟨g2, 0, none⟩) n2 c2, .slice (some ⟨g3, 0, none⟩) n3 c3, .slice (some ⟨g4, 0, none⟩) n4 c4] 29)).alloc (.cells #[.int .i64 0, .slice none 0 0, .slice none 0 0, .slice none 0 0, .slice none 0 0] 29)).alloc (.cells #[.int .i64 0, .int .i64 0, .int .i64 0, .int .i64 0] 33) = W0 at *
    obtain ⟨p0, p1, p2, p3, p4⟩ := box5 (HE.out.nth 0 rfl)
    go_wp2_with (first
      | (go_at_call 38; ((with_reducible refine (HOK.out _ HE.out.gr).mono ?_); rintro e w1 ⟨rfl, hg⟩; have HE1 := Lib.hid (HE.out.on hg); obtain ⟨z0, z1, z2, z3, z4⟩ := box5 (HE1.out.nth 0 rfl); clear hg))
      | (go_at_call 44; ((with_reducible refine (HIN.out _).mono ?_); rintro e w2 ⟨rfl, rfl⟩))
      | (go_at_call 45; ((with_reducible refine (HCP.out _ HE1.out.gr).mono ?_); rintro e w2 ⟨q1, d1, q2, d2, q3, d3, q4, d4, rfl, ho, hg⟩; have HE2 := Lib.hid (State.Held.state HE1.out hg ho); obtain ⟨r0, r1, r2, r3, r4⟩ := box5 (HE2.out.nth 1 rfl); obtain ⟨f0, f1, f2, f3, f4⟩ := free5 (HE2.out.nth 1 rfl); obtain ⟨x0, x1, x2, x3⟩ := cells4 (HE2.out.nth 2 rfl); obtain ⟨e0, e1, e2, e3⟩ := frees4 (HE2.out.nth 2 rfl); clear ho hg)))
    have he := (HE2.out.put5 1 rfl (.int .i64 R) (.slice q1 n1 d1) (.slice q2 n2 d2) (.slice q3 n3 d3) (.slice q4 n4 d4)).put4 2 rfl (.int .i64 0) (.int .i64 0) (.int .i64 0) (.int .i64 0)
    exact bodyPost_ret_by (results_two_rows (fn := Try.f18) rfl _ _ (w.heap.size + 1) (w.heap.size + 2) _ _ _ _ (0, 0) (0, 0) _ _ rfl rfl (he.nth 1 rfl) (he.nth 2 rfl) Try.underlying29 rfl (by kernel_rfl) Try.underlying33 rfl (by kernel_rfl)) rfl ⟨q1, d1, q2, d2, q3, d3, q4, d4, rfl, Held.stateOwn he 3 rfl, he.gr⟩
  | true =>
    have hp : srcB R xs ms ts bs a = true := by unfold srcB; rw [hs, hb]; rfl
    unfold rnM rnL
    simp only [hp, if_true]
    have HA2 := Lib.hid (HAP.out hs hb)
    rw [hs] at HOK
    rw [hb] at HIN
    clear hs hp hb HAP HCP
    generalize rainM a xs ms = mm at *; generalize rainL a xs ms = l0 at *;
    go_enter Try.func18, Try.ntmps18
    go_upto_region 1 with fail
    generalize ((w.alloc (.cells #[.int .i64 R, .slice (some ⟨g1, 0, none⟩) n1 c1, .slice (some ⟨g2, 0, none⟩) n2 c2, .slice (some ⟨g3, 0, none⟩) n3 c3, .slice (some ⟨g4, 0, none⟩) n4 c4] 29)).alloc (.cells #[.int .i64 0, .slice none 0 0, .slice none 0 0, .slice none 0 0, .slice none 0 0] 29)).alloc (.cells #[.int .i64 0, .int .i64 0, .int .i64 0, .int .i64 0] 33) = W0 at *
    obtain ⟨p0, p1, p2, p3, p4⟩ := box5 (HE.out.nth 0 rfl)
    go_wp2_with (first
      | (go_at_call 38; ((with_reducible refine (HOK.out _ HE.out.gr).mono ?_); rintro e w1 ⟨rfl, hg⟩; have HE1 := Lib.hid (HE.out.on hg); obtain ⟨z0, z1, z2, z3, z4⟩ := box5 (HE1.out.nth 0 rfl); clear hg))
      | (go_at_call 44; ((with_reducible refine (HIN.out _).mono ?_); rintro e w2 ⟨rfl, rfl⟩))
      | (go_at_call 46; ((with_reducible refine (HA2.out _ HE1.out.gr).mono ?_); rintro e w2 ⟨q1, d1, q2, d2, q3, d3, q4, d4, rfl, ho, hg⟩; have HE2 := Lib.hid (State.Held.state HE1.out hg ho); obtain ⟨r0, r1, r2, r3, r4⟩ := box5 (HE2.out.nth 1 rfl); obtain ⟨f0, f1, f2, f3, f4⟩ := free5 (HE2.out.nth 1 rfl); obtain ⟨x0, x1, x2, x3⟩ := cells4 (HE2.out.nth 2 rfl); obtain ⟨e0, e1, e2, e3⟩ := frees4 (HE2.out.nth 2 rfl); clear ho hg)))
    have he := (HE2.out.put5 1 rfl (.int .i64 R) (.slice q1 n1 d1) (.slice q2 n2 d2) (.slice q3 n3 d3) (.slice q4 n4 d4)).put4 2 rfl (.int .i64 l0) (.int .i64 0) (.int .i64 0) (.int .i64 0)
    exact bodyPost_ret_by (results_two_rows (fn := Try.f18) rfl _ _ (w.heap.size + 1) (w.heap.size + 2) _ _ _ _ (0, 0) (0, 0) _ _ rfl rfl (he.nth 1 rfl) (he.nth 2 rfl) Try.underlying29 rfl (by kernel_rfl) Try.underlying33 rfl (by kernel_rfl)) rfl ⟨q1, d1, q2, d2, q3, d3, q4, d4, rfl, Held.stateOwn he 3 rfl, he.gr⟩
end Go.Proofs.Ytmbmeajneankpaa.State
