/- Decay of the tracer: the model's StableAmount, DecayTicks, l15Decay, DecayAll, as contracts: what each answers, in memory of the call's own; nothing that was there is written (written by wip/tools/stdecs.py).
   Conditions: at most 2^20 leaves and numbers. -/
import Derived.Test.YtcboogodphpjbaaStDecP
import Derived.Test.YtcboogodphpjbaaStLedI
import Derived.Test.YtcboogodphpjbaaStLedV
set_option maxRecDepth 100000
namespace Go.Proofs.Ytcboogodphpjbaa.State
open Go.ChangeShapes Go.WideShapes Go.ChangeAt Go.RowKit Go.Joins Go.Proofs.Ytcboogodphpjbaa.Cell Go.Proofs.Ytcboogodphpjbaa.Mesh Go.Proofs.Ytcboogodphpjbaa.Law Go.Proofs.Ytcboogodphpjbaa.Ints Go.Proofs.Ytcboogodphpjbaa.Draws Go.Deep
set_option linter.unusedVariables false

theorem specStableAmount_is (r : Int) (w : World) : Calls Try.prog 23 #[.int .i64 r] w fun e w' => e = .returned (.int .i64 (stab r)) ∧ w.grownBy w' none := by
  by_cases h : 1 ≤ r ∧ r ≤ 1000
  case neg =>
    have HR := Lib.hid (show ∀ u, Calls Try.prog 40 #[.int .i64 r, .int .i64 1, .int .i64 1000] u fun e w' => e = .returned (.bool false) ∧ w' = u from fun u => range_is r 1 1000 u _ (decide_eq_false h).symm)
    rw [show stab r = -1 from if_neg h]
    clear h
    go_enter Try.func23, Try.ntmps23
    go_wp2_with (go_at_call 40; ((with_reducible refine (HR.out _).mono ?_); rintro e w1 ⟨rfl, rfl⟩))
    go_ret
    exact ⟨rfl, Cell.grown_refl _⟩
  case pos =>
    have HR := Lib.hid (show ∀ u, Calls Try.prog 40 #[.int .i64 r, .int .i64 1, .int .i64 1000] u fun e w' => e = .returned (.bool true) ∧ w' = u from fun u => range_is r 1 1000 u _ (decide_eq_true h).symm)
    rw [show stab r = 999 / r from if_pos h]
    obtain ⟨q0, q1, -⟩ := stab_facts h.1 h.2
    have e2 : (999 : Int).tdiv r = 999 / r := Int.tdiv_eq_ediv_of_nonneg (by omega)
    generalize 999 / r = D at *
    have e3 : IntKind.i64.wrap D = D := IntWalk.i64_in _ (by omega)
    have e4 : r ≠ 0 := by omega
    clear h q0 q1
    go_enter Try.func23, Try.ntmps23
    go_wp2_with (go_at_call 40; ((with_reducible refine (HR.out _).mono ?_); rintro e w1 ⟨rfl, rfl⟩))
    go_ret
    exact ⟨rfl, Cell.grown_refl _⟩

set_option maxHeartbeats 8000000 in
/-- How often a tracer decays. -/
theorem specDecayTicks_is (t r l : Int) (w : World) : Calls Try.prog 22 #[.int .i64 t, .int .i64 r, .int .i64 l] w fun e w' => e = .returned (.int .i64 (ticksOf t r l)) ∧ w.grownBy w' none := by
  have HG := Lib.hid (show w.grownBy w none from Cell.grown_refl w)
  cases ht : tracerB t with
  | false =>
    have HT := Lib.hid (show ∀ u, Calls Try.prog 40 #[.int .i64 t, .int .i64 0, .int .i64 10000000000] u fun e w' => e = .returned (.bool false) ∧ u.grownBy w' none from fun u => by rw [← ht]; exact (range_is t 0 10000000000 u _ rfl).mono fun e w' ⟨he, hw⟩ => ⟨he, by rw [hw]; exact Cell.grown_refl _⟩)
    rw [show ticksOf t r l = -1 by unfold ticksOf; rw [ht]; rfl]
    clear ht
    go_enter Try.func22, Try.ntmps22
    go_wp2_with (go_at_call 40; ((first | (with_reducible refine (HT.out _).mono ?_)); rintro e w1 ⟨rfl, hg⟩; have HG := Lib.hid (Cell.grown_trans HG.out hg); clear hg))
    go_ret
    exact ⟨rfl, HG.out⟩
  | true =>
  have HT := Lib.hid (show ∀ u, Calls Try.prog 40 #[.int .i64 t, .int .i64 0, .int .i64 10000000000] u fun e w' => e = .returned (.bool true) ∧ u.grownBy w' none from fun u => by rw [← ht]; exact (range_is t 0 10000000000 u _ rfl).mono fun e w' ⟨he, hw⟩ => ⟨he, by rw [hw]; exact Cell.grown_refl _⟩)
  cases hl : tracerB l with
  | false =>
    have HL := Lib.hid (show ∀ u, Calls Try.prog 40 #[.int .i64 l, .int .i64 0, .int .i64 10000000000] u fun e w' => e = .returned (.bool false) ∧ u.grownBy w' none from fun u => by rw [← hl]; exact (range_is l 0 10000000000 u _ rfl).mono fun e w' ⟨he, hw⟩ => ⟨he, by rw [hw]; exact Cell.grown_refl _⟩)
    rw [show ticksOf t r l = -1 by unfold ticksOf; rw [ht, hl]; rfl]
    clear ht hl
    go_enter Try.func22, Try.ntmps22
    go_wp2_with (go_at_call 40; ((first | (with_reducible refine (HT.out _).mono ?_) | (with_reducible refine (HL.out _).mono ?_)); rintro e w1 ⟨rfl, hg⟩; have HG := Lib.hid (Cell.grown_trans HG.out hg); clear hg))
    go_ret
    exact ⟨rfl, HG.out⟩
  | true =>
  have HL := Lib.hid (show ∀ u, Calls Try.prog 40 #[.int .i64 l, .int .i64 0, .int .i64 10000000000] u fun e w' => e = .returned (.bool true) ∧ u.grownBy w' none from fun u => by rw [← hl]; exact (range_is l 0 10000000000 u _ rfl).mono fun e w' ⟨he, hw⟩ => ⟨he, by rw [hw]; exact Cell.grown_refl _⟩)
  cases hr : rateB r with
  | false =>
    have HR := Lib.hid (show ∀ u, Calls Try.prog 40 #[.int .i64 r, .int .i64 0, .int .i64 1000] u fun e w' => e = .returned (.bool false) ∧ u.grownBy w' none from fun u => by rw [← hr]; exact (range_is r 0 1000 u _ rfl).mono fun e w' ⟨he, hw⟩ => ⟨he, by rw [hw]; exact Cell.grown_refl _⟩)
    rw [show ticksOf t r l = -1 by unfold ticksOf; rw [ht, hl, hr]; rfl]
    clear ht hl hr
    go_enter Try.func22, Try.ntmps22
    go_wp2_with (go_at_call 40; ((first | (with_reducible refine (HT.out _).mono ?_) | (with_reducible refine (HL.out _).mono ?_) | (with_reducible refine (HR.out _).mono ?_)); rintro e w1 ⟨rfl, hg⟩; have HG := Lib.hid (Cell.grown_trans HG.out hg); clear hg))
    go_ret
    exact ⟨rfl, HG.out⟩
  | true =>
    have HR := Lib.hid (show ∀ u, Calls Try.prog 40 #[.int .i64 r, .int .i64 0, .int .i64 1000] u fun e w' => e = .returned (.bool true) ∧ u.grownBy w' none from fun u => by rw [← hr]; exact (range_is r 0 1000 u _ rfl).mono fun e w' ⟨he, hw⟩ => ⟨he, by rw [hw]; exact Cell.grown_refl _⟩)
    obtain ⟨A, hA⟩ : ∃ A, A = tk r l t.toNat t 0 := ⟨_, rfl⟩
    rw [show ticksOf t r l = A by unfold ticksOf; rw [ht, hl, hr, hA]; rfl]
    obtain ⟨t0, t1⟩ := of_decide_eq_true ht
    obtain ⟨l0, l1⟩ := of_decide_eq_true hl
    have HB := Lib.hid hr
    have HA := Lib.hid hA.symm
    have hl0 : 0 ≤ l := l0
    clear ht hl hr hA l0 l1
    go_enter Try.func22, Try.ntmps22
    go_wp2_with (go_at_call 40; ((first | (with_reducible refine (HT.out _).mono ?_) | (with_reducible refine (HL.out _).mono ?_) | (with_reducible refine (HR.out _).mono ?_)); rintro e w1 ⟨rfl, hg⟩; have HG := Lib.hid (Cell.grown_trans HG.out hg); clear hg))
    go_loopw [0, 8, 9] (fun t n x wr => ∃ (f : Nat) (T N : Int), t = .int .i64 T ∧ n = .int .i64 N ∧ 0 ≤ T ∧ T ≤ f ∧ T ≤ 10000000000 ∧ 0 ≤ N ∧ N + T ≤ 10000000000 ∧ Hid (tk r l f T N = A) ∧ Hid (w.grownBy wr none)) (fun t _ _ _ => (intOf t).toNat)
    case atStart => exact ⟨t.toNat, t, 0, rfl, rfl, t0, by omega, t1, by omega, by omega, HA, HG⟩
    case round =>
      clear HA HG HT HL HR t0 t1
      obtain ⟨f, T, N, rfl, rfl, h0, h1, h2, h3, h4, HK, HF⟩ := hrel
      by_cases hlt : l < T
      · obtain ⟨g, rfl⟩ : ∃ g, f = g + 1 := ⟨f - 1, by omega⟩
        obtain ⟨p0, p1, p2, p3⟩ := dec_facts HB.out h0
        have e1 : IntKind.i64.wrap (T * r) = T * r := IntWalk.i64_in _ (by omega)
        have e2 : (T * r).tdiv 1000 = decN r T := Int.tdiv_eq_ediv_of_nonneg p0
        have e3 : IntKind.i64.wrap (decN r T) = decN r T := IntWalk.i64_in _ (by omega)
        have HG := HF
        obtain ⟨D, hD⟩ : ∃ D, decN r T = D := ⟨_, rfl⟩
        rw [hD] at p2 p3 e2 e3
        by_cases hz : D = 0
        · subst hz
          have HX := Lib.hid (HK.out.symm.trans (tk_none hlt hD g N))
          clear HK hD p0 p1 p2 p3
          go_wp2_with fail
          go_ret
          exact ⟨by rw [HX.out]; rfl, HG.out⟩
        · have HX := Lib.hid ((tk_next hlt (by rw [hD]; exact hz) g N).symm.trans HK.out)
          rw [hD] at HX
          have e4 : IntKind.i64.wrap (T - D) = T - D := IntWalk.i64_in _ (by omega)
          have e5 : IntKind.i64.wrap (N + 1) = N + 1 := IntWalk.i64_in _ (by omega)
          clear HK p0 p1 hD
          go_wp2_with fail
          go_roundw
          case rel => exact ⟨g, T - D, N + 1, rfl, rfl, by omega, by omega, by omega, by omega, by omega, HX, HG⟩
          case measure => simp [intOf]; omega
      · have HX := Lib.hid ((tk_stop hlt f N).symm.trans HK.out)
        clear HK
        go_wp2_with fail
        go_ret
        exact ⟨by rw [← HX.out]; rfl, HF.out⟩

set_option maxHeartbeats 16000000 in
/-- Each leaf's tracer decays, one after another. -/
theorem specDecayV_is (R : Int) (g1 g2 g3 g4 n1 n2 n3 n4 c1 c2 c3 c4 : Nat) (xs : List C3) (ms ts bs : List Int) (r : Int) (w : World) (h : ReadsS w (some ⟨g1, 0, none⟩) (some ⟨g2, 0, none⟩) (some ⟨g3, 0, none⟩) (some ⟨g4, 0, none⟩) n1 n2 n3 n4 xs ms ts bs) (h1 : n1 ≤ 1048576) (h2 : n2 ≤ 1048576) (h3 : n3 ≤ 1048576) (h4 : n4 ≤ 1048576) (hs : stOk R xs ms ts bs = true) (hb : rateB r = true) :
    Calls Try.prog 42 #[.agg #[.int .i64 R, .slice (some ⟨g1, 0, none⟩) n1 c1, .slice (some ⟨g2, 0, none⟩) n2 c2, .slice (some ⟨g3, 0, none⟩) n3 c3, .slice (some ⟨g4, 0, none⟩) n4 c4], .int .i64 r] w (GivesSL R n1 n2 n3 n4 xs ms (lowT r ts) bs 0 0 0 (lossT r ts ts.length) w) := by
  obtain ⟨z1, z2, z3, z4⟩ := st_sizes hs
  have hn1 := h.l.len; have hn2 := h.m.len; have hn3 := h.t.len
  obtain rfl : n2 = n1 := by omega
  obtain rfl : n3 = n2 := by omega
  obtain ⟨n, hn⟩ : ∃ n, n = n3 := ⟨_, rfl⟩
  subst hn
  have HCP := Lib.hid (show ∀ u, w.grownBy u none → Calls Try.prog 41 #[.agg #[.int .i64 R, .slice (some ⟨g1, 0, none⟩) n c1, .slice (some ⟨g2, 0, none⟩) n c2, .slice (some ⟨g3, 0, none⟩) n c3, .slice (some ⟨g4, 0, none⟩) n4 c4]] u (GivesS R n n n n4 xs ms ts bs u) from fun u hu => specStCopy_is R g1 g2 g3 g4 n n n n4 c1 c2 c3 c4 xs ms ts bs u (h.on hu) h1 h2 h3 h4)
  have he := (((Held.nil w).box 29 #[.int .i64 R, .slice (some ⟨g1, 0, none⟩) n c1, .slice (some ⟨g2, 0, none⟩) n c2, .slice (some ⟨g3, 0, none⟩) n c3, .slice (some ⟨g4, 0, none⟩) n4 c4]).box 29 #[.int .i64 0, .slice none 0 0, .slice none 0 0, .slice none 0 0, .slice none 0 0]).box 33 #[.int .i64 0, .int .i64 0, .int .i64 0, .int .i64 0]
  simp only [World.size_alloc] at he
  have HE := Lib.hid he; clear he
  have HLS := Lib.hid fun k => loss_small hs hb k
  have HDF := Lib.hid fun k => decay_facts hs hb k
  have HLF := Lib.hid fun k => leaf_range hs k
  rw [lowT, hn3]
  have HTS := Lib.hid (show ts = gen n (tsAt ts) by rw [← hn3, gen_ts])
  have HRT := Lib.hid h.t
  have HN := Lib.hid hn3
  have HK0 := Lib.hid (show 0 < n by omega)
  have hni : (n : Int) ≤ 128 := by omega
  clear h h1 h2 h3 h4 hs hb z1 z2 z3 z4 hn1 hn2 hn3
  go_enter Try.func42, Try.ntmps42
  go_upto_region 1 with fail
  generalize ((w.alloc (.cells #[.int .i64 R, .slice (some ⟨g1, 0, none⟩) n c1, .slice (some ⟨g2, 0, none⟩) n c2, .slice (some ⟨g3, 0, none⟩) n c3, .slice (some ⟨g4, 0, none⟩) n4 c4] 29)).alloc (.cells #[.int .i64 0, .slice none 0 0, .slice none 0 0, .slice none 0 0, .slice none 0 0] 29)).alloc (.cells #[.int .i64 0, .int .i64 0, .int .i64 0, .int .i64 0] 33) = W0 at *
  obtain ⟨p0, p1, p2, p3, p4⟩ := box5 (HE.out.nth 0 rfl)
  go_upto_region 2 with (go_at_call 41; ((with_reducible refine (HCP.out _ HE.out.gr).mono ?_); rintro e w1 ⟨q1, d1, q2, d2, q3, d3, q4, d4, rfl, ho, hg⟩; have HE1 := Lib.hid (State.Held.state HE.out hg ho); clear ho hg))
  obtain ⟨k2, y2, rfl, -, -, -⟩ := own_cellI (OwnS.m (HE1.out.nth 3 rfl)) HK0.out
  obtain ⟨k3, y3, rfl, -, -, -⟩ := own_cellI (OwnS.t (HE1.out.nth 3 rfl)) HK0.out
  have HE2 := Lib.hid (HE1.out.box 29 #[.int .i64 R, .slice q1 n d1, .slice (some ⟨k2, 0, none⟩) n d2, .slice (some ⟨k3, 0, none⟩) n d3, .slice q4 n4 d4])
  clear p0 p1 p2 p3 p4 HE HE1 HCP
  obtain ⟨B, hB⟩ : ∃ B, B = w1.heap.size := ⟨_, rfl⟩
  rw [← hB] at HE2 ⊢
  clear hB
  generalize w1.alloc (.cells #[.int .i64 R, .slice q1 n d1, .slice (some ⟨k2, 0, none⟩) n d2, .slice (some ⟨k3, 0, none⟩) n d3, .slice q4 n4 d4] 29) = W2 at *
  go_upto_region 3 with fail
  have HE3 := Lib.hid (HE2.out.box 33 #[.int .i64 0, .int .i64 0, .int .i64 0, .int .i64 0])
  clear HE2
  obtain ⟨D, hD⟩ : ∃ D, D = W2.heap.size := ⟨_, rfl⟩
  rw [← hD] at HE3 ⊢
  clear hD
  generalize W2.alloc (.cells #[.int .i64 0, .int .i64 0, .int .i64 0, .int .i64 0] 33) = W3 at *
  have HE4 : Hid (Held w W3 [boxG w.heap.size 29 #[.int .i64 R, .slice (some ⟨g1, 0, none⟩) n c1, .slice (some ⟨g2, 0, none⟩) n c2, .slice (some ⟨g3, 0, none⟩) n c3, .slice (some ⟨g4, 0, none⟩) n4 c4], boxG (w.heap.size + 1) 29 #[.int .i64 0, .slice none 0 0, .slice none 0 0, .slice none 0 0, .slice none 0 0], boxG (w.heap.size + 2) 33 #[.int .i64 0, .int .i64 0, .int .i64 0, .int .i64 0], stateG (.slice q1 n d1) (.slice (some ⟨k2, 0, none⟩) n d2) (.slice (some ⟨k3, 0, none⟩) n d3) (.slice q4 n4 d4) n n n n4 xs ms (gen n (upto 0 (lowAt r ts) (tsAt ts))) bs, boxG B 29 #[.int .i64 R, .slice q1 n d1, .slice (some ⟨k2, 0, none⟩) n d2, .slice (some ⟨k3, 0, none⟩) n d3, .slice q4 n4 d4], boxG D 33 #[.int .i64 0, .int .i64 0, .int .i64 0, .int .i64 (lossT r ts 0)]]) := by
    have q := HE3.out
    rw [upto_zero, ← HTS.out]
    exact Lib.hid q
  clear HE3
  go_wp2_with fail
  go_loopw [8] (fun i wr => ∃ j : Nat, (j : Int) ≤ n ∧ i = .int .i64 j ∧ Hid (Held w wr [boxG w.heap.size 29 #[.int .i64 R, .slice (some ⟨g1, 0, none⟩) n c1, .slice (some ⟨g2, 0, none⟩) n c2, .slice (some ⟨g3, 0, none⟩) n c3, .slice (some ⟨g4, 0, none⟩) n4 c4], boxG (w.heap.size + 1) 29 #[.int .i64 0, .slice none 0 0, .slice none 0 0, .slice none 0 0, .slice none 0 0], boxG (w.heap.size + 2) 33 #[.int .i64 0, .int .i64 0, .int .i64 0, .int .i64 0], stateG (.slice q1 n d1) (.slice (some ⟨k2, 0, none⟩) n d2) (.slice (some ⟨k3, 0, none⟩) n d3) (.slice q4 n4 d4) n n n n4 xs ms (gen n (upto j (lowAt r ts) (tsAt ts))) bs, boxG B 29 #[.int .i64 R, .slice q1 n d1, .slice (some ⟨k2, 0, none⟩) n d2, .slice (some ⟨k3, 0, none⟩) n d3, .slice q4 n4 d4], boxG D 33 #[.int .i64 0, .int .i64 0, .int .i64 0, .int .i64 (lossT r ts j)]])) (fun i _ => n - (intOf i).toNat)
  case atStart => exact ⟨0, by omega, rfl, HE4⟩
  case round =>
    clear HE4
    obtain ⟨j, hj, rfl, HF⟩ := hrel
    obtain ⟨p0, p1, p2, p3, p4⟩ := box5 (HF.out.nth 0 rfl)
    by_cases hlt : (j : Int) < n
    · have HK := Lib.hid (show j < n by omega)
      have l2 := HDF.out j
      have l3 := HLS.out j
      have l4 := HLF.out j
      have gt := at_get (xs := ts) (k := j) (by rw [HN.out]; exact HK.out)
      rw [(ats_eq ts j).2] at gt
      obtain ⟨g3', o3, e3, d3'⟩ := (HRT.out.on HF.out.gr).at_ j _ gt
      cases e3
      rw [Nat.zero_add] at d3'
      have HTT := Lib.hid (show (gen n (upto j (lowAt r ts) (tsAt ts))).set j (tsAt ts j - decAt r ts j) = (gen n (upto (j + 1) (lowAt r ts) (tsAt ts))) from upto_set (lowAt r ts) (tsAt ts))
      have HXT := Lib.hid (show (gen n (upto j (lowAt r ts) (tsAt ts)))[j]? = some (tsAt ts j) by rw [gen_at _ HK.out, upto_here])
      have HGT := Lib.hid (show lossT r ts j + decAt r ts j = lossT r ts (j + 1) from sum_next j _)
      have hq : (tsAt ts j * r).tdiv 1000 = decAt r ts j := Int.tdiv_eq_ediv_of_nonneg (by omega)
      have hm : IntKind.i64.wrap (tsAt ts j * r) = tsAt ts j * r := IntWalk.i64_in _ (by omega)
      generalize decAt r ts j = t at *
      generalize tsAt ts j = Y at *
      generalize lossT r ts j = U at *
      have hw1 : IntKind.i64.wrap t = t := IntWalk.i64_in _ (by omega)
      have hw2 : IntKind.i64.wrap (Y - t) = Y - t := IntWalk.i64_in _ (by omega)
      have hw3 : IntKind.i64.wrap (U + t) = U + t := IntWalk.i64_in _ (by omega)
      clear gt l2 l3 l4
      go_upto_region 7 with fail
      clear p0 p1 p2 p3 p4 d3' hm hq
      go_cut [] from 28 to 38 (fun wx => Hid (Held w wx [boxG w.heap.size 29 #[.int .i64 R, .slice (some ⟨g1, 0, none⟩) n c1, .slice (some ⟨g2, 0, none⟩) n c2, .slice (some ⟨g3, 0, none⟩) n c3, .slice (some ⟨g4, 0, none⟩) n4 c4], boxG (w.heap.size + 1) 29 #[.int .i64 0, .slice none 0 0, .slice none 0 0, .slice none 0 0, .slice none 0 0], boxG (w.heap.size + 2) 33 #[.int .i64 0, .int .i64 0, .int .i64 0, .int .i64 0], stateG (.slice q1 n d1) (.slice (some ⟨k2, 0, none⟩) n d2) (.slice (some ⟨k3, 0, none⟩) n d3) (.slice q4 n4 d4) n n n n4 xs ms (gen n (upto (j + 1) (lowAt r ts) (tsAt ts))) bs, boxG B 29 #[.int .i64 R, .slice q1 n d1, .slice (some ⟨k2, 0, none⟩) n d2, .slice (some ⟨k3, 0, none⟩) n d3, .slice q4 n4 d4], boxG D 33 #[.int .i64 0, .int .i64 0, .int .i64 0, .int .i64 U]]))
      case first =>
        obtain ⟨p0, p1, p2, p3, p4⟩ := box5 (HF.out.nth 4 rfl)
        obtain ⟨g', y9, e, r, mc, mf⟩ := own_cellI (OwnS.t (HF.out.nth 3 rfl)) HK.out
        cases e
        rw [HXT.out] at r
        cases r
        go_region
        all_goals
          go_wp2_with fail
          go_meet
          first
            | (have q := State.Held.setTracer (HF.out.on (Mesh.gr_drew (Cell.grown_refl _))) 3 rfl j (Y - t); rw [HTT.out] at q; exact Lib.hid q)
            | (have q := (State.Held.setTracer HF.out 3 rfl j (Y - t)).on (Mesh.gr_drew (Cell.grown_refl _)); rw [HTT.out] at q; exact Lib.hid q)
            | (have q := State.Held.setTracer HF.out 3 rfl j (Y - t); rw [HTT.out] at q; exact Lib.hid q)
      case rest =>
      have HE7 := Lib.hid hcut.out
      clear hcut HF hw2 HXT HTT
      obtain ⟨x0, x1, x2, x3⟩ := cells4 (HE7.out.nth 5 rfl)
      obtain ⟨e0, e1, e2, e3⟩ := frees4 (HE7.out.nth 5 rfl)
      go_wp2_with fail
      have q := HE7.out.put 5 rfl 3 (.int .i64 (U + t))
      exact ⟨⟨j + 1, by omega, by go_num, Lib.hid (by rw [← HGT.out]; exact q)⟩, by simp [intOf]; omega⟩
    · obtain rfl : n = j := by omega
      have HE8 := Lib.hid HF.out
      rw [upto_all] at HE8
      clear HF
      go_upto_region 9 with fail
      clear p0 p1 p2 p3 p4
      obtain ⟨p0, p1, p2, p3, p4⟩ := box5 (HE8.out.nth 4 rfl)
      obtain ⟨x0, x1, x2, x3⟩ := cells4 (HE8.out.nth 5 rfl)
      obtain ⟨r0, r1, r2, r3, r4⟩ := box5 (HE8.out.nth 1 rfl)
      obtain ⟨f0, f1, f2, f3, f4⟩ := free5 (HE8.out.nth 1 rfl)
      obtain ⟨y0, y1, y2, y3⟩ := cells4 (HE8.out.nth 2 rfl)
      obtain ⟨e0, e1, e2, e3⟩ := frees4 (HE8.out.nth 2 rfl)
      have n14 : w.heap.size + 1 ≠ B := HE8.out.boxNe 1 4 (by decide) rfl rfl
      have n24 : w.heap.size + 1 + 1 ≠ B := HE8.out.boxNe 2 4 (by decide) rfl rfl
      have n15 : w.heap.size + 1 ≠ D := HE8.out.boxNe 1 5 (by decide) rfl rfl
      have n25 : w.heap.size + 1 + 1 ≠ D := HE8.out.boxNe 2 5 (by decide) rfl rfl
      go_region
      all_goals
        go_wp2_with fail
        have he := ((HE8.out.put5 1 rfl (.int .i64 R) (.slice q1 n d1) (.slice (some ⟨k2, 0, none⟩) n d2) (.slice (some ⟨k3, 0, none⟩) n d3) (.slice q4 n4 d4)).put4 2 rfl (.int .i64 0) (.int .i64 0) (.int .i64 0) (.int .i64 (lossT r ts n))).on (Mesh.gr_drew (Cell.grown_refl _))
        exact bodyPost_ret_by (results_two_rows (fn := Try.f42) rfl _ _ (w.heap.size + 1) (w.heap.size + 2) _ _ _ _ (0, 0) (0, 0) _ _ rfl rfl (he.nth 1 rfl) (he.nth 2 rfl) Try.underlying29 rfl (by kernel_rfl) Try.underlying33 rfl (by kernel_rfl)) rfl ⟨q1, d1, some ⟨k2, 0, none⟩, d2, some ⟨k3, 0, none⟩, d3, q4, d4, rfl, Held.stateOwn he 3 rfl, he.gr⟩

set_option maxHeartbeats 8000000 in
theorem specDecayAll_is (R : Int) (g1 g2 g3 g4 n1 n2 n3 n4 c1 c2 c3 c4 : Nat) (xs : List C3) (ms ts bs : List Int) (r : Int) (w : World) (h : ReadsS w (some ⟨g1, 0, none⟩) (some ⟨g2, 0, none⟩) (some ⟨g3, 0, none⟩) (some ⟨g4, 0, none⟩) n1 n2 n3 n4 xs ms ts bs) (h1 : n1 ≤ 1048576) (h2 : n2 ≤ 1048576) (h3 : n3 ≤ 1048576) (h4 : n4 ≤ 1048576) :
    Calls Try.prog 16 #[.agg #[.int .i64 R, .slice (some ⟨g1, 0, none⟩) n1 c1, .slice (some ⟨g2, 0, none⟩) n2 c2, .slice (some ⟨g3, 0, none⟩) n3 c3, .slice (some ⟨g4, 0, none⟩) n4 c4], .int .i64 r] w (GivesSL R n1 n2 n3 n4 xs ms (dyT R xs ms ts bs r) bs 0 0 0 (dyL R xs ms ts bs r) w) := by
  have HOK := Lib.hid (show ∀ u, w.grownBy u none → Calls Try.prog 35 #[.agg #[.int .i64 R, .slice (some ⟨g1, 0, none⟩) n1 c1, .slice (some ⟨g2, 0, none⟩) n2 c2, .slice (some ⟨g3, 0, none⟩) n3 c3, .slice (some ⟨g4, 0, none⟩) n4 c4]] u fun e w' => e = .returned (.bool (stOk R xs ms ts bs)) ∧ u.grownBy w' none from fun u hu => specStateOk_is R _ _ _ _ n1 n2 n3 n4 c1 c2 c3 c4 xs ms ts bs u (h.on hu) h1 h2 h3 h4)
  have HIN := Lib.hid (show ∀ u, Calls Try.prog 40 #[.int .i64 r, .int .i64 0, .int .i64 1000] u fun e w' => e = .returned (.bool (rateB r)) ∧ w' = u from fun u => range_is r 0 1000 u _ rfl)
  have HCP := Lib.hid (show ∀ u, w.grownBy u none → Calls Try.prog 41 #[.agg #[.int .i64 R, .slice (some ⟨g1, 0, none⟩) n1 c1, .slice (some ⟨g2, 0, none⟩) n2 c2, .slice (some ⟨g3, 0, none⟩) n3 c3, .slice (some ⟨g4, 0, none⟩) n4 c4]] u (GivesS R n1 n2 n3 n4 xs ms ts bs u) from fun u hu => specStCopy_is R g1 g2 g3 g4 n1 n2 n3 n4 c1 c2 c3 c4 xs ms ts bs u (h.on hu) h1 h2 h3 h4)
  have HAP := Lib.hid (show stOk R xs ms ts bs = true → rateB r = true → ∀ u, w.grownBy u none → Calls Try.prog 42 #[.agg #[.int .i64 R, .slice (some ⟨g1, 0, none⟩) n1 c1, .slice (some ⟨g2, 0, none⟩) n2 c2, .slice (some ⟨g3, 0, none⟩) n3 c3, .slice (some ⟨g4, 0, none⟩) n4 c4], .int .i64 r] u (GivesSL R n1 n2 n3 n4 xs ms (lowT r ts) bs 0 0 0 (lossT r ts ts.length) u) from fun hs hb u hu => specDecayV_is R g1 g2 g3 g4 n1 n2 n3 n4 c1 c2 c3 c4 xs ms ts bs r u (h.on hu) h1 h2 h3 h4 hs hb)
  clear h h1 h2 h3 h4
  have he := (((Held.nil w).box 29 #[.int .i64 R, .slice (some ⟨g1, 0, none⟩) n1 c1, .slice (some ⟨g2, 0, none⟩) n2 c2, .slice (some ⟨g3, 0, none⟩) n3 c3, .slice (some ⟨g4, 0, none⟩) n4 c4]).box 29 #[.int .i64 0, .slice none 0 0, .slice none 0 0, .slice none 0 0, .slice none 0 0]).box 33 #[.int .i64 0, .int .i64 0, .int .i64 0, .int .i64 0]
  simp only [World.size_alloc] at he
  have HE := Lib.hid he; clear he
  cases hs : stOk R xs ms ts bs with
  | false =>
    have hp : dyB R xs ms ts bs r = false := by unfold dyB; rw [hs]; rfl
    unfold dyT dyL
    rw [hp]
    rw [hs] at HOK
    simp only [Bool.false_eq_true, if_false]
    clear hs hp HAP
    go_enter Try.func16, Try.ntmps16
    go_upto_region 1 with fail
    generalize ((w.alloc (.cells #[.int .i64 R, .slice (some ⟨g1, 0, none⟩) n1 c1, .slice (some ⟨g2, 0, none⟩) n2 c2, .slice (some ⟨g3, 0, none⟩) n3 c3, .slice (some ⟨g4, 0, none⟩) n4 c4] 29)).alloc (.cells #[.int .i64 0, .slice none 0 0, .slice none 0 0, .slice none 0 0, .slice none 0 0] 29)).alloc (.cells #[.int .i64 0, .int .i64 0, .int .i64 0, .int .i64 0] 33) = W0 at *
    obtain ⟨p0, p1, p2, p3, p4⟩ := box5 (HE.out.nth 0 rfl)
    go_wp2_with (first
      | (go_at_call 35; ((with_reducible refine (HOK.out _ HE.out.gr).mono ?_); rintro e w1 ⟨rfl, hg⟩; have HE1 := Lib.hid (HE.out.on hg); obtain ⟨z0, z1, z2, z3, z4⟩ := box5 (HE1.out.nth 0 rfl); clear hg))
      | (go_at_call 40; ((with_reducible refine (HIN.out _).mono ?_); rintro e w2 ⟨rfl, rfl⟩))
      | (go_at_call 41; ((with_reducible refine (HCP.out _ HE1.out.gr).mono ?_); rintro e w2 ⟨q1, d1, q2, d2, q3, d3, q4, d4, rfl, ho, hg⟩; have HE2 := Lib.hid (State.Held.state HE1.out hg ho); obtain ⟨r0, r1, r2, r3, r4⟩ := box5 (HE2.out.nth 1 rfl); obtain ⟨f0, f1, f2, f3, f4⟩ := free5 (HE2.out.nth 1 rfl); obtain ⟨x0, x1, x2, x3⟩ := cells4 (HE2.out.nth 2 rfl); obtain ⟨e0, e1, e2, e3⟩ := frees4 (HE2.out.nth 2 rfl); clear ho hg)))
    have he := (HE2.out.put5 1 rfl (.int .i64 R) (.slice q1 n1 d1) (.slice q2 n2 d2) (.slice q3 n3 d3) (.slice q4 n4 d4)).put4 2 rfl (.int .i64 0) (.int .i64 0) (.int .i64 0) (.int .i64 0)
    exact bodyPost_ret_by (results_two_rows (fn := Try.f16) rfl _ _ (w.heap.size + 1) (w.heap.size + 2) _ _ _ _ (0, 0) (0, 0) _ _ rfl rfl (he.nth 1 rfl) (he.nth 2 rfl) Try.underlying29 rfl (by kernel_rfl) Try.underlying33 rfl (by kernel_rfl)) rfl ⟨q1, d1, q2, d2, q3, d3, q4, d4, rfl, Held.stateOwn he 3 rfl, he.gr⟩
  | true =>
  cases hb : rateB r with
  | false =>
    have hp : dyB R xs ms ts bs r = false := by unfold dyB; rw [hs, hb]; rfl
    unfold dyT dyL
    rw [hp]
    rw [hs] at HOK
    rw [hb] at HIN
    simp only [Bool.false_eq_true, if_false]
    clear hs hp hb HAP
    go_enter Try.func16, Try.ntmps16
    go_upto_region 1 with fail
    generalize ((w.alloc (.cells #[.int .i64 R, .slice (some ⟨g1, 0, none⟩) n1 c1, .slice (some ⟨g2, 0, none⟩) n2 c2, .slice (some ⟨g3, 0, none⟩) n3 c3, .slice (some ⟨g4, 0, none⟩) n4 c4] 29)).alloc (.cells #[.int .i64 0, .slice none 0 0, .slice none 0 0, .slice none 0 0, .slice none 0 0] 29)).alloc (.cells #[.int .i64 0, .int .i64 0, .int .i64 0, .int .i64 0] 33) = W0 at *
    obtain ⟨p0, p1, p2, p3, p4⟩ := box5 (HE.out.nth 0 rfl)
    go_wp2_with (first
      | (go_at_call 35; ((with_reducible refine (HOK.out _ HE.out.gr).mono ?_); rintro e w1 ⟨rfl, hg⟩; have HE1 := Lib.hid (HE.out.on hg); obtain ⟨z0, z1, z2, z3, z4⟩ := box5 (HE1.out.nth 0 rfl); clear hg))
      | (go_at_call 40; ((with_reducible refine (HIN.out _).mono ?_); rintro e w2 ⟨rfl, rfl⟩))
      | (go_at_call 41; ((with_reducible refine (HCP.out _ HE1.out.gr).mono ?_); rintro e w2 ⟨q1, d1, q2, d2, q3, d3, q4, d4, rfl, ho, hg⟩; have HE2 := Lib.hid (State.Held.state HE1.out hg ho); obtain ⟨r0, r1, r2, r3, r4⟩ := box5 (HE2.out.nth 1 rfl); obtain ⟨f0, f1, f2, f3, f4⟩ := free5 (HE2.out.nth 1 rfl); obtain ⟨x0, x1, x2, x3⟩ := cells4 (HE2.out.nth 2 rfl); obtain ⟨e0, e1, e2, e3⟩ := frees4 (HE2.out.nth 2 rfl); clear ho hg)))
    have he := (HE2.out.put5 1 rfl (.int .i64 R) (.slice q1 n1 d1) (.slice q2 n2 d2) (.slice q3 n3 d3) (.slice q4 n4 d4)).put4 2 rfl (.int .i64 0) (.int .i64 0) (.int .i64 0) (.int .i64 0)
    exact bodyPost_ret_by (results_two_rows (fn := Try.f16) rfl _ _ (w.heap.size + 1) (w.heap.size + 2) _ _ _ _ (0, 0) (0, 0) _ _ rfl rfl (he.nth 1 rfl) (he.nth 2 rfl) Try.underlying29 rfl (by kernel_rfl) Try.underlying33 rfl (by kernel_rfl)) rfl ⟨q1, d1, q2, d2, q3, d3, q4, d4, rfl, Held.stateOwn he 3 rfl, he.gr⟩
  | true =>
    have hp : dyB R xs ms ts bs r = true := by unfold dyB; rw [hs, hb]; rfl
    unfold dyT dyL
    simp only [hp, if_true]
    have HA2 := Lib.hid (HAP.out hs hb)
    rw [hs] at HOK
    rw [hb] at HIN
    clear hs hp hb HAP HCP
    generalize lowT r ts = mt at *; generalize lossT r ts ts.length = l3 at *;
    go_enter Try.func16, Try.ntmps16
    go_upto_region 1 with fail
    generalize ((w.alloc (.cells #[.int .i64 R, .slice (some ⟨g1, 0, none⟩) n1 c1, .slice (some ⟨g2, 0, none⟩) n2 c2, .slice (some ⟨g3, 0, none⟩) n3 c3, .slice (some ⟨g4, 0, none⟩) n4 c4] 29)).alloc (.cells #[.int .i64 0, .slice none 0 0, .slice none 0 0, .slice none 0 0, .slice none 0 0] 29)).alloc (.cells #[.int .i64 0, .int .i64 0, .int .i64 0, .int .i64 0] 33) = W0 at *
    obtain ⟨p0, p1, p2, p3, p4⟩ := box5 (HE.out.nth 0 rfl)
    go_wp2_with (first
      | (go_at_call 35; ((with_reducible refine (HOK.out _ HE.out.gr).mono ?_); rintro e w1 ⟨rfl, hg⟩; have HE1 := Lib.hid (HE.out.on hg); obtain ⟨z0, z1, z2, z3, z4⟩ := box5 (HE1.out.nth 0 rfl); clear hg))
      | (go_at_call 40; ((with_reducible refine (HIN.out _).mono ?_); rintro e w2 ⟨rfl, rfl⟩))
      | (go_at_call 42; ((with_reducible refine (HA2.out _ HE1.out.gr).mono ?_); rintro e w2 ⟨q1, d1, q2, d2, q3, d3, q4, d4, rfl, ho, hg⟩; have HE2 := Lib.hid (State.Held.state HE1.out hg ho); obtain ⟨r0, r1, r2, r3, r4⟩ := box5 (HE2.out.nth 1 rfl); obtain ⟨f0, f1, f2, f3, f4⟩ := free5 (HE2.out.nth 1 rfl); obtain ⟨x0, x1, x2, x3⟩ := cells4 (HE2.out.nth 2 rfl); obtain ⟨e0, e1, e2, e3⟩ := frees4 (HE2.out.nth 2 rfl); clear ho hg)))
    have he := (HE2.out.put5 1 rfl (.int .i64 R) (.slice q1 n1 d1) (.slice q2 n2 d2) (.slice q3 n3 d3) (.slice q4 n4 d4)).put4 2 rfl (.int .i64 0) (.int .i64 0) (.int .i64 0) (.int .i64 l3)
    exact bodyPost_ret_by (results_two_rows (fn := Try.f16) rfl _ _ (w.heap.size + 1) (w.heap.size + 2) _ _ _ _ (0, 0) (0, 0) _ _ rfl rfl (he.nth 1 rfl) (he.nth 2 rfl) Try.underlying29 rfl (by kernel_rfl) Try.underlying33 rfl (by kernel_rfl)) rfl ⟨q1, d1, q2, d2, q3, d3, q4, d4, rfl, Held.stateOwn he 3 rfl, he.gr⟩
end Go.Proofs.Ytcboogodphpjbaa.State
