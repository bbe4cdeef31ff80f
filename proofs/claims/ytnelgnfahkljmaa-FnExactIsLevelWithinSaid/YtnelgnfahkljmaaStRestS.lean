/- States at rest: the reference model's IsAtRest, IsLevelWithin, DryLeaves, WaterLine, as contracts: what each answers; nothing that was there is written.
   Conditions: at most 2^20 leaves and numbers. -/
import Derived.Test.YtnelgnfahkljmaaStRestP
import Derived.Test.YtnelgnfahkljmaaStFluxV
set_option maxRecDepth 100000
namespace Go.Proofs.Ytnelgnfahkljmaa.State
open Go.ChangeShapes Go.WideShapes Go.ChangeAt Go.RowKit Go.Joins Go.Proofs.Ytnelgnfahkljmaa.Cell Go.Proofs.Ytnelgnfahkljmaa.Mesh Go.Proofs.Ytnelgnfahkljmaa.Law Go.Proofs.Ytnelgnfahkljmaa.Ints Go.Deep

set_option maxHeartbeats 8000000 in
theorem specIsAtRest_is (R : Int) (a1 a2 a3 a4 : Option Addr) (n1 n2 n3 n4 c1 c2 c3 c4 : Nat) (xs : List C3) (ms ts bs : List Int) (w : World) (h : ReadsS w a1 a2 a3 a4 n1 n2 n3 n4 xs ms ts bs) (h1 : n1 ≤ 1048576) (h2 : n2 ≤ 1048576) (h3 : n3 ≤ 1048576) (h4 : n4 ≤ 1048576) :
    Calls Try.prog 22 #[.agg #[.int .i64 R, .slice a1 n1 c1, .slice a2 n2 c2, .slice a3 n3 c3, .slice a4 n4 c4]] w fun e w' => e = .returned (.bool (restG R xs ms ts bs)) ∧ w.grownBy w' none := by
  have hok : ∀ u, w.grownBy u none → Calls Try.prog 38 #[.agg #[.int .i64 R, .slice a1 n1 c1, .slice a2 n2 c2, .slice a3 n3 c3, .slice a4 n4 c4]] u fun e w' => e = .returned (.bool (stOk R xs ms ts bs)) ∧ u.grownBy w' none := fun u hu => specStateOk_is R a1 a2 a3 a4 n1 n2 n3 n4 c1 c2 c3 c4 xs ms ts bs u (h.on hu) h1 h2 h3 h4
  have HOK := Lib.hid hok
  have HE := Lib.hid ((Held.nil w).box 31 #[.int .i64 R, .slice a1 n1 c1, .slice a2 n2 c2, .slice a3 n3 c3, .slice a4 n4 c4])
  clear hok
  have HAF := Lib.hid fun (u : World) (hu : w.grownBy u none) => specAllFluxes_is R a1 a2 a3 a4 n1 n2 n3 n4 c1 c2 c3 c4 xs ms ts bs u (h.on hu) h1 h2 h3 h4
  unfold restG
  cases hs : stOk R xs ms ts bs with
  | false =>
    rw [hs] at HOK
    rw [show fluxesG R xs ms ts bs = [] from if_neg (by rw [hs]; simp)] at HAF
    clear hs
    go_enter Try.func22, Try.ntmps22
    go_upto_region 1 with fail
    generalize w.alloc (.cells #[.int .i64 R, .slice a1 n1 c1, .slice a2 n2 c2, .slice a3 n3 c3, .slice a4 n4 c4] 31) = W0 at *
    obtain ⟨p0, p1, p2, p3, p4⟩ := box5 (HE.out.nth 0 rfl)
    go_wp2_with (go_at_call 53; ((with_reducible refine (HAF.out _ HE.out.gr).mono ?_); rintro e w1 ⟨q, d, rfl, ho, hg⟩; have HE1 := Lib.hid (HE.out.row hg ho); clear ho hg))
    clear p0 p1 p2 p3 p4 HE HAF
    simp only [List.length_nil] at HE1 ⊢
    go_loopw [4] (fun i wr => i = .int .i64 0 ∧ Hid (Held w wr [boxG w.heap.size 31 #[.int .i64 R, .slice a1 n1 c1, .slice a2 n2 c2, .slice a3 n3 c3, .slice a4 n4 c4], rowG 3 1 (.slice q 0 d) 0 (vals [])])) (fun _ _ => 0)
    case atStart => exact ⟨rfl, HE1⟩
    case round =>
      clear HE1
      obtain ⟨rfl, HF⟩ := hrel
      obtain ⟨p0, p1, p2, p3, p4⟩ := box5 (HF.out.nth 0 rfl)
      go_wp2_with (go_at_call 38; ((with_reducible refine (HOK.out _ HF.out.gr).mono ?_); rintro e w1 ⟨rfl, hg⟩; have HF2 := Lib.hid (HF.out.on hg); clear hg))
      go_ret
      exact ⟨rfl, HF2.out.gr⟩
  | true =>
    rw [hs] at HOK
    rw [Bool.true_and]
    rw [show fluxesG R xs ms ts bs = fluxes xs ms bs from if_pos hs] at HAF
    obtain ⟨-, hx0, hx1⟩ := mesh_parts (show meshOk R xs = true by
      obtain ⟨p1, -⟩ := stOk_parts hs
      unfold balanced at p1; simp only [Bool.and_eq_true] at p1; exact p1.1)
    obtain ⟨p, hp⟩ : ∃ p, xs.length = p + 1 := ⟨xs.length - 1, by omega⟩
    have hfl : (fluxes xs ms bs).length = p := by rw [fluxes_len]; omega
    have hpi : (p : Int) ≤ 128 := by omega
    have HAT := Lib.hid fun (k : Nat) (hk : k < p) => fluxes_at (xs := xs) (ms := ms) (bs := bs) (k := k) (by omega)
    rw [show xs.length - 1 = p by omega]
    unfold GivesI at HAF
    rw [hfl] at HAF
    clear hs h h1 h2 h3 h4 hx0 hx1 hp hfl
    go_enter Try.func22, Try.ntmps22
    go_upto_region 1 with fail
    generalize w.alloc (.cells #[.int .i64 R, .slice a1 n1 c1, .slice a2 n2 c2, .slice a3 n3 c3, .slice a4 n4 c4] 31) = W0 at *
    obtain ⟨p0, p1, p2, p3, p4⟩ := box5 (HE.out.nth 0 rfl)
    go_wp2_with (go_at_call 53; ((with_reducible refine (HAF.out _ HE.out.gr).mono ?_); rintro e w1 ⟨q, d, rfl, ho, hg⟩; have HE1 := Lib.hid (HE.out.row hg ho); clear ho hg))
    clear p0 p1 p2 p3 p4 HE HAF
    go_loopw [4] (fun i wr => ∃ (k : Nat), (k : Int) ≤ p ∧ i = .int .i64 k ∧ Hid (∀ j, j < k → fluxAt xs ms bs j = 0) ∧ Hid (Held w wr [boxG w.heap.size 31 #[.int .i64 R, .slice a1 n1 c1, .slice a2 n2 c2, .slice a3 n3 c3, .slice a4 n4 c4], rowG 3 1 (.slice q p d) p (vals (fluxes xs ms bs))])) (fun i _ => p - (intOf i).toNat)
    case atStart => exact ⟨0, by omega, rfl, Lib.hid (fun j hj => by omega), HE1⟩
    case round =>
      clear HE1
      obtain ⟨k, hk, rfl, HS, HF⟩ := hrel
      by_cases hlt : (k : Int) < p
      · have HK := Lib.hid (show k < p by omega)
        have hat := HAT.out k HK.out
        obtain ⟨F, hF⟩ : ∃ F, fluxAt xs ms bs k = F := ⟨_, rfl⟩
        rw [hF] at hat
        obtain ⟨gq, oq, rfl, f0⟩ := (Ints.own_readsI (HF.out.nth 1 rfl)).at_ k _ hat
        clear hat
        by_cases hz : F = 0
        · subst hz
          have HN := Lib.hid (show ∀ j, j < k + 1 → fluxAt xs ms bs j = 0 from fun j hj => by
            by_cases e : j = k
            · rw [e]; exact hF
            · exact HS.out j (by omega))
          clear hF HS
          go_wp2_with fail
          go_roundw
          case rel => exact ⟨k + 1, by omega, by go_num, HN, HF⟩
          case measure => simp [intOf]; omega
        · have HN := Lib.hid (still_no HK.out (by rw [hF]; exact hz))
          clear hF HS
          go_wp2_with fail
          go_ret
          exact ⟨by rw [HN.out]; rfl, HF.out.gr⟩
      · obtain rfl : p = k := by omega
        obtain ⟨p0, p1, p2, p3, p4⟩ := box5 (HF.out.nth 0 rfl)
        go_wp2_with (go_at_call 38; ((with_reducible refine (HOK.out _ HF.out.gr).mono ?_); rintro e w1 ⟨rfl, hg⟩; have HF2 := Lib.hid (HF.out.on hg); clear hg))
        go_ret
        exact ⟨by rw [still_all HS.out]; rfl, HF2.out.gr⟩

set_option maxHeartbeats 16000000 in
theorem specIsLevel_is (R : Int) (a1 a2 a3 a4 : Option Addr) (n1 n2 n3 n4 c1 c2 c3 c4 : Nat) (xs : List C3) (ms ts bs : List Int) (wd : Int) (w : World) (h : ReadsS w a1 a2 a3 a4 n1 n2 n3 n4 xs ms ts bs) (h1 : n1 ≤ 1048576) (h2 : n2 ≤ 1048576) (h3 : n3 ≤ 1048576) (h4 : n4 ≤ 1048576) :
    Calls Try.prog 25 #[.agg #[.int .i64 R, .slice a1 n1 c1, .slice a2 n2 c2, .slice a3 n3 c3, .slice a4 n4 c4], .int .i64 wd] w fun e w' => e = .returned (.bool (levG R xs ms ts bs wd)) ∧ w.grownBy w' none := by
  have hok : ∀ u, w.grownBy u none → Calls Try.prog 38 #[.agg #[.int .i64 R, .slice a1 n1 c1, .slice a2 n2 c2, .slice a3 n3 c3, .slice a4 n4 c4]] u fun e w' => e = .returned (.bool (stOk R xs ms ts bs)) ∧ u.grownBy w' none := fun u hu => specStateOk_is R a1 a2 a3 a4 n1 n2 n3 n4 c1 c2 c3 c4 xs ms ts bs u (h.on hu) h1 h2 h3 h4
  have HOK := Lib.hid hok
  have HE := Lib.hid ((Held.nil w).box 31 #[.int .i64 R, .slice a1 n1 c1, .slice a2 n2 c2, .slice a3 n3 c3, .slice a4 n4 c4])
  clear hok
  unfold levG
  cases hs : stOk R xs ms ts bs with
  | false =>
    rw [hs] at HOK
    clear hs
    go_enter Try.func25, Try.ntmps25
    go_upto_region 1 with fail
    generalize w.alloc (.cells #[.int .i64 R, .slice a1 n1 c1, .slice a2 n2 c2, .slice a3 n3 c3, .slice a4 n4 c4] 31) = W0 at *
    obtain ⟨p0, p1, p2, p3, p4⟩ := box5 (HE.out.nth 0 rfl)
    go_wp2_with (go_at_call 38; ((with_reducible refine (HOK.out _ HE.out.gr).mono ?_); rintro e w1 ⟨rfl, hg⟩; have HE1 := Lib.hid (HE.out.on hg); clear hg))
    go_ret
    exact ⟨rfl, HE1.out.gr⟩
  | true =>
    rw [hs] at HOK
    rw [Bool.true_and]
    have hmk : meshOk R xs = true := by
      obtain ⟨p1, -⟩ := stOk_parts hs
      unfold balanced at p1; simp only [Bool.and_eq_true] at p1; exact p1.1
    obtain ⟨-, hx0, hx1⟩ := mesh_parts hmk
    have hl := h.l.len
    obtain rfl : n2 = n1 := by rw [← h.m.len, (stOk_parts hs).2.1.1, hl]
    obtain ⟨p, rfl⟩ : ∃ p, n2 = p + 1 := ⟨n2 - 1, by omega⟩
    have hpi : (p : Int) ≤ 128 := by omega
    rw [hl, Nat.add_sub_cancel]
    have HCX := Lib.hid fun (k : Nat) (hk : k < p + 1) (u : World) (hu : w.grownBy u none) => specSurf_is R a1 a2 a3 a4 (p + 1) (p + 1) n3 n4 c1 c2 c3 c4 k xs ms ts bs u (h.on hu) h1 hs hk
    have HFCX := Lib.hid fun (k : Nat) (hk : k + 1 < p + 1) => face_cells h hs hk
    have HBD := Lib.hid fun (k : Nat) (hk : k < p + 1) => leaf_bounds hs (k := k) (by omega)
    clear hs h h1 h2 h3 h4 hx0 hx1 hl hmk
    go_enter Try.func25, Try.ntmps25
    go_upto_region 1 with fail
    generalize w.alloc (.cells #[.int .i64 R, .slice a1 (p + 1) c1, .slice a2 (p + 1) c2, .slice a3 n3 c3, .slice a4 n4 c4] 31) = W0 at *
    obtain ⟨p0, p1, p2, p3, p4⟩ := box5 (HE.out.nth 0 rfl)
    go_wp2_with (go_at_call 38; ((with_reducible refine (HOK.out _ HE.out.gr).mono ?_); rintro e w1 ⟨rfl, hg⟩; have HE1 := Lib.hid (HE.out.on hg); clear hg))
    clear p0 p1 p2 p3 p4 HE HOK
    go_loopw [5] (fun i wr => ∃ (k : Nat), (k : Int) ≤ p ∧ i = .int .i64 k ∧ Hid (∀ j, j < k → levF xs ms bs wd j = true) ∧ Hid (Held w wr [boxG w.heap.size 31 #[.int .i64 R, .slice a1 (p + 1) c1, .slice a2 (p + 1) c2, .slice a3 n3 c3, .slice a4 n4 c4]])) (fun i _ => p - (intOf i).toNat)
    case atStart => exact ⟨0, by omega, rfl, Lib.hid (fun j hj => by omega), HE1⟩
    case round =>
      clear HE1
      obtain ⟨k, hk, rfl, HS, HF⟩ := hrel
      obtain ⟨p0, p1, p2, p3, p4⟩ := box5 (HF.out.nth 0 rfl)
      by_cases hlt : (k : Int) < p
      · have HK := Lib.hid (show k < p by omega)
        have HC0 := Lib.hid (HCX.out k (by omega))
        have HC1 := Lib.hid (HCX.out (k + 1) (by omega))
        obtain ⟨g1, g2, o2, rfl, rfl, -, hfc⟩ := HFCX.out k (by omega)
        have HFC := Lib.hid hfc
        clear hfc
        obtain ⟨s0, s1, -⟩ := HBD.out k (by omega)
        obtain ⟨r0, r1, -⟩ := HBD.out (k + 1) (by omega)
        have HY := Lib.hid (show ¬ (wd < surf xs ms bs k - surf xs ms bs (k + 1) ∧ 4 ≤ msAt ms k) → ¬ (wd < surf xs ms bs (k + 1) - surf xs ms bs k ∧ 4 ≤ msAt ms (k + 1)) → ∀ j, j < k + 1 → levF xs ms bs wd j = true from fun z1 z2 j hj => by
          by_cases e : j = k
          · rw [e]; exact levF_yes z1 z2
          · exact HS.out j (by omega))
        have HN := Lib.hid (show (wd < surf xs ms bs k - surf xs ms bs (k + 1) ∧ 4 ≤ msAt ms k) ∨ (wd < surf xs ms bs (k + 1) - surf xs ms bs k ∧ 4 ≤ msAt ms (k + 1)) → lev xs ms bs wd p = false from fun z => lev_no HK.out (levF_no z))
        have hc1 : ((k + 1 : Nat) : Int) = (k : Int) + 1 := by omega
        rw [hc1] at HC1
        generalize surf xs ms bs k = s at *
        generalize surf xs ms bs (k + 1) = t at *
        generalize msAt ms k = ma at *
        generalize msAt ms (k + 1) = mb at *
        clear HS HCX HFCX HBD
        by_cases x1 : wd < s - t
        · by_cases x2 : 4 ≤ ma
          · have HN := Lib.hid (HN.out (.inl ⟨x1, x2⟩))
            clear HY
            go_wp2_with (first | (go_at_call 57; ((with_reducible refine (HC0.out _ HF.out.gr).mono ?_); rintro e w4 ⟨rfl, hg⟩; have HF2 := Lib.hid (HF.out.on hg); obtain ⟨q0, q1, q2, q3, q4⟩ := box5 (HF2.out.nth 0 rfl); clear hg)) | (go_at_call 57; ((with_reducible refine (HC1.out _ HF2.out.gr).mono ?_); rintro e w5 ⟨rfl, hg⟩; have HF3 := Lib.hid (HF2.out.on hg); obtain ⟨t0, t1, t2, t3, t4⟩ := box5 (HF3.out.nth 0 rfl); obtain ⟨f0, f1, f2, f3⟩ := HFC.out _ HF3.out.gr; clear hg)))
            go_ret
            exact ⟨by rw [HN.out]; rfl, HF3.out.gr⟩
          · by_cases y1 : wd < t - s
            · by_cases y2 : 4 ≤ mb
              · have HN := Lib.hid (HN.out (.inr ⟨y1, y2⟩))
                clear HY
                go_wp2_with (first | (go_at_call 57; ((with_reducible refine (HC0.out _ HF.out.gr).mono ?_); rintro e w4 ⟨rfl, hg⟩; have HF2 := Lib.hid (HF.out.on hg); obtain ⟨q0, q1, q2, q3, q4⟩ := box5 (HF2.out.nth 0 rfl); clear hg)) | (go_at_call 57; ((with_reducible refine (HC1.out _ HF2.out.gr).mono ?_); rintro e w5 ⟨rfl, hg⟩; have HF3 := Lib.hid (HF2.out.on hg); obtain ⟨t0, t1, t2, t3, t4⟩ := box5 (HF3.out.nth 0 rfl); obtain ⟨f0, f1, f2, f3⟩ := HFC.out _ HF3.out.gr; clear hg)))
                go_ret
                exact ⟨by rw [HN.out]; rfl, HF3.out.gr⟩
              · have HY := Lib.hid (HY.out (fun z => x2 z.2) (fun z => y2 z.2))
                clear HN
                go_wp2_with (first | (go_at_call 57; ((with_reducible refine (HC0.out _ HF.out.gr).mono ?_); rintro e w4 ⟨rfl, hg⟩; have HF2 := Lib.hid (HF.out.on hg); obtain ⟨q0, q1, q2, q3, q4⟩ := box5 (HF2.out.nth 0 rfl); clear hg)) | (go_at_call 57; ((with_reducible refine (HC1.out _ HF2.out.gr).mono ?_); rintro e w5 ⟨rfl, hg⟩; have HF3 := Lib.hid (HF2.out.on hg); obtain ⟨t0, t1, t2, t3, t4⟩ := box5 (HF3.out.nth 0 rfl); obtain ⟨f0, f1, f2, f3⟩ := HFC.out _ HF3.out.gr; clear hg)))
                go_roundw
                case rel => exact ⟨k + 1, by omega, by go_num, HY, HF3⟩
                case measure => simp [intOf]; omega
            · have HY := Lib.hid (HY.out (fun z => x2 z.2) (fun z => y1 z.1))
              clear HN
              go_wp2_with (first | (go_at_call 57; ((with_reducible refine (HC0.out _ HF.out.gr).mono ?_); rintro e w4 ⟨rfl, hg⟩; have HF2 := Lib.hid (HF.out.on hg); obtain ⟨q0, q1, q2, q3, q4⟩ := box5 (HF2.out.nth 0 rfl); clear hg)) | (go_at_call 57; ((with_reducible refine (HC1.out _ HF2.out.gr).mono ?_); rintro e w5 ⟨rfl, hg⟩; have HF3 := Lib.hid (HF2.out.on hg); obtain ⟨t0, t1, t2, t3, t4⟩ := box5 (HF3.out.nth 0 rfl); obtain ⟨f0, f1, f2, f3⟩ := HFC.out _ HF3.out.gr; clear hg)))
              go_roundw
              case rel => exact ⟨k + 1, by omega, by go_num, HY, HF3⟩
              case measure => simp [intOf]; omega
        · by_cases y1 : wd < t - s
          · by_cases y2 : 4 ≤ mb
            · have HN := Lib.hid (HN.out (.inr ⟨y1, y2⟩))
              clear HY
              go_wp2_with (first | (go_at_call 57; ((with_reducible refine (HC0.out _ HF.out.gr).mono ?_); rintro e w4 ⟨rfl, hg⟩; have HF2 := Lib.hid (HF.out.on hg); obtain ⟨q0, q1, q2, q3, q4⟩ := box5 (HF2.out.nth 0 rfl); clear hg)) | (go_at_call 57; ((with_reducible refine (HC1.out _ HF2.out.gr).mono ?_); rintro e w5 ⟨rfl, hg⟩; have HF3 := Lib.hid (HF2.out.on hg); obtain ⟨t0, t1, t2, t3, t4⟩ := box5 (HF3.out.nth 0 rfl); obtain ⟨f0, f1, f2, f3⟩ := HFC.out _ HF3.out.gr; clear hg)))
              go_ret
              exact ⟨by rw [HN.out]; rfl, HF3.out.gr⟩
            · have HY := Lib.hid (HY.out (fun z => x1 z.1) (fun z => y2 z.2))
              clear HN
              go_wp2_with (first | (go_at_call 57; ((with_reducible refine (HC0.out _ HF.out.gr).mono ?_); rintro e w4 ⟨rfl, hg⟩; have HF2 := Lib.hid (HF.out.on hg); obtain ⟨q0, q1, q2, q3, q4⟩ := box5 (HF2.out.nth 0 rfl); clear hg)) | (go_at_call 57; ((with_reducible refine (HC1.out _ HF2.out.gr).mono ?_); rintro e w5 ⟨rfl, hg⟩; have HF3 := Lib.hid (HF2.out.on hg); obtain ⟨t0, t1, t2, t3, t4⟩ := box5 (HF3.out.nth 0 rfl); obtain ⟨f0, f1, f2, f3⟩ := HFC.out _ HF3.out.gr; clear hg)))
              go_roundw
              case rel => exact ⟨k + 1, by omega, by go_num, HY, HF3⟩
              case measure => simp [intOf]; omega
          · have HY := Lib.hid (HY.out (fun z => x1 z.1) (fun z => y1 z.1))
            clear HN
            go_wp2_with (first | (go_at_call 57; ((with_reducible refine (HC0.out _ HF.out.gr).mono ?_); rintro e w4 ⟨rfl, hg⟩; have HF2 := Lib.hid (HF.out.on hg); obtain ⟨q0, q1, q2, q3, q4⟩ := box5 (HF2.out.nth 0 rfl); clear hg)) | (go_at_call 57; ((with_reducible refine (HC1.out _ HF2.out.gr).mono ?_); rintro e w5 ⟨rfl, hg⟩; have HF3 := Lib.hid (HF2.out.on hg); obtain ⟨t0, t1, t2, t3, t4⟩ := box5 (HF3.out.nth 0 rfl); obtain ⟨f0, f1, f2, f3⟩ := HFC.out _ HF3.out.gr; clear hg)))
            go_roundw
            case rel => exact ⟨k + 1, by omega, by go_num, HY, HF3⟩
            case measure => simp [intOf]; omega
      · obtain rfl : p = k := by omega
        go_wp2_with fail
        go_ret
        exact ⟨by rw [lev_all HS.out]; rfl, HF.out.gr⟩

theorem dry_snocS {ms : List Int} {k : Nat} (h : msAt ms k = 0) : vals (toI (dryF ms k)) ++ [Value.int .i64 (k : Int)] = vals (toI (dryF ms (k + 1))) := by
  rw [dryF_yes h, toI_snoc]; simp [vals]
theorem dry_len1S {ms : List Int} {k : Nat} (h : msAt ms k = 0) : (dryF ms (k + 1)).length = (dryF ms k).length + 1 := by
  rw [dryF_yes h, List.length_append]; rfl

set_option maxHeartbeats 8000000 in
theorem specDryLeaves_is (R : Int) (a1 a2 a3 a4 : Option Addr) (n1 n2 n3 n4 c1 c2 c3 c4 : Nat) (xs : List C3) (ms ts bs : List Int) (w : World) (h : ReadsS w a1 a2 a3 a4 n1 n2 n3 n4 xs ms ts bs) (h1 : n1 ≤ 1048576) (h2 : n2 ≤ 1048576) (h3 : n3 ≤ 1048576) (h4 : n4 ≤ 1048576) :
    Calls Try.prog 26 #[.agg #[.int .i64 R, .slice a1 n1 c1, .slice a2 n2 c2, .slice a3 n3 c3, .slice a4 n4 c4]] w (GivesI (dryG R xs ms ts bs) w) := by
  have hok : ∀ u, w.grownBy u none → Calls Try.prog 38 #[.agg #[.int .i64 R, .slice a1 n1 c1, .slice a2 n2 c2, .slice a3 n3 c3, .slice a4 n4 c4]] u fun e w' => e = .returned (.bool (stOk R xs ms ts bs)) ∧ u.grownBy w' none := fun u hu => specStateOk_is R a1 a2 a3 a4 n1 n2 n3 n4 c1 c2 c3 c4 xs ms ts bs u (h.on hu) h1 h2 h3 h4
  have HOK := Lib.hid hok
  have HE := Lib.hid ((Held.nil w).box 31 #[.int .i64 R, .slice a1 n1 c1, .slice a2 n2 c2, .slice a3 n3 c3, .slice a4 n4 c4])
  clear hok
  have HEM := Lib.hid fun (W : World) => own_emptyI W W.heap.size (Nat.le_refl _)
  have hni : (n2 : Int) ≤ 1048576 := by omega
  unfold dryG
  cases hs : stOk R xs ms ts bs with
  | false =>
    rw [hs] at HOK
    clear hs h h1 h2 h3 h4
    go_enter Try.func26, Try.ntmps26
    go_upto_region 1 with fail
    generalize w.alloc (.cells #[.int .i64 R, .slice a1 n1 c1, .slice a2 n2 c2, .slice a3 n3 c3, .slice a4 n4 c4] 31) = W0 at *
    go_upto_region 2 with fail
    have HE2 := Lib.hid (HE.out.row (World.grownBy_alloc W0 (.cells #[] 3) none) (HEM.out W0))
    obtain ⟨B, hB⟩ : ∃ B, B = W0.heap.size := ⟨_, rfl⟩
    rw [← hB] at HE2 ⊢
    clear hB HE HEM
    generalize W0.alloc (.cells #[] 3) = W2 at *
    go_wp2_with fail
    go_loopw [3, 4] (fun v i wr => v = .slice (some ⟨B, 0, none⟩) 0 0 ∧ i = .int .i64 0 ∧ Hid (Held w wr [boxG w.heap.size 31 #[.int .i64 R, .slice a1 n1 c1, .slice a2 n2 c2, .slice a3 n3 c3, .slice a4 n4 c4], rowG 3 1 (.slice (some ⟨B, 0, none⟩) 0 0) 0 []])) (fun _ _ _ => 0)
    case atStart => exact ⟨rfl, rfl, HE2⟩
    case round =>
      clear HE2
      obtain ⟨rfl, rfl, HF⟩ := hrel
      obtain ⟨p0, p1, p2, p3, p4⟩ := box5 (HF.out.nth 0 rfl)
      by_cases hlt : (0 : Int) < n2
      · go_wp2_with (go_at_call 38; ((with_reducible refine (HOK.out _ HF.out.gr).mono ?_); rintro e w1 ⟨rfl, hg⟩; have HE1 := Lib.hid (HF.out.on hg); clear hg))
        go_ret
        exact ⟨_, _, rfl, HE1.out.own 1 rfl, HE1.out.gr⟩
      · go_wp2_with fail
        go_ret
        exact ⟨_, _, rfl, HF.out.own 1 rfl, HF.out.gr⟩
  | true =>
    rw [hs] at HOK
    rw [if_pos rfl]
    have HRM := Lib.hid h.m
    have HFL := Lib.hid fun k => dryF_len ms k
    obtain ⟨i0, hi0, hz0, hz1, hz2⟩ := info_parts infoInt
    clear hs h h1 h2 h3 h4
    go_enter Try.func26, Try.ntmps26
    go_upto_region 1 with fail
    generalize w.alloc (.cells #[.int .i64 R, .slice a1 n1 c1, .slice a2 n2 c2, .slice a3 n3 c3, .slice a4 n4 c4] 31) = W0 at *
    go_upto_region 2 with fail
    have HE2 := Lib.hid (HE.out.row (World.grownBy_alloc W0 (.cells #[] 3) none) (HEM.out W0))
    obtain ⟨B, hB⟩ : ∃ B, B = W0.heap.size := ⟨_, rfl⟩
    rw [← hB] at HE2 ⊢
    clear hB HE HEM
    generalize W0.alloc (.cells #[] 3) = W2 at *
    go_wp2_with fail
    go_loopw [3, 4] (fun v i wr => ∃ (k m : Nat) (q : Option Addr) (d : Nat), (k : Int) ≤ n2 ∧ i = .int .i64 k ∧ v = .slice q m d ∧ Hid (m = (dryF ms k).length) ∧ Hid (Held w wr [boxG w.heap.size 31 #[.int .i64 R, .slice a1 n1 c1, .slice a2 n2 c2, .slice a3 n3 c3, .slice a4 n4 c4], rowG 3 1 (.slice q m d) m (vals (toI (dryF ms k)))])) (fun _ i _ => n2 - (intOf i).toNat)
    case atStart => exact ⟨0, 0, _, _, by omega, rfl, rfl, Lib.hid rfl, HE2⟩
    case round =>
      clear HE2
      obtain ⟨k, m, q, d, hk, rfl, rfl, HM, HF⟩ := hrel
      obtain ⟨p0, p1, p2, p3, p4⟩ := box5 (HF.out.nth 0 rfl)
      by_cases hlt : (k : Int) < n2
      · have HK := Lib.hid (show k < n2 by omega)
        obtain ⟨x, hx⟩ := getI HRM.out.len (k := k) HK.out
        have hxm := msAt_of hx
        obtain ⟨g2, o2, rfl, -⟩ := (HRM.out.on HF.out.gr).at_ k _ hx
        have HX := Lib.hid (show ∀ u, w.grownBy u none → u.cell? ⟨g2, o2 + k, none⟩ = some (.int .i64 x) from fun u hu => by
          obtain ⟨g2', o2', e, hc⟩ := (HRM.out.on hu).at_ k _ hx
          cases e; exact hc)
        have hm : (m : Int) ≤ k := by have := HM.out; have := HFL.out k; omega
        by_cases hz : x = 0
        · subst hz
          have HT := Lib.hid (dry_snocS hxm)
          have HT1 := Lib.hid (dry_len1S hxm)
          clear hx hxm
          go_wp2_with (first
            | (go_at_call 38; ((with_reducible refine (HOK.out _ HF.out.gr).mono ?_); rintro e w1 ⟨rfl, hg⟩; have HF2 := Lib.hid (HF.out.on hg); obtain ⟨q0, q1, q2, q3, q4⟩ := box5 (HF2.out.nth 0 rfl); have f0 := HX.out _ HF2.out.gr; clear hg))
            | (at_builtin; refine wpList_append_own_at _ rfl _ _ 27 rfl 0 3 i0 (.int .i64 0) 1 8 Try.underlying27 hi0 hz0 hz1 hz2 rfl (by decide) _ m (vals (toI (dryF ms k))) rfl (own_on (HF2.out.nth 1 rfl) (World.grownBy_alloc _ _ none)) ⟨_, 0, none⟩ 1 1 [.int .i64 k] rfl rfl (cell_one_new _ _ _) (fun x hx => by simp at hx; subst hx; rfl) (by have := HK.out; unfold maxLen; omega) (by have := HK.out; omega) (Nat.zero_le _) ?_; intro v' w6 hown hg _ hat; rw [HT.out] at hown; obtain ⟨q', d', rfl⟩ := own_shapeAny hown; have HE6 := Lib.hid ((HF2.out.on (World.grownBy_alloc _ _ none)).appended 1 rfl hown hg hat); clear hown hg hat))
          exact ⟨⟨k + 1, m + 1, q', d', by omega, by go_num, rfl, Lib.hid (by rw [HT1.out, HM.out]), HE6⟩, by simp [intOf]; omega⟩
        · have HT := Lib.hid (dryF_no (ms := ms) (n := k) (by rw [hxm]; exact hz))
          clear hx hxm
          go_wp2_with (go_at_call 38; ((with_reducible refine (HOK.out _ HF.out.gr).mono ?_); rintro e w1 ⟨rfl, hg⟩; have HF2 := Lib.hid (HF.out.on hg); obtain ⟨q0, q1, q2, q3, q4⟩ := box5 (HF2.out.nth 0 rfl); have f0 := HX.out _ HF2.out.gr; clear hg))
          exact ⟨⟨k + 1, m, q, d, by omega, by go_num, rfl, Lib.hid (by rw [HT.out]; exact HM.out), by rw [HT.out]; exact HF2⟩, by simp [intOf]; omega⟩
      · obtain rfl : n2 = k := by omega
        go_wp2_with fail
        go_ret
        have hr := HF.out.own 1 rfl
        have e : m = (toI (dryF ms ms.length)).length := by rw [toI_len, HM.out, HRM.out.len]
        rw [show dryF ms n2 = dryF ms ms.length by rw [HRM.out.len]] at hr
        subst e
        exact ⟨q, d, rfl, hr, HF.out.gr⟩

set_option maxHeartbeats 8000000 in
theorem specWaterLine_is (R : Int) (a1 a2 a3 a4 : Option Addr) (n1 n2 n3 n4 c1 c2 c3 c4 : Nat) (xs : List C3) (ms ts bs : List Int) (w : World) (h : ReadsS w a1 a2 a3 a4 n1 n2 n3 n4 xs ms ts bs) (h1 : n1 ≤ 1048576) (h2 : n2 ≤ 1048576) (h3 : n3 ≤ 1048576) (h4 : n4 ≤ 1048576) :
    Calls Try.prog 31 #[.agg #[.int .i64 R, .slice a1 n1 c1, .slice a2 n2 c2, .slice a3 n3 c3, .slice a4 n4 c4]] w fun e w' => e = .returned (.tuple #[.int .i64 (waterG R xs ms ts bs).1, .int .i64 (waterG R xs ms ts bs).2]) ∧ w.grownBy w' none := by
  have hok : ∀ u, w.grownBy u none → Calls Try.prog 38 #[.agg #[.int .i64 R, .slice a1 n1 c1, .slice a2 n2 c2, .slice a3 n3 c3, .slice a4 n4 c4]] u fun e w' => e = .returned (.bool (stOk R xs ms ts bs)) ∧ u.grownBy w' none := fun u hu => specStateOk_is R a1 a2 a3 a4 n1 n2 n3 n4 c1 c2 c3 c4 xs ms ts bs u (h.on hu) h1 h2 h3 h4
  have HOK := Lib.hid hok
  have HE := Lib.hid ((Held.nil w).box 31 #[.int .i64 R, .slice a1 n1 c1, .slice a2 n2 c2, .slice a3 n3 c3, .slice a4 n4 c4])
  clear hok
  have hni : (n2 : Int) ≤ 1048576 := by omega
  unfold waterG
  cases hs : stOk R xs ms ts bs with
  | false =>
    rw [hs] at HOK
    clear hs h h1 h2 h3 h4
    go_enter Try.func31, Try.ntmps31
    go_upto_region 1 with fail
    generalize w.alloc (.cells #[.int .i64 R, .slice a1 n1 c1, .slice a2 n2 c2, .slice a3 n3 c3, .slice a4 n4 c4] 31) = W0 at *
    go_wp2_with fail
    go_loopw [4, 5, 6] (fun a b i wr => a = .int .i64 (-1) ∧ b = .int .i64 0 ∧ i = .int .i64 0 ∧ Hid (Held w wr [boxG w.heap.size 31 #[.int .i64 R, .slice a1 n1 c1, .slice a2 n2 c2, .slice a3 n3 c3, .slice a4 n4 c4]])) (fun _ _ _ _ => 0)
    case atStart => exact ⟨rfl, rfl, rfl, HE⟩
    case round =>
      clear HE
      obtain ⟨rfl, rfl, rfl, HF⟩ := hrel
      obtain ⟨p0, p1, p2, p3, p4⟩ := box5 (HF.out.nth 0 rfl)
      by_cases hlt : (0 : Int) < n2
      · go_wp2_with (go_at_call 38; ((with_reducible refine (HOK.out _ HF.out.gr).mono ?_); rintro e w1 ⟨rfl, hg⟩; have HE1 := Lib.hid (HF.out.on hg); clear hg))
        exact bodyPost_ret_by (results_tmp2 (fn := Try.f31) rfl _ _ _) rfl ⟨rfl, HE1.out.gr⟩
      · go_wp2_with fail
        exact bodyPost_ret_by (results_tmp2 (fn := Try.f31) rfl _ _ _) rfl ⟨rfl, HF.out.gr⟩
  | true =>
    rw [hs] at HOK
    rw [if_pos rfl]
    have hmk : meshOk R xs = true := by
      obtain ⟨p1, -⟩ := stOk_parts hs
      unfold balanced at p1; simp only [Bool.and_eq_true] at p1; exact p1.1
    obtain ⟨-, hx0, hx1⟩ := mesh_parts hmk
    have hl := h.l.len
    obtain rfl : n2 = n1 := by rw [← h.m.len, (stOk_parts hs).2.1.1, hl]
    have hm2 := h.m.len
    rw [hm2]
    have HRL := Lib.hid h.l; have HRM := Lib.hid h.m
    have HEN := Lib.hid fun (k : Nat) (hk : k < n2) => ends_at hmk (k := k) (by omega)
    have HWF := Lib.hid fun (k : Nat) (hk : k ≤ n2) => water_facts (ms := ms) hmk k (by omega)
    clear hs h h1 h2 h3 h4 hx0 hx1 hl hmk hm2
    go_enter Try.func31, Try.ntmps31
    go_upto_region 1 with fail
    generalize w.alloc (.cells #[.int .i64 R, .slice a1 n2 c1, .slice a2 n2 c2, .slice a3 n3 c3, .slice a4 n4 c4] 31) = W0 at *
    go_wp2_with fail
    go_loopw [4, 5, 6] (fun a b i wr => ∃ (k : Nat) (f v : Int), (k : Int) ≤ n2 ∧ i = .int .i64 k ∧ a = .int .i64 f ∧ b = .int .i64 v ∧ Hid (v = (water xs ms k).2) ∧ Hid (f = if (water xs ms k).2 = 0 then -1 else (water xs ms k).1) ∧ Hid (Held w wr [boxG w.heap.size 31 #[.int .i64 R, .slice a1 n2 c1, .slice a2 n2 c2, .slice a3 n3 c3, .slice a4 n4 c4]])) (fun _ _ i _ => n2 - (intOf i).toNat)
    case atStart => exact ⟨0, -1, 0, by omega, rfl, rfl, rfl, Lib.hid rfl, Lib.hid rfl, HE⟩
    case round =>
      clear HE
      obtain ⟨k, f, v, hk, rfl, rfl, rfl, HV, HU, HF⟩ := hrel
      obtain ⟨p0, p1, p2, p3, p4⟩ := box5 (HF.out.nth 0 rfl)
      obtain ⟨b0, b1, b2, -⟩ := HWF.out k (by omega)
      have HB := Lib.hid b0
      have hf : f < 0 ∧ (water xs ms k).2 = 0 ∨ ¬ f < 0 ∧ (water xs ms k).2 ≠ 0 ∧ f = (water xs ms k).1 := by
        have := HU.out
        split at this
        · rename_i q; exact .inl ⟨by omega, q⟩
        · rename_i q; exact .inr ⟨by omega, q, this⟩
      have hz1 : (water xs ms k).2 = 0 → (water xs ms k).1 = 0 := fun q => by omega
      clear b0 b1 b2
      by_cases hlt : (k : Int) < n2
      · have HK := Lib.hid (show k < n2 by omega)
        obtain ⟨r, l, i, hx⟩ := get_of_lt HRL.out.len (k := k) HK.out
        obtain ⟨m, hm⟩ := getI HRM.out.len (k := k) HK.out
        obtain ⟨x', hx', eb, ee, z0, z1, z2⟩ := HEN.out k HK.out
        rw [hx] at hx'
        cases hx'
        have HBG := Lib.hid (show begAt xs k = startOf r l i from eb)
        have HND := Lib.hid (show endAt xs k = startOf r l i + widthOf l from ee)
        have HZ := Lib.hid (show endAt xs k ≠ 0 by omega)
        obtain ⟨g1, rfl, -, -, -, -⟩ := (HRL.out.on HF.out.gr).at_ k _ hx
        obtain ⟨g2, o2, rfl, -⟩ := (HRM.out.on HF.out.gr).at_ k _ hm
        have HM := Lib.hid (msAt_of hm)
        have HX := Lib.hid (show ∀ u, w.grownBy u none → u.cell? ⟨g2, o2 + k, none⟩ = some (.int .i64 m) ∧ u.cell? ⟨g1, k * 3, none⟩ = some (.int .i64 r) ∧ u.cell? ⟨g1, k * 3 + 1, none⟩ = some (.int .i64 l) ∧ u.cell? ⟨g1, k * 3 + 2, none⟩ = some (.int .i64 i) from fun u hu => by
          obtain ⟨g2', o2', e, hc⟩ := (HRM.out.on hu).at_ k _ hm
          cases e
          obtain ⟨g1', e, -, y0, y1, y2⟩ := (HRL.out.on hu).at_ k _ hx
          cases e
          exact ⟨hc, y0, y1, y2⟩)
        clear hx hm eb ee z0 z1 z2
        by_cases hz : m = 0
        · subst hz
          have HW := Lib.hid (water_dry (xs := xs) HM.out)
          clear hf hz1
          go_wp2_with (go_at_call 38; ((with_reducible refine (HOK.out _ HF.out.gr).mono ?_); rintro e w1 ⟨rfl, hg⟩; have HF2 := Lib.hid (HF.out.on hg); obtain ⟨q0, q1, q2, q3, q4⟩ := box5 (HF2.out.nth 0 rfl); obtain ⟨f0, f1, f2, f3⟩ := HX.out _ HF2.out.gr; clear hg))
          go_roundw
          case rel => exact ⟨k + 1, f, v, by omega, by go_num, rfl, rfl, Lib.hid (by rw [HW.out]; exact HV.out), Lib.hid (by rw [HW.out]; exact HU.out), HF2⟩
          case measure => simp [intOf]; omega
        · have hz' : msAt ms k ≠ 0 := by rw [HM.out]; exact hz
          rcases hf with ⟨hf, hv⟩ | ⟨hf, hv, he⟩
          · have HW := Lib.hid (water_first (xs := xs) hz' hv)
            clear hz' hv hz1
            go_wp2_with (first
              | (go_at_call 38; ((with_reducible refine (HOK.out _ HF.out.gr).mono ?_); rintro e w1 ⟨rfl, hg⟩; have HF2 := Lib.hid (HF.out.on hg); obtain ⟨q0, q1, q2, q3, q4⟩ := box5 (HF2.out.nth 0 rfl); obtain ⟨f0, f1, f2, f3⟩ := HX.out _ HF2.out.gr; clear hg))
              | (go_at_call 59; ((with_reducible refine (specStart_is _ _ _ _).mono ?_); rintro e w4 ⟨rfl, hg⟩; have HF3 := Lib.hid (HF2.out.on hg); obtain ⟨t0, t1, t2, t3, t4⟩ := box5 (HF3.out.nth 0 rfl); obtain ⟨x0, x1, x2, x3⟩ := HX.out _ HF3.out.gr; clear hg))
              | (go_at_call 60; ((with_reducible refine (end_is _ _ _ _).mono ?_); rintro e w5 ⟨rfl, hg⟩; have HF4 := Lib.hid (HF3.out.on hg); clear hg)))
            go_roundw
            case rel => exact ⟨k + 1, startOf r l i, startOf r l i + widthOf l, by omega, by go_num, rfl, rfl, Lib.hid (by rw [HW.out]; exact HND.out.symm), Lib.hid (by rw [HW.out]; dsimp only; rw [if_neg HZ.out, HBG.out]), HF4⟩
            case measure => simp [intOf]; omega
          · have HW := Lib.hid (water_next (xs := xs) hz' hv)
            have HFE := Lib.hid he
            clear hz' hv hz1 he
            go_wp2_with (first
              | (go_at_call 38; ((with_reducible refine (HOK.out _ HF.out.gr).mono ?_); rintro e w1 ⟨rfl, hg⟩; have HF2 := Lib.hid (HF.out.on hg); obtain ⟨q0, q1, q2, q3, q4⟩ := box5 (HF2.out.nth 0 rfl); obtain ⟨f0, f1, f2, f3⟩ := HX.out _ HF2.out.gr; clear hg))
              | (go_at_call 60; ((with_reducible refine (end_is _ _ _ _).mono ?_); rintro e w5 ⟨rfl, hg⟩; have HF4 := Lib.hid (HF2.out.on hg); clear hg)))
            go_roundw
            case rel => exact ⟨k + 1, f, startOf r l i + widthOf l, by omega, by go_num, rfl, rfl, Lib.hid (by rw [HW.out]; exact HND.out.symm), Lib.hid (by rw [HW.out]; dsimp only; rw [if_neg HZ.out]; exact HFE.out), HF4⟩
            case measure => simp [intOf]; omega
      · obtain rfl : n2 = k := by omega
        rcases hf with ⟨hf, hv⟩ | ⟨hf, hv, he⟩
        · have HE0 := Lib.hid (hz1 hv)
          have hle : f ≤ 0 := by omega
          clear hz1 hv
          go_wp2_with fail
          exact bodyPost_ret_by (results_tmp2 (fn := Try.f31) rfl _ _ _) rfl ⟨by rw [← HV.out, HE0.out]; rfl, HF.out.gr⟩
        · have hge : 0 ≤ f := by omega
          have HE0 := Lib.hid he
          clear hz1 hv he
          go_wp2_with fail
          exact bodyPost_ret_by (results_tmp2 (fn := Try.f31) rfl _ _ _) rfl ⟨by rw [← HV.out, ← HE0.out]; rfl, HF.out.gr⟩
end Go.Proofs.Ytnelgnfahkljmaa.State
