/- States at rest: the program's IsAtRest, isTooHigh, IsLevelWithin, DryLeaves, WaterLine, as contracts: what each answers; nothing that was there is written.
   Conditions: at most 2^20 leaves and numbers. -/
import Derived.Test.YtnelgnfahkljmaaStRestP
import Derived.Test.YtnelgnfahkljmaaStFluxA
set_option maxRecDepth 100000
namespace Go.Proofs.Ytnelgnfahkljmaa.State
open Go.ChangeShapes Go.WideShapes Go.ChangeAt Go.RowKit Go.Joins Go.Proofs.Ytnelgnfahkljmaa.Cell Go.Proofs.Ytnelgnfahkljmaa.Mesh Go.Proofs.Ytnelgnfahkljmaa.Law Go.Proofs.Ytnelgnfahkljmaa.Ints Go.Deep

set_option maxHeartbeats 8000000 in
theorem isAtRest_is (R : Int) (a1 a2 a3 a4 : Option Addr) (n1 n2 n3 n4 c1 c2 c3 c4 : Nat) (xs : List C3) (ms ts bs : List Int) (w : World) (h : ReadsS w a1 a2 a3 a4 n1 n2 n3 n4 xs ms ts bs) (h1 : n1 ≤ 1048576) (h2 : n2 ≤ 1048576) (h3 : n3 ≤ 1048576) (h4 : n4 ≤ 1048576) :
    Calls Try.prog 13 #[.agg #[.int .i64 R, .slice a1 n1 c1, .slice a2 n2 c2, .slice a3 n3 c3, .slice a4 n4 c4]] w fun e w' => e = .returned (.bool (restG R xs ms ts bs)) ∧ w.grownBy w' none := by
  have hok : ∀ u, w.grownBy u none → Calls Try.prog 41 #[.agg #[.int .i64 R, .slice a1 n1 c1, .slice a2 n2 c2, .slice a3 n3 c3, .slice a4 n4 c4]] u fun e w' => e = .returned (.bool (stOk R xs ms ts bs)) ∧ u.grownBy w' none := fun u hu => stateOk_is R a1 a2 a3 a4 n1 n2 n3 n4 c1 c2 c3 c4 xs ms ts bs u (h.on hu) h1 h2 h3 h4
  have HOK := Lib.hid hok
  have HE := Lib.hid ((Held.nil w).box 31 #[.int .i64 R, .slice a1 n1 c1, .slice a2 n2 c2, .slice a3 n3 c3, .slice a4 n4 c4])
  clear hok
  unfold restG
  cases hs : stOk R xs ms ts bs with
  | false =>
    rw [hs] at HOK
    clear hs
    go_enter Try.func13, Try.ntmps13
    go_upto_region 1 with fail
    generalize w.alloc (.cells #[.int .i64 R, .slice a1 n1 c1, .slice a2 n2 c2, .slice a3 n3 c3, .slice a4 n4 c4] 31) = W0 at *
    obtain ⟨p0, p1, p2, p3, p4⟩ := box5 (HE.out.nth 0 rfl)
    go_wp2_with (go_at_call 41; ((with_reducible refine (HOK.out _ HE.out.gr).mono ?_); rintro e w1 ⟨rfl, hg⟩; have HE1 := Lib.hid (HE.out.on hg); clear hg))
    go_ret
    exact ⟨rfl, HE1.out.gr⟩
  | true =>
    rw [hs] at HOK
    rw [Bool.true_and]
    have hmk : meshOk R xs = true := by
      obtain ⟨p1, -⟩ := stOk_parts hs
      unfold balanced at p1; simp only [Bool.and_eq_true] at p1; exact p1.1
    obtain ⟨-, hx0, hx1⟩ := mesh_parts hmk
    have hl := h.l.len
    obtain ⟨p, rfl⟩ : ∃ p, n1 = p + 1 := ⟨n1 - 1, by omega⟩
    have hpi : (p : Int) ≤ 128 := by omega
    rw [hl, Nat.add_sub_cancel]
    have HFX := Lib.hid fun (k : Nat) (hk : k + 1 < p + 1) (u : World) (hu : w.grownBy u none) => flux_is R a1 a2 a3 a4 (p + 1) n2 n3 n4 c1 c2 c3 c4 k xs ms ts bs u (h.on hu) h1 hs hk
    clear hs h h1 h2 h3 h4 hx0 hx1 hl hmk
    go_enter Try.func13, Try.ntmps13
    go_upto_region 1 with fail
    generalize w.alloc (.cells #[.int .i64 R, .slice a1 (p + 1) c1, .slice a2 n2 c2, .slice a3 n3 c3, .slice a4 n4 c4] 31) = W0 at *
    obtain ⟨p0, p1, p2, p3, p4⟩ := box5 (HE.out.nth 0 rfl)
    go_wp2_with (first
      | (go_at_call 41; ((with_reducible refine (HOK.out _ HE.out.gr).mono ?_); rintro e w1 ⟨rfl, hg⟩; have HE1 := Lib.hid (HE.out.on hg); obtain ⟨q0, q1, q2, q3, q4⟩ := box5 (HE1.out.nth 0 rfl); clear hg))
      | (go_at_call 42; ((with_reducible refine (faces_is R a1 a2 a3 a4 p n2 n3 n4 c1 c2 c3 c4 _ (by omega)).mono ?_); rintro e w3 ⟨g, rfl, hge, hglt, hG, hg⟩; have HE3 := Lib.hid (HE1.out.add hg hG (fun b hb => by rw [List.mem_singleton.1 hb]; exact ⟨hge, hglt⟩)); clear hge hglt hG hg)))
    clear p0 p1 p2 p3 p4 q0 q1 q2 q3 q4 HE HE1 HOK
    go_loopw [11] (fun i wr => ∃ (k : Nat), (k : Int) ≤ p ∧ i = .int .i64 k ∧ Hid (∀ j, j < k → fluxAt xs ms bs j = 0) ∧ Hid (Held w wr [boxG w.heap.size 31 #[.int .i64 R, .slice a1 (p + 1) c1, .slice a2 n2 c2, .slice a3 n3 c3, .slice a4 n4 c4], facesG g p R (.slice a1 (p + 1) c1) (.slice a2 n2 c2) (.slice a3 n3 c3) (.slice a4 n4 c4) p])) (fun i _ => p - (intOf i).toNat)
    case atStart => exact ⟨0, by omega, rfl, Lib.hid (fun j hj => by omega), HE3⟩
    case round =>
      clear HE3
      obtain ⟨k, hk, rfl, HS, HF⟩ := hrel
      by_cases hlt : (k : Int) < p
      · have HK := Lib.hid (show k < p by omega)
        have HC := Lib.hid (HFX.out k (by omega))
        have f0 := facesG.cell (HF.out.nth 1 rfl) HK.out
        obtain ⟨F, hF⟩ : ∃ F, fluxAt xs ms bs k = F := ⟨_, rfl⟩
        rw [hF] at HC
        by_cases hz : F = 0
        · subst hz
          have HN := Lib.hid (show ∀ j, j < k + 1 → fluxAt xs ms bs j = 0 from fun j hj => by
            by_cases e : j = k
            · rw [e]; exact hF
            · exact HS.out j (by omega))
          clear hF HS
          go_wp2_with (go_at_call 43; ((with_reducible refine (HC.out _ HF.out.gr).mono ?_); rintro e w4 ⟨rfl, hg⟩; have HF2 := Lib.hid (HF.out.on hg); clear hg))
          go_roundw
          case rel => exact ⟨k + 1, by omega, by go_num, HN, HF2⟩
          case measure => simp [intOf]; omega
        · have HN := Lib.hid (still_no HK.out (by rw [hF]; exact hz))
          clear hF HS
          go_wp2_with (go_at_call 43; ((with_reducible refine (HC.out _ HF.out.gr).mono ?_); rintro e w4 ⟨rfl, hg⟩; have HF2 := Lib.hid (HF.out.on hg); clear hg))
          go_ret
          exact ⟨by rw [HN.out]; rfl, HF2.out.gr⟩
      · obtain rfl : p = k := by omega
        go_wp2_with fail
        go_ret
        exact ⟨by rw [still_all HS.out]; rfl, HF.out.gr⟩

theorem tooHigh_is (l m s d wd : Int) (b : Bool) (hb : decide (wd < d ∧ 4 ≤ m) = b) (w : World) :
    Calls Try.prog 45 #[.agg #[.int .i64 l, .int .i64 m, .int .i64 s], .int .i64 d, .int .i64 wd] w fun e w' => e = .returned (.bool b) ∧ w.grownBy w' none := by
  have HE := Lib.hid ((Held.nil w).box 72 #[.int .i64 l, .int .i64 m, .int .i64 s])
  subst hb
  by_cases x1 : wd < d
  · by_cases x2 : 4 ≤ m
    · rw [decide_eq_true (show wd < d ∧ 4 ≤ m from ⟨x1, x2⟩)]
      go_enter Try.func45, Try.ntmps45
      go_upto_region 1 with fail
      generalize w.alloc (.cells #[.int .i64 l, .int .i64 m, .int .i64 s] 72) = W0 at *
      obtain ⟨p0, p1, p2⟩ := box3 (HE.out.nth 0 rfl)
      go_wp2_with fail
      go_ret
      exact ⟨rfl, HE.out.gr⟩
    · rw [decide_eq_false (show ¬ (wd < d ∧ 4 ≤ m) from fun q => x2 q.2)]
      go_enter Try.func45, Try.ntmps45
      go_upto_region 1 with fail
      generalize w.alloc (.cells #[.int .i64 l, .int .i64 m, .int .i64 s] 72) = W0 at *
      obtain ⟨p0, p1, p2⟩ := box3 (HE.out.nth 0 rfl)
      go_wp2_with fail
      go_ret
      exact ⟨rfl, HE.out.gr⟩
  · rw [decide_eq_false (show ¬ (wd < d ∧ 4 ≤ m) from fun q => x1 q.1)]
    go_enter Try.func45, Try.ntmps45
    go_upto_region 1 with fail
    generalize w.alloc (.cells #[.int .i64 l, .int .i64 m, .int .i64 s] 72) = W0 at *
    obtain ⟨p0, p1, p2⟩ := box3 (HE.out.nth 0 rfl)
    go_wp2_with fail
    go_ret
    exact ⟨rfl, HE.out.gr⟩

set_option maxHeartbeats 16000000 in
theorem isLevel_is (R : Int) (a1 a2 a3 a4 : Option Addr) (n1 n2 n3 n4 c1 c2 c3 c4 : Nat) (xs : List C3) (ms ts bs : List Int) (wd : Int) (w : World) (h : ReadsS w a1 a2 a3 a4 n1 n2 n3 n4 xs ms ts bs) (h1 : n1 ≤ 1048576) (h2 : n2 ≤ 1048576) (h3 : n3 ≤ 1048576) (h4 : n4 ≤ 1048576) :
    Calls Try.prog 14 #[.agg #[.int .i64 R, .slice a1 n1 c1, .slice a2 n2 c2, .slice a3 n3 c3, .slice a4 n4 c4], .int .i64 wd] w fun e w' => e = .returned (.bool (levG R xs ms ts bs wd)) ∧ w.grownBy w' none := by
  have hok : ∀ u, w.grownBy u none → Calls Try.prog 41 #[.agg #[.int .i64 R, .slice a1 n1 c1, .slice a2 n2 c2, .slice a3 n3 c3, .slice a4 n4 c4]] u fun e w' => e = .returned (.bool (stOk R xs ms ts bs)) ∧ u.grownBy w' none := fun u hu => stateOk_is R a1 a2 a3 a4 n1 n2 n3 n4 c1 c2 c3 c4 xs ms ts bs u (h.on hu) h1 h2 h3 h4
  have HOK := Lib.hid hok
  have HE := Lib.hid ((Held.nil w).box 31 #[.int .i64 R, .slice a1 n1 c1, .slice a2 n2 c2, .slice a3 n3 c3, .slice a4 n4 c4])
  clear hok
  unfold levG
  cases hs : stOk R xs ms ts bs with
  | false =>
    rw [hs] at HOK
    clear hs
    go_enter Try.func14, Try.ntmps14
    go_upto_region 1 with fail
    generalize w.alloc (.cells #[.int .i64 R, .slice a1 n1 c1, .slice a2 n2 c2, .slice a3 n3 c3, .slice a4 n4 c4] 31) = W0 at *
    obtain ⟨p0, p1, p2, p3, p4⟩ := box5 (HE.out.nth 0 rfl)
    go_wp2_with (go_at_call 41; ((with_reducible refine (HOK.out _ HE.out.gr).mono ?_); rintro e w1 ⟨rfl, hg⟩; have HE1 := Lib.hid (HE.out.on hg); clear hg))
    go_ret
    exact ⟨rfl, HE1.out.gr⟩
  | true =>
    rw [hs] at HOK
    rw [Bool.true_and]
    have hmk : meshOk R xs = true := by
      obtain ⟨p1, -⟩ := stOk_parts hs
      unfold balanced at p1; simp only [Bool.and_eq_true] at p1; exact p1.1
    obtain ⟨-, hx0, hx1⟩ := mesh_parts hmk
    have hl := h.l.len
    obtain ⟨p, rfl⟩ : ∃ p, n1 = p + 1 := ⟨n1 - 1, by omega⟩
    have hpi : (p : Int) ≤ 128 := by omega
    rw [hl, Nat.add_sub_cancel]
    have HDX := Lib.hid fun (k : Nat) (hk : k + 1 < p + 1) (u : World) (hu : w.grownBy u none) => drop_is R a1 a2 a3 a4 (p + 1) n2 n3 n4 c1 c2 c3 c4 k xs ms ts bs u (h.on hu) h1 hs hk
    have HLX := Lib.hid fun (k : Nat) (hk : k + 1 < p + 1) (u : World) (hu : w.grownBy u none) => left_is R a1 a2 a3 a4 (p + 1) n2 n3 n4 c1 c2 c3 c4 k xs ms ts bs u (h.on hu) h1 hs (by omega)
    have HRX := Lib.hid fun (k : Nat) (hk : k + 1 < p + 1) (u : World) (hu : w.grownBy u none) => right_is R a1 a2 a3 a4 (p + 1) n2 n3 n4 c1 c2 c3 c4 k xs ms ts bs u (h.on hu) h1 hs hk
    have HBD := Lib.hid fun (k : Nat) (hk : k < p + 1) => leaf_bounds hs (k := k) (by omega)
    clear hs h h1 h2 h3 h4 hx0 hx1 hl hmk
    go_enter Try.func14, Try.ntmps14
    go_upto_region 1 with fail
    generalize w.alloc (.cells #[.int .i64 R, .slice a1 (p + 1) c1, .slice a2 n2 c2, .slice a3 n3 c3, .slice a4 n4 c4] 31) = W0 at *
    obtain ⟨p0, p1, p2, p3, p4⟩ := box5 (HE.out.nth 0 rfl)
    go_wp2_with (first
      | (go_at_call 41; ((with_reducible refine (HOK.out _ HE.out.gr).mono ?_); rintro e w1 ⟨rfl, hg⟩; have HE1 := Lib.hid (HE.out.on hg); obtain ⟨q0, q1, q2, q3, q4⟩ := box5 (HE1.out.nth 0 rfl); clear hg))
      | (go_at_call 42; ((with_reducible refine (faces_is R a1 a2 a3 a4 p n2 n3 n4 c1 c2 c3 c4 _ (by omega)).mono ?_); rintro e w3 ⟨g, rfl, hge, hglt, hG, hg⟩; have HE3 := Lib.hid (HE1.out.add hg hG (fun b hb => by rw [List.mem_singleton.1 hb]; exact ⟨hge, hglt⟩)); clear hge hglt hG hg)))
    clear p0 p1 p2 p3 p4 q0 q1 q2 q3 q4 HE HE1 HOK
    go_loopw [14] (fun i wr => ∃ (k : Nat), (k : Int) ≤ p ∧ i = .int .i64 k ∧ Hid (∀ j, j < k → levF xs ms bs wd j = true) ∧ Hid (Held w wr [boxG w.heap.size 31 #[.int .i64 R, .slice a1 (p + 1) c1, .slice a2 n2 c2, .slice a3 n3 c3, .slice a4 n4 c4], facesG g p R (.slice a1 (p + 1) c1) (.slice a2 n2 c2) (.slice a3 n3 c3) (.slice a4 n4 c4) p])) (fun i _ => p - (intOf i).toNat)
    case atStart => exact ⟨0, by omega, rfl, Lib.hid (fun j hj => by omega), HE3⟩
    case round =>
      clear HE3
      obtain ⟨k, hk, rfl, HS, HF⟩ := hrel
      by_cases hlt : (k : Int) < p
      · have HK := Lib.hid (show k < p by omega)
        have HC := Lib.hid (HDX.out k (by omega))
        have HL := Lib.hid (HLX.out k (by omega))
        have HR := Lib.hid (HRX.out k (by omega))
        have f0 := facesG.cell (HF.out.nth 1 rfl) HK.out
        obtain ⟨s0, s1, -⟩ := HBD.out k (by omega)
        obtain ⟨r0, r1, -⟩ := HBD.out (k + 1) (by omega)
        have HY := Lib.hid (show ¬ (wd < surf xs ms bs k - surf xs ms bs (k + 1) ∧ 4 ≤ msAt ms k) → ¬ (wd < surf xs ms bs (k + 1) - surf xs ms bs k ∧ 4 ≤ msAt ms (k + 1)) → ∀ j, j < k + 1 → levF xs ms bs wd j = true from fun z1 z2 j hj => by
          by_cases e : j = k
          · rw [e]; exact levF_yes z1 z2
          · exact HS.out j (by omega))
        have HN := Lib.hid (show (wd < surf xs ms bs k - surf xs ms bs (k + 1) ∧ 4 ≤ msAt ms k) ∨ (wd < surf xs ms bs (k + 1) - surf xs ms bs k ∧ 4 ≤ msAt ms (k + 1)) → lev xs ms bs wd p = false from fun z => lev_no HK.out (levF_no z))
        generalize surf xs ms bs k = s at *
        generalize surf xs ms bs (k + 1) = t at *
        generalize msAt ms k = ma at *
        generalize msAt ms (k + 1) = mb at *
        generalize lvAt xs k = la at *
        generalize lvAt xs (k + 1) = lb at *
        have hn : IntKind.i64.wrap (-(s - t)) = t - s := (IntWalk.i64_in _ (by omega)).trans (by omega)
        simp only [faceV] at HC f0
        have HT1 := Lib.hid fun b hb u => tooHigh_is la ma s (s - t) wd b hb u
        have HT2 := Lib.hid fun b hb u => tooHigh_is lb mb t (t - s) wd b hb u
        clear HS HDX HLX HRX HBD
        by_cases z1 : wd < s - t ∧ 4 ≤ ma
        · have HT1 := Lib.hid (HT1.out true (decide_eq_true z1))
          have HN := Lib.hid (HN.out (.inl z1))
          clear z1 HY HT2 HR
          go_wp2_with (first
            | (go_at_call 44; ((with_reducible refine (HC.out _ HF.out.gr).mono ?_); rintro e w4 ⟨rfl, hg⟩; have HF2 := Lib.hid (HF.out.on hg); clear hg))
            | (go_at_call 118; ((with_reducible refine (HL.out _ HF2.out.gr).mono ?_); rintro e w5 ⟨rfl, hg⟩; have HF3 := Lib.hid (HF2.out.on hg); clear hg))
            | (go_at_call 45; ((with_reducible refine (HT1.out _).mono ?_); rintro e w6 ⟨rfl, hg⟩; have HF4 := Lib.hid (HF3.out.on hg); clear hg)))
          go_ret
          exact ⟨by rw [HN.out]; rfl, HF4.out.gr⟩
        · have HT1 := Lib.hid (HT1.out false (decide_eq_false z1))
          by_cases z2 : wd < t - s ∧ 4 ≤ mb
          · have HT2 := Lib.hid (HT2.out true (decide_eq_true z2))
            have HN := Lib.hid (HN.out (.inr z2))
            clear z1 z2 HY
            go_wp2_with (first
              | (go_at_call 44; ((with_reducible refine (HC.out _ HF.out.gr).mono ?_); rintro e w4 ⟨rfl, hg⟩; have HF2 := Lib.hid (HF.out.on hg); clear hg))
              | (go_at_call 118; ((with_reducible refine (HL.out _ HF2.out.gr).mono ?_); rintro e w5 ⟨rfl, hg⟩; have HF3 := Lib.hid (HF2.out.on hg); clear hg))
              | (go_at_call 119; ((with_reducible refine (HR.out _ HF4.out.gr).mono ?_); rintro e w7 ⟨rfl, hg⟩; have HF5 := Lib.hid (HF4.out.on hg); clear hg))
              | (go_at_call 45; ((with_reducible refine (HT1.out _).mono ?_); rintro e w6 ⟨rfl, hg⟩; have HF4 := Lib.hid (HF3.out.on hg); clear hg))
              | (go_at_call 45; ((with_reducible refine (HT2.out _).mono ?_); rintro e w8 ⟨rfl, hg⟩; have HF6 := Lib.hid (HF5.out.on hg); clear hg)))
            go_ret
            exact ⟨by rw [HN.out]; rfl, HF6.out.gr⟩
          · have HT2 := Lib.hid (HT2.out false (decide_eq_false z2))
            have HY := Lib.hid (HY.out z1 z2)
            clear z1 z2 HN
            go_wp2_with (first
              | (go_at_call 44; ((with_reducible refine (HC.out _ HF.out.gr).mono ?_); rintro e w4 ⟨rfl, hg⟩; have HF2 := Lib.hid (HF.out.on hg); clear hg))
              | (go_at_call 118; ((with_reducible refine (HL.out _ HF2.out.gr).mono ?_); rintro e w5 ⟨rfl, hg⟩; have HF3 := Lib.hid (HF2.out.on hg); clear hg))
              | (go_at_call 119; ((with_reducible refine (HR.out _ HF4.out.gr).mono ?_); rintro e w7 ⟨rfl, hg⟩; have HF5 := Lib.hid (HF4.out.on hg); clear hg))
              | (go_at_call 45; ((with_reducible refine (HT1.out _).mono ?_); rintro e w6 ⟨rfl, hg⟩; have HF4 := Lib.hid (HF3.out.on hg); clear hg))
              | (go_at_call 45; ((with_reducible refine (HT2.out _).mono ?_); rintro e w8 ⟨rfl, hg⟩; have HF6 := Lib.hid (HF5.out.on hg); clear hg)))
            go_roundw
            case rel => exact ⟨k + 1, by omega, by go_num, HY, HF6⟩
            case measure => simp [intOf]; omega
      · obtain rfl : p = k := by omega
        go_wp2_with fail
        go_ret
        exact ⟨by rw [lev_all HS.out]; rfl, HF.out.gr⟩

theorem dry_snoc {ms : List Int} {k : Nat} (h : msAt ms k = 0) : vals (toI (dryF ms k)) ++ [Value.int .i64 (k : Int)] = vals (toI (dryF ms (k + 1))) := by
  rw [dryF_yes h, toI_snoc]; simp [vals]
theorem dry_same {ms : List Int} {k : Nat} (h : msAt ms k ≠ 0) : dryF ms (k + 1) = dryF ms k := dryF_no h
theorem dry_len1 {ms : List Int} {k : Nat} (h : msAt ms k = 0) : (dryF ms (k + 1)).length = (dryF ms k).length + 1 := by
  rw [dryF_yes h, List.length_append]; rfl

set_option maxHeartbeats 8000000 in
theorem dryLeaves_is (R : Int) (a1 a2 a3 a4 : Option Addr) (n1 n2 n3 n4 c1 c2 c3 c4 : Nat) (xs : List C3) (ms ts bs : List Int) (w : World) (h : ReadsS w a1 a2 a3 a4 n1 n2 n3 n4 xs ms ts bs) (h1 : n1 ≤ 1048576) (h2 : n2 ≤ 1048576) (h3 : n3 ≤ 1048576) (h4 : n4 ≤ 1048576) :
    Calls Try.prog 20 #[.agg #[.int .i64 R, .slice a1 n1 c1, .slice a2 n2 c2, .slice a3 n3 c3, .slice a4 n4 c4]] w (GivesI (dryG R xs ms ts bs) w) := by
  have hok : ∀ u, w.grownBy u none → Calls Try.prog 41 #[.agg #[.int .i64 R, .slice a1 n1 c1, .slice a2 n2 c2, .slice a3 n3 c3, .slice a4 n4 c4]] u fun e w' => e = .returned (.bool (stOk R xs ms ts bs)) ∧ u.grownBy w' none := fun u hu => stateOk_is R a1 a2 a3 a4 n1 n2 n3 n4 c1 c2 c3 c4 xs ms ts bs u (h.on hu) h1 h2 h3 h4
  have HOK := Lib.hid hok
  have HE := Lib.hid ((Held.nil w).box 31 #[.int .i64 R, .slice a1 n1 c1, .slice a2 n2 c2, .slice a3 n3 c3, .slice a4 n4 c4])
  clear hok
  have HEM := Lib.hid fun (W : World) => own_emptyI W W.heap.size (Nat.le_refl _)
  unfold dryG
  cases hs : stOk R xs ms ts bs with
  | false =>
    rw [hs] at HOK
    clear hs
    go_enter Try.func20, Try.ntmps20
    go_upto_region 1 with fail
    generalize w.alloc (.cells #[.int .i64 R, .slice a1 n1 c1, .slice a2 n2 c2, .slice a3 n3 c3, .slice a4 n4 c4] 31) = W0 at *
    obtain ⟨p0, p1, p2, p3, p4⟩ := box5 (HE.out.nth 0 rfl)
    go_wp2_with (go_at_call 41; ((with_reducible refine (HOK.out _ HE.out.gr).mono ?_); rintro e w1 ⟨rfl, hg⟩; have HE1 := Lib.hid (HE.out.on hg); clear hg))
    go_ret
    exact ⟨none, 0, rfl, nil_own _ _ _ _, HE1.out.gr⟩
  | true =>
    rw [hs] at HOK
    rw [if_pos rfl]
    have hni : (n2 : Int) ≤ 1048576 := by omega
    have HRM := Lib.hid h.m
    have HFL := Lib.hid fun k => dryF_len ms k
    obtain ⟨i0, hi0, hz0, hz1, hz2⟩ := info_parts infoInt
    clear hs h h1 h2 h3 h4
    go_enter Try.func20, Try.ntmps20
    go_upto_region 1 with fail
    generalize w.alloc (.cells #[.int .i64 R, .slice a1 n1 c1, .slice a2 n2 c2, .slice a3 n3 c3, .slice a4 n4 c4] 31) = W0 at *
    obtain ⟨p0, p1, p2, p3, p4⟩ := box5 (HE.out.nth 0 rfl)
    go_upto_region 3 with (go_at_call 41; ((with_reducible refine (HOK.out _ HE.out.gr).mono ?_); rintro e w1 ⟨rfl, hg⟩; have HE1 := Lib.hid (HE.out.on hg); clear hg))
    have HE2 := Lib.hid (HE1.out.row (World.grownBy_alloc w1 (.cells #[] 3) none) (HEM.out w1))
    clear p0 p1 p2 p3 p4 HE HE1 HEM HOK
    obtain ⟨B, hB⟩ : ∃ B, B = w1.heap.size := ⟨_, rfl⟩
    go_upto_region 4 with fail
    rw [← hB] at HE2 ⊢
    clear hB
    generalize w1.alloc (.cells #[] 3) = W2 at *
    obtain ⟨p0, p1, p2, p3, p4⟩ := box5 (HE2.out.nth 0 rfl)
    go_wp2_with fail
    clear p0 p1 p2 p3 p4
    go_loopw [3, 13] (fun v i wr => ∃ (k m : Nat) (q : Option Addr) (d : Nat), (k : Int) ≤ n2 ∧ i = .int .i64 k ∧ v = .slice q m d ∧ Hid (m = (dryF ms k).length) ∧ Hid (Held w wr [boxG w.heap.size 31 #[.int .i64 R, .slice a1 n1 c1, .slice a2 n2 c2, .slice a3 n3 c3, .slice a4 n4 c4], rowG 3 1 (.slice q m d) m (vals (toI (dryF ms k)))])) (fun _ i _ => n2 - (intOf i).toNat)
    case atStart => exact ⟨0, 0, _, _, by omega, rfl, rfl, Lib.hid rfl, HE2⟩
    case round =>
      clear HE2
      obtain ⟨k, m, q, d, hk, rfl, rfl, HM, HF⟩ := hrel
      by_cases hlt : (k : Int) < n2
      · have HK := Lib.hid (show k < n2 by omega)
        obtain ⟨x, hx⟩ := getI HRM.out.len (k := k) HK.out
        have hxm := msAt_of hx
        obtain ⟨g2, o2, rfl, d0⟩ := (HRM.out.on HF.out.gr).at_ k _ hx
        have hm : (m : Int) ≤ k := by have := HM.out; have := HFL.out k; omega
        by_cases hz : x = 0
        · subst hz
          have HT := Lib.hid (dry_snoc hxm)
          have HT1 := Lib.hid (dry_len1 hxm)
          clear hx hxm
          go_wp2_with (at_builtin; refine wpList_append_own_at _ rfl _ _ 27 rfl 0 3 i0 (.int .i64 0) 1 8 Try.underlying27 hi0 hz0 hz1 hz2 rfl (by decide) _ m (vals (toI (dryF ms k))) rfl (own_on (HF.out.nth 1 rfl) (World.grownBy_alloc _ _ none)) ⟨_, 0, none⟩ 1 1 [.int .i64 k] rfl rfl (cell_one_new _ _ _) (fun x hx => by simp at hx; subst hx; rfl) (by have := HK.out; unfold maxLen; omega) (by have := HK.out; omega) (Nat.zero_le _) ?_; intro v' w6 hown hg _ hat; rw [HT.out] at hown; obtain ⟨q', d', rfl⟩ := own_shapeAny hown; have HE6 := Lib.hid ((HF.out.on (World.grownBy_alloc _ _ none)).appended 1 rfl hown hg hat); clear hown hg hat)
          exact ⟨⟨k + 1, m + 1, q', d', by omega, by go_num, rfl, Lib.hid (by rw [HT1.out, HM.out]), HE6⟩, by simp [intOf]; omega⟩
        · have HT := Lib.hid (dry_same (ms := ms) (k := k) (by rw [hxm]; exact hz))
          clear hx hxm
          go_wp2_with fail
          exact ⟨⟨k + 1, m, q, d, by omega, by go_num, rfl, Lib.hid (by rw [HT.out]; exact HM.out), by rw [HT.out]; exact HF⟩, by simp [intOf]; omega⟩
      · obtain rfl : n2 = k := by omega
        go_wp2_with fail
        go_ret
        have hr := HF.out.own 1 rfl
        have e : m = (toI (dryF ms ms.length)).length := by rw [toI_len, HM.out, HRM.out.len]
        rw [show dryF ms n2 = dryF ms ms.length by rw [HRM.out.len]] at hr
        subst e
        exact ⟨q, d, rfl, hr, HF.out.gr⟩
end Go.Proofs.Ytnelgnfahkljmaa.State
