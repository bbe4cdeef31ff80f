/- Losses: the reference model's l14Soak, Soak, DryOut, as contracts: what each answers, in memory of the call's own; nothing that was there is written (written by wip/tools/stsrcs.py).
   Conditions: at most 2^20 leaves and numbers. -/
import Derived.Test.YtmbmeajneankpaaStSrcS
set_option maxRecDepth 100000
namespace Go.Proofs.Ytmbmeajneankpaa.State
open Go.ChangeShapes Go.WideShapes Go.ChangeAt Go.RowKit Go.Joins Go.Proofs.Ytmbmeajneankpaa.Cell Go.Proofs.Ytmbmeajneankpaa.Mesh Go.Proofs.Ytmbmeajneankpaa.Law Go.Proofs.Ytmbmeajneankpaa.Ints Go.Proofs.Ytmbmeajneankpaa.Draws Go.Deep
set_option linter.unusedVariables false

set_option maxHeartbeats 16000000 in
theorem specSoakV_is (R : Int) (g1 g2 g3 g4 n1 n2 n3 n4 c1 c2 c3 c4 : Nat) (xs : List C3) (ms ts bs : List Int) (a : Int) (w : World) (h : ReadsS w (some ⟨g1, 0, none⟩) (some ⟨g2, 0, none⟩) (some ⟨g3, 0, none⟩) (some ⟨g4, 0, none⟩) n1 n2 n3 n4 xs ms ts bs) (h1 : n1 ≤ 1048576) (h2 : n2 ≤ 1048576) (h3 : n3 ≤ 1048576) (h4 : n4 ≤ 1048576) (hs : stOk R xs ms ts bs = true) (hb : amtB a = true) :
    Calls Try.prog 55 #[.agg #[.int .i64 R, .slice (some ⟨g1, 0, none⟩) n1 c1, .slice (some ⟨g2, 0, none⟩) n2 c2, .slice (some ⟨g3, 0, none⟩) n3 c3, .slice (some ⟨g4, 0, none⟩) n4 c4], .int .i64 a] w (GivesSL R n1 n2 n3 n4 xs (soakM a xs ms) (soakT a xs ms ts) bs 0 (goneM a xs ms ms.length) 0 (goneT a xs ms ts ms.length) w) := by
  obtain ⟨z1, z2, z3, z4⟩ := st_sizes hs
  have hn1 := h.l.len; have hn2 := h.m.len; have hn3 := h.t.len
  obtain rfl : n2 = n1 := by omega
  obtain rfl : n3 = n2 := by omega
  obtain ⟨n, hn⟩ : ∃ n, n = n3 := ⟨_, rfl⟩
  subst hn
  have HCP := Lib.hid (show ∀ u, w.grownBy u none → Calls Try.prog 45 #[.agg #[.int .i64 R, .slice (some ⟨g1, 0, none⟩) n c1, .slice (some ⟨g2, 0, none⟩) n c2, .slice (some ⟨g3, 0, none⟩) n c3, .slice (some ⟨g4, 0, none⟩) n4 c4]] u (GivesS R n n n n4 xs ms ts bs u) from fun u hu => specStCopy_is R g1 g2 g3 g4 n n n n4 c1 c2 c3 c4 xs ms ts bs u (h.on hu) h1 h2 h3 h4)
  have he := (((Held.nil w).box 29 #[.int .i64 R, .slice (some ⟨g1, 0, none⟩) n c1, .slice (some ⟨g2, 0, none⟩) n c2, .slice (some ⟨g3, 0, none⟩) n c3, .slice (some ⟨g4, 0, none⟩) n4 c4]).box 29 #[.int .i64 0, .slice none 0 0, .slice none 0 0, .slice none 0 0, .slice none 0 0]).box 33 #[.int .i64 0, .int .i64 0, .int .i64 0, .int .i64 0]
  simp only [World.size_alloc] at he
  have HE := Lib.hid he; clear he
  have HGS := Lib.hid fun k => gone_small hs hb k
  have HLO := Lib.hid fun k => lost_facts hs hb k
  have HLF := Lib.hid fun k => leaf_range hs k
  have HPF := Lib.hid fun k => (part_facts hb xs k).2
  rw [soakM, soakT, hn2]
  have HMS := Lib.hid (show ms = gen n (msAt ms) by rw [← hn2, gen_ms])
  have HTS := Lib.hid (show ts = gen n (tsAt ts) by rw [← hn3, gen_ts])
  have HRL := Lib.hid h.l; have HRM := Lib.hid h.m; have HRT := Lib.hid h.t
  have HN := Lib.hid (And.intro hn2 hn3)
  have HK0 := Lib.hid (show 0 < n by omega)
  have HSP := Lib.hid (show ∀ (k : Nat) (l : Int), lvAt xs k = l → ∀ u, Calls Try.prog 56 #[.int .i64 a, .int .i64 l] u fun e w' => e = .returned (.int .i64 (partN a xs k)) ∧ u.grownBy w' none from fun k l hl u => (specPart_is a l _ hb (by rw [← hl]; rfl) u).mono fun e w' ⟨he, hw⟩ => ⟨he, by rw [hw]; exact Cell.grown_refl _⟩)
  have HSH := Lib.hid (show ∀ (k : Nat) u, Calls Try.prog 79 #[.int .i64 (tsAt ts k), .int .i64 (lostM a xs ms k), .int .i64 (msAt ms k)] u fun e w' => e = .returned (.int .i64 (lostT a xs ms ts k)) ∧ w' = u from fun k u => specShare_is _ _ _ u)
  have hni : (n : Int) ≤ 128 := by omega
  clear h h1 h2 h3 h4 hs hb z1 z2 z3 z4 hn1 hn2 hn3
  go_enter Try.func55, Try.ntmps55
  go_upto_region 1 with fail
  generalize ((w.alloc (.cells #[.int .i64 R, .slice (some ⟨g1, 0, none⟩) n c1, .slice (some ⟨g2, 0, none⟩) n c2, .slice (some ⟨g3, 0, none⟩) n c3, .slice (some ⟨g4, 0, none⟩) n4 c4] 29)).alloc (.cells #[.int .i64 0, .slice none 0 0, .slice none 0 0, .slice none 0 0, .slice none 0 0] 29)).alloc (.cells #[.int .i64 0, .int .i64 0, .int .i64 0, .int .i64 0] 33) = W0 at *
  obtain ⟨p0, p1, p2, p3, p4⟩ := box5 (HE.out.nth 0 rfl)
  go_upto_region 2 with (go_at_call 45; ((with_reducible refine (HCP.out _ HE.out.gr).mono ?_); rintro e w1 ⟨q1, d1, q2, d2, q3, d3, q4, d4, rfl, ho, hg⟩; have HE1 := Lib.hid (State.Held.state HE.out hg ho); clear ho hg))
  obtain ⟨k2, y2, rfl, -, -, -⟩ := own_cellI (OwnS.m (HE1.out.nth 3 rfl)) HK0.out
  obtain ⟨k3, y3, rfl, -, -, -⟩ := own_cellI (OwnS.t (HE1.out.nth 3 rfl)) HK0.out
  have HE2 := Lib.hid (HE1.out.box 29 #[.int .i64 R, .slice q1 n d1, .slice (some ⟨k2, 0, none⟩) n d2, .slice (some ⟨k3, 0, none⟩) n d3, .slice q4 n4 d4])
  clear p0 p1 p2 p3 p4 HE HE1 HCP
  obtain ⟨B, hB⟩ : ∃ B, B = w1.heap.size := ⟨_, rfl⟩
  rw [← hB] at HE2 ⊢
  clear hB
  generalize w1.alloc (.cells #[.int .i64 R, .slice q1 n d1, .slice (some ⟨k2, 0, none⟩) n d2, .slice (some ⟨k3, 0, none⟩) n d3, .slice q4 n4 d4] 29) = W2 at *
  go_upto_region 3 with fail
  have HE3 := Lib.hid (HE2.out.box 33 #[.int .i64 0, .int .i64 0, .int .i64 0, .int .i64 0])
  clear HE2
  obtain ⟨D, hD⟩ : ∃ D, D = W2.heap.size := ⟨_, rfl⟩
  rw [← hD] at HE3 ⊢
  clear hD
  generalize W2.alloc (.cells #[.int .i64 0, .int .i64 0, .int .i64 0, .int .i64 0] 33) = W3 at *
  have HE4 : Hid (Held w W3 [boxG w.heap.size 29 #[.int .i64 R, .slice (some ⟨g1, 0, none⟩) n c1, .slice (some ⟨g2, 0, none⟩) n c2, .slice (some ⟨g3, 0, none⟩) n c3, .slice (some ⟨g4, 0, none⟩) n4 c4], boxG (w.heap.size + 1) 29 #[.int .i64 0, .slice none 0 0, .slice none 0 0, .slice none 0 0, .slice none 0 0], boxG (w.heap.size + 2) 33 #[.int .i64 0, .int .i64 0, .int .i64 0, .int .i64 0], stateG (.slice q1 n d1) (.slice (some ⟨k2, 0, none⟩) n d2) (.slice (some ⟨k3, 0, none⟩) n d3) (.slice q4 n4 d4) n n n n4 xs (gen n (upto 0 (keptM a xs ms) (msAt ms))) (gen n (upto 0 (keptT a xs ms ts) (tsAt ts))) bs, boxG B 29 #[.int .i64 R, .slice q1 n d1, .slice (some ⟨k2, 0, none⟩) n d2, .slice (some ⟨k3, 0, none⟩) n d3, .slice q4 n4 d4], boxG D 33 #[.int .i64 0, .int .i64 (goneM a xs ms 0), .int .i64 0, .int .i64 (goneT a xs ms ts 0)]]) := by
    have q := HE3.out
    rw [upto_zero, upto_zero, ← HMS.out, ← HTS.out]
    exact Lib.hid q
  clear HE3
  go_wp2_with fail
  go_loopw [8] (fun i wr => ∃ j : Nat, (j : Int) ≤ n ∧ i = .int .i64 j ∧ Hid (Held w wr [boxG w.heap.size 29 #[.int .i64 R, .slice (some ⟨g1, 0, none⟩) n c1, .slice (some ⟨g2, 0, none⟩) n c2, .slice (some ⟨g3, 0, none⟩) n c3, .slice (some ⟨g4, 0, none⟩) n4 c4], boxG (w.heap.size + 1) 29 #[.int .i64 0, .slice none 0 0, .slice none 0 0, .slice none 0 0, .slice none 0 0], boxG (w.heap.size + 2) 33 #[.int .i64 0, .int .i64 0, .int .i64 0, .int .i64 0], stateG (.slice q1 n d1) (.slice (some ⟨k2, 0, none⟩) n d2) (.slice (some ⟨k3, 0, none⟩) n d3) (.slice q4 n4 d4) n n n n4 xs (gen n (upto j (keptM a xs ms) (msAt ms))) (gen n (upto j (keptT a xs ms ts) (tsAt ts))) bs, boxG B 29 #[.int .i64 R, .slice q1 n d1, .slice (some ⟨k2, 0, none⟩) n d2, .slice (some ⟨k3, 0, none⟩) n d3, .slice q4 n4 d4], boxG D 33 #[.int .i64 0, .int .i64 (goneM a xs ms j), .int .i64 0, .int .i64 (goneT a xs ms ts j)]])) (fun i _ => n - (intOf i).toNat)
  case atStart => exact ⟨0, by omega, rfl, HE4⟩
  case round =>
    clear HE4
    obtain ⟨j, hj, rfl, HF⟩ := hrel
    obtain ⟨p0, p1, p2, p3, p4⟩ := box5 (HF.out.nth 0 rfl)
    by_cases hlt : (j : Int) < n
    · have HK := Lib.hid (show j < n by omega)
      obtain ⟨r, l, i, hx⟩ := get_of_lt HRL.out.len (k := j) HK.out
      obtain ⟨g1', e1, -, -, d1', -⟩ := (HRL.out.on HF.out.gr).at_ j _ hx
      cases e1
      dsimp only at d1'
      have hpf := HPF.out j
      have hlf := HLF.out j
      have hlo := HLO.out j
      have hgs := HGS.out j
      have HGM := Lib.hid (show goneM a xs ms j + lostM a xs ms j = goneM a xs ms (j + 1) from sum_next j _)
      have HGT := Lib.hid (show goneT a xs ms ts j + lostT a xs ms ts j = goneT a xs ms ts (j + 1) from sum_next j _)
      have HD := Lib.hid (HSP.out j l (by simp [lvAt, hx]))
      have HSJ := Lib.hid (HSH.out j)
      have gm := at_get (xs := ms) (k := j) (by rw [HN.out.1]; exact HK.out)
      have gt := at_get (xs := ts) (k := j) (by rw [HN.out.2]; exact HK.out)
      rw [(ats_eq ms j).1] at gm
      rw [(ats_eq ts j).2] at gt
      obtain ⟨g2', o2, e2, d2'⟩ := (HRM.out.on HF.out.gr).at_ j _ gm
      cases e2
      rw [Nat.zero_add] at d2'
      have HCM := Lib.hid (fun u (hu : wr.grownBy u none) => hu.cell d2' (by simp))
      obtain ⟨g3', o3, e3, d3'⟩ := (HRT.out.on HF.out.gr).at_ j _ gt
      cases e3
      rw [Nat.zero_add] at d3'
      have HCT := Lib.hid (fun u (hu : wr.grownBy u none) => hu.cell d3' (by simp))
      have HTM := Lib.hid (show (gen n (upto j (keptM a xs ms) (msAt ms))).set j (msAt ms j - lostM a xs ms j) = (gen n (upto (j + 1) (keptM a xs ms) (msAt ms))) from upto_set (keptM a xs ms) (msAt ms))
      have HTT := Lib.hid (show (gen n (upto j (keptT a xs ms ts) (tsAt ts))).set j (tsAt ts j - lostT a xs ms ts j) = (gen n (upto (j + 1) (keptT a xs ms ts) (tsAt ts))) from upto_set (keptT a xs ms ts) (tsAt ts))
      have HXM := Lib.hid (show (gen n (upto j (keptM a xs ms) (msAt ms)))[j]? = some (msAt ms j) by rw [gen_at _ HK.out, upto_here])
      have HXT := Lib.hid (show (gen n (upto j (keptT a xs ms ts) (tsAt ts)))[j]? = some (tsAt ts j) by rw [gen_at _ HK.out, upto_here])
      have hLm : lostM a xs ms j = min (partN a xs j) (msAt ms j) := rfl
      generalize lostM a xs ms j = m at *
      generalize lostT a xs ms ts j = t at *
      generalize msAt ms j = X at *
      generalize tsAt ts j = Y at *
      generalize goneM a xs ms j = U at *
      generalize goneT a xs ms ts j = V at *
      generalize partN a xs j = P at *
      have hw1 : IntKind.i64.wrap (X - m) = X - m := IntWalk.i64_in _ (by omega)
      have hw2 : IntKind.i64.wrap (Y - t) = Y - t := IntWalk.i64_in _ (by omega)
      have hw3 : IntKind.i64.wrap (U + m) = U + m := IntWalk.i64_in _ (by omega)
      have hw4 : IntKind.i64.wrap (V + t) = V + t := IntWalk.i64_in _ (by omega)
      clear hx gm gt hlf hlo hgs hpf
      go_upto_region 6 with fail
      go_cut [9] from 21 to 35 (fun v wx => v = .int .i64 m ∧ Hid (Held w wx [boxG w.heap.size 29 #[.int .i64 R, .slice (some ⟨g1, 0, none⟩) n c1, .slice (some ⟨g2, 0, none⟩) n c2, .slice (some ⟨g3, 0, none⟩) n c3, .slice (some ⟨g4, 0, none⟩) n4 c4], boxG (w.heap.size + 1) 29 #[.int .i64 0, .slice none 0 0, .slice none 0 0, .slice none 0 0, .slice none 0 0], boxG (w.heap.size + 2) 33 #[.int .i64 0, .int .i64 0, .int .i64 0, .int .i64 0], stateG (.slice q1 n d1) (.slice (some ⟨k2, 0, none⟩) n d2) (.slice (some ⟨k3, 0, none⟩) n d3) (.slice q4 n4 d4) n n n n4 xs (gen n (upto j (keptM a xs ms) (msAt ms))) (gen n (upto j (keptT a xs ms ts) (tsAt ts))) bs, boxG B 29 #[.int .i64 R, .slice q1 n d1, .slice (some ⟨k2, 0, none⟩) n d2, .slice (some ⟨k3, 0, none⟩) n d3, .slice q4 n4 d4], boxG D 33 #[.int .i64 0, .int .i64 U, .int .i64 0, .int .i64 V]]) ∧ Hid (wr.grownBy wx none))
      case first =>
        rcases Int.lt_trichotomy P X with hq | hq | hq
        · obtain rfl : m = P := by omega
          clear hLm
          have hgg : wr.grownBy wr none := Cell.grown_refl _
          go_region_held3 (fun w' => w'.cell? ⟨w.heap.size, 1, none⟩ = some (.slice (some ⟨g1, 0, none⟩) n c1) ∧ w'.cell? ⟨w.heap.size, 2, none⟩ = some (.slice (some ⟨g2, 0, none⟩) n c2) ∧ w'.cell? ⟨g1, j * 3 + 1, none⟩ = some (.int .i64 l) ∧ w'.cell? ⟨g2, j, none⟩ = some (.int .i64 X) ∧ wr.grownBy w' none)
            ((go_split_ands; refine ⟨?_, ?_, ?_, ?_, ?_⟩ <;> first | assumption | exact hgc.cell (by assumption) (by simp) | exact Cell.grown_trans (by assumption) hgc | exact Cell.g_drew (by assumption)))
            (first
              | (go_at_call 56; ((with_reducible refine (HD.out _).mono ?_); rintro e w'' ⟨rfl, hgc⟩)))
          go_split_ands
          rename_i r1 r2 r3 r4 hr
          go_wp2_with fail
          go_meet
          exact ⟨rfl, Lib.hid (HF.out.on hr), Lib.hid hr⟩
        · subst hq
          obtain rfl : m = P := by omega
          clear hLm
          have hgg : wr.grownBy wr none := Cell.grown_refl _
          go_region_held3 (fun w' => w'.cell? ⟨w.heap.size, 1, none⟩ = some (.slice (some ⟨g1, 0, none⟩) n c1) ∧ w'.cell? ⟨w.heap.size, 2, none⟩ = some (.slice (some ⟨g2, 0, none⟩) n c2) ∧ w'.cell? ⟨g1, j * 3 + 1, none⟩ = some (.int .i64 l) ∧ w'.cell? ⟨g2, j, none⟩ = some (.int .i64 m) ∧ wr.grownBy w' none)
            ((go_split_ands; refine ⟨?_, ?_, ?_, ?_, ?_⟩ <;> first | assumption | exact hgc.cell (by assumption) (by simp) | exact Cell.grown_trans (by assumption) hgc | exact Cell.g_drew (by assumption)))
            (first
              | (go_at_call 56; ((with_reducible refine (HD.out _).mono ?_); rintro e w'' ⟨rfl, hgc⟩)))
          go_split_ands
          rename_i r1 r2 r3 r4 hr
          go_wp2_with fail
          go_meet
          exact ⟨rfl, Lib.hid (HF.out.on hr), Lib.hid hr⟩
        · obtain rfl : m = X := by omega
          clear hLm
          have hgg : wr.grownBy wr none := Cell.grown_refl _
          go_region_held3 (fun w' => w'.cell? ⟨w.heap.size, 1, none⟩ = some (.slice (some ⟨g1, 0, none⟩) n c1) ∧ w'.cell? ⟨w.heap.size, 2, none⟩ = some (.slice (some ⟨g2, 0, none⟩) n c2) ∧ w'.cell? ⟨g1, j * 3 + 1, none⟩ = some (.int .i64 l) ∧ w'.cell? ⟨g2, j, none⟩ = some (.int .i64 m) ∧ wr.grownBy w' none)
            ((go_split_ands; refine ⟨?_, ?_, ?_, ?_, ?_⟩ <;> first | assumption | exact hgc.cell (by assumption) (by simp) | exact Cell.grown_trans (by assumption) hgc | exact Cell.g_drew (by assumption)))
            (first
              | (go_at_call 56; ((with_reducible refine (HD.out _).mono ?_); rintro e w'' ⟨rfl, hgc⟩)))
          go_split_ands
          rename_i r1 r2 r3 r4 hr
          go_wp2_with fail
          go_meet
          exact ⟨rfl, Lib.hid (HF.out.on hr), Lib.hid hr⟩
      case rest =>
      obtain ⟨rfl, HC, HG⟩ := hcut
      clear HF hLm d1' d2' d3' p0 p1 p2 p3 p4
      obtain ⟨p0, p1, p2, p3, p4⟩ := box5 (HC.out.nth 0 rfl)
      have hcm := HCM.out _ HG.out
      have hct := HCT.out _ HG.out
      go_upto_region 7 with fail
      go_quiet ((refine Calls.quiet_of_same (HSJ.out _); done))
      have HE5 := Lib.hid (HC.out.on (Cell.g_drewN (Cell.grown_refl _) nq))
      clear p0 p1 p2 p3 p4 hcm hct HC HCM HCT HSJ HG
      generalize wc.drewN nq = W5 at *
      go_upto_region 8 with fail
      go_cut [] from 48 to 58 (fun wx => Hid (Held w wx [boxG w.heap.size 29 #[.int .i64 R, .slice (some ⟨g1, 0, none⟩) n c1, .slice (some ⟨g2, 0, none⟩) n c2, .slice (some ⟨g3, 0, none⟩) n c3, .slice (some ⟨g4, 0, none⟩) n4 c4], boxG (w.heap.size + 1) 29 #[.int .i64 0, .slice none 0 0, .slice none 0 0, .slice none 0 0, .slice none 0 0], boxG (w.heap.size + 2) 33 #[.int .i64 0, .int .i64 0, .int .i64 0, .int .i64 0], stateG (.slice q1 n d1) (.slice (some ⟨k2, 0, none⟩) n d2) (.slice (some ⟨k3, 0, none⟩) n d3) (.slice q4 n4 d4) n n n n4 xs (gen n (upto (j + 1) (keptM a xs ms) (msAt ms))) (gen n (upto j (keptT a xs ms ts) (tsAt ts))) bs, boxG B 29 #[.int .i64 R, .slice q1 n d1, .slice (some ⟨k2, 0, none⟩) n d2, .slice (some ⟨k3, 0, none⟩) n d3, .slice q4 n4 d4], boxG D 33 #[.int .i64 0, .int .i64 U, .int .i64 0, .int .i64 V]]))
      case first =>
        obtain ⟨p0, p1, p2, p3, p4⟩ := box5 (HE5.out.nth 4 rfl)
        obtain ⟨g', y9, e, r, mc, mf⟩ := own_cellI (OwnS.m (HE5.out.nth 3 rfl)) HK.out
        cases e
        rw [HXM.out] at r
        cases r
        go_region
        all_goals
          go_wp2_with fail
          go_meet
          first
            | (have q := State.Held.setMass (HE5.out.on (Mesh.gr_drew (Cell.grown_refl _))) 3 rfl j (X - m); rw [HTM.out] at q; exact Lib.hid q)
            | (have q := (State.Held.setMass HE5.out 3 rfl j (X - m)).on (Mesh.gr_drew (Cell.grown_refl _)); rw [HTM.out] at q; exact Lib.hid q)
            | (have q := State.Held.setMass HE5.out 3 rfl j (X - m); rw [HTM.out] at q; exact Lib.hid q)
      case rest =>
      have HE6 := Lib.hid hcut.out
      clear hcut HE5
      go_upto_region 9 with fail
      go_cut [] from 59 to 69 (fun wx => Hid (Held w wx [boxG w.heap.size 29 #[.int .i64 R, .slice (some ⟨g1, 0, none⟩) n c1, .slice (some ⟨g2, 0, none⟩) n c2, .slice (some ⟨g3, 0, none⟩) n c3, .slice (some ⟨g4, 0, none⟩) n4 c4], boxG (w.heap.size + 1) 29 #[.int .i64 0, .slice none 0 0, .slice none 0 0, .slice none 0 0, .slice none 0 0], boxG (w.heap.size + 2) 33 #[.int .i64 0, .int .i64 0, .int .i64 0, .int .i64 0], stateG (.slice q1 n d1) (.slice (some ⟨k2, 0, none⟩) n d2) (.slice (some ⟨k3, 0, none⟩) n d3) (.slice q4 n4 d4) n n n n4 xs (gen n (upto (j + 1) (keptM a xs ms) (msAt ms))) (gen n (upto (j + 1) (keptT a xs ms ts) (tsAt ts))) bs, boxG B 29 #[.int .i64 R, .slice q1 n d1, .slice (some ⟨k2, 0, none⟩) n d2, .slice (some ⟨k3, 0, none⟩) n d3, .slice q4 n4 d4], boxG D 33 #[.int .i64 0, .int .i64 U, .int .i64 0, .int .i64 V]]))
      case first =>
        obtain ⟨p0, p1, p2, p3, p4⟩ := box5 (HE6.out.nth 4 rfl)
        obtain ⟨g', y9, e, r, mc, mf⟩ := own_cellI (OwnS.t (HE6.out.nth 3 rfl)) HK.out
        cases e
        rw [HXT.out] at r
        cases r
        go_region
        all_goals
          go_wp2_with fail
          go_meet
          first
            | (have q := State.Held.setTracer (HE6.out.on (Mesh.gr_drew (Cell.grown_refl _))) 3 rfl j (Y - t); rw [HTT.out] at q; exact Lib.hid q)
            | (have q := (State.Held.setTracer HE6.out 3 rfl j (Y - t)).on (Mesh.gr_drew (Cell.grown_refl _)); rw [HTT.out] at q; exact Lib.hid q)
            | (have q := State.Held.setTracer HE6.out 3 rfl j (Y - t); rw [HTT.out] at q; exact Lib.hid q)
      case rest =>
      have HE7 := Lib.hid hcut.out
      clear hcut HE6
      clear hw1 hw2 HXM HXT HTM HTT
      obtain ⟨x0, x1, x2, x3⟩ := cells4 (HE7.out.nth 5 rfl)
      obtain ⟨e0, e1, e2, e3⟩ := frees4 (HE7.out.nth 5 rfl)
      go_upto_region 10 with fail
      go_upto_region 11 with fail
      have HE8 := Lib.hid (HE7.out.put 5 rfl 1 (.int .i64 (U + m)))
      clear x0 x1 x2 x3 e0 e1 e2 e3 HE7
      generalize wc.setCell ⟨D, 1, none⟩ (.int .i64 (U + m)) = W8 at *
      obtain ⟨x0, x1, x2, x3⟩ := cells4 (HE8.out.nth 5 rfl)
      obtain ⟨e0, e1, e2, e3⟩ := frees4 (HE8.out.nth 5 rfl)
      go_wp2_with fail
      have q := HE8.out.put 5 rfl 3 (.int .i64 (V + t))
      exact ⟨⟨j + 1, by omega, by go_num, Lib.hid (by rw [← HGM.out, ← HGT.out]; exact q)⟩, by simp [intOf]; omega⟩
    · obtain rfl : n = j := by omega
      have HE8 := Lib.hid HF.out
      rw [upto_all, upto_all] at HE8
      clear HF
      go_upto_region 12 with fail
      clear p0 p1 p2 p3 p4
      obtain ⟨p0, p1, p2, p3, p4⟩ := box5 (HE8.out.nth 4 rfl)
      obtain ⟨x0, x1, x2, x3⟩ := cells4 (HE8.out.nth 5 rfl)
      obtain ⟨r0, r1, r2, r3, r4⟩ := box5 (HE8.out.nth 1 rfl)
      obtain ⟨f0, f1, f2, f3, f4⟩ := free5 (HE8.out.nth 1 rfl)
      obtain ⟨y0, y1, y2, y3⟩ := cells4 (HE8.out.nth 2 rfl)
      obtain ⟨e0, e1, e2, e3⟩ := frees4 (HE8.out.nth 2 rfl)
      have n14 : w.heap.size + 1 ≠ B := HE8.out.boxNe 1 4 (by decide) rfl rfl
      have n24 : w.heap.size + 1 + 1 ≠ B := HE8.out.boxNe 2 4 (by decide) rfl rfl
      have n15 : w.heap.size + 1 ≠ D := HE8.out.boxNe 1 5 (by decide) rfl rfl
      have n25 : w.heap.size + 1 + 1 ≠ D := HE8.out.boxNe 2 5 (by decide) rfl rfl
      go_region
      all_goals
        go_wp2_with fail
        have he := ((HE8.out.put5 1 rfl (.int .i64 R) (.slice q1 n d1) (.slice (some ⟨k2, 0, none⟩) n d2) (.slice (some ⟨k3, 0, none⟩) n d3) (.slice q4 n4 d4)).put4 2 rfl (.int .i64 0) (.int .i64 (goneM a xs ms n)) (.int .i64 0) (.int .i64 (goneT a xs ms ts n))).on (Mesh.gr_drew (Cell.grown_refl _))
        exact bodyPost_ret_by (results_two_rows (fn := Try.f55) rfl _ _ (w.heap.size + 1) (w.heap.size + 2) _ _ _ _ (0, 0) (0, 0) _ _ rfl rfl (he.nth 1 rfl) (he.nth 2 rfl) Try.underlying29 rfl (by kernel_rfl) Try.underlying33 rfl (by kernel_rfl)) rfl ⟨q1, d1, some ⟨k2, 0, none⟩, d2, some ⟨k3, 0, none⟩, d3, q4, d4, rfl, Held.stateOwn he 3 rfl, he.gr⟩

set_option maxHeartbeats 8000000 in
theorem specSoak_is (R : Int) (g1 g2 g3 g4 n1 n2 n3 n4 c1 c2 c3 c4 : Nat) (xs : List C3) (ms ts bs : List Int) (a : Int) (w : World) (h : ReadsS w (some ⟨g1, 0, none⟩) (some ⟨g2, 0, none⟩) (some ⟨g3, 0, none⟩) (some ⟨g4, 0, none⟩) n1 n2 n3 n4 xs ms ts bs) (h1 : n1 ≤ 1048576) (h2 : n2 ≤ 1048576) (h3 : n3 ≤ 1048576) (h4 : n4 ≤ 1048576) :
    Calls Try.prog 24 #[.agg #[.int .i64 R, .slice (some ⟨g1, 0, none⟩) n1 c1, .slice (some ⟨g2, 0, none⟩) n2 c2, .slice (some ⟨g3, 0, none⟩) n3 c3, .slice (some ⟨g4, 0, none⟩) n4 c4], .int .i64 a] w (GivesSL R n1 n2 n3 n4 xs (skM R xs ms ts bs a) (skT R xs ms ts bs a) bs 0 (skL1 R xs ms ts bs a) 0 (skL3 R xs ms ts bs a) w) := by
  have HOK := Lib.hid (show ∀ u, w.grownBy u none → Calls Try.prog 38 #[.agg #[.int .i64 R, .slice (some ⟨g1, 0, none⟩) n1 c1, .slice (some ⟨g2, 0, none⟩) n2 c2, .slice (some ⟨g3, 0, none⟩) n3 c3, .slice (some ⟨g4, 0, none⟩) n4 c4]] u fun e w' => e = .returned (.bool (stOk R xs ms ts bs)) ∧ u.grownBy w' none from fun u hu => specStateOk_is R _ _ _ _ n1 n2 n3 n4 c1 c2 c3 c4 xs ms ts bs u (h.on hu) h1 h2 h3 h4)
  have HIN := Lib.hid (show ∀ u, Calls Try.prog 44 #[.int .i64 a, .int .i64 0, .int .i64 10000] u fun e w' => e = .returned (.bool (amtB a)) ∧ w' = u from fun u => range_is a 0 10000 u _ rfl)
  have HCP := Lib.hid (show ∀ u, w.grownBy u none → Calls Try.prog 45 #[.agg #[.int .i64 R, .slice (some ⟨g1, 0, none⟩) n1 c1, .slice (some ⟨g2, 0, none⟩) n2 c2, .slice (some ⟨g3, 0, none⟩) n3 c3, .slice (some ⟨g4, 0, none⟩) n4 c4]] u (GivesS R n1 n2 n3 n4 xs ms ts bs u) from fun u hu => specStCopy_is R g1 g2 g3 g4 n1 n2 n3 n4 c1 c2 c3 c4 xs ms ts bs u (h.on hu) h1 h2 h3 h4)
  have HAP := Lib.hid (show stOk R xs ms ts bs = true → amtB a = true → ∀ u, w.grownBy u none → Calls Try.prog 55 #[.agg #[.int .i64 R, .slice (some ⟨g1, 0, none⟩) n1 c1, .slice (some ⟨g2, 0, none⟩) n2 c2, .slice (some ⟨g3, 0, none⟩) n3 c3, .slice (some ⟨g4, 0, none⟩) n4 c4], .int .i64 a] u (GivesSL R n1 n2 n3 n4 xs (soakM a xs ms) (soakT a xs ms ts) bs 0 (goneM a xs ms ms.length) 0 (goneT a xs ms ts ms.length) u) from fun hs hb u hu => specSoakV_is R g1 g2 g3 g4 n1 n2 n3 n4 c1 c2 c3 c4 xs ms ts bs a u (h.on hu) h1 h2 h3 h4 hs hb)
  clear h h1 h2 h3 h4
  have he := (((Held.nil w).box 29 #[.int .i64 R, .slice (some ⟨g1, 0, none⟩) n1 c1, .slice (some ⟨g2, 0, none⟩) n2 c2, .slice (some ⟨g3, 0, none⟩) n3 c3, .slice (some ⟨g4, 0, none⟩) n4 c4]).box 29 #[.int .i64 0, .slice none 0 0, .slice none 0 0, .slice none 0 0, .slice none 0 0]).box 33 #[.int .i64 0, .int .i64 0, .int .i64 0, .int .i64 0]
  simp only [World.size_alloc] at he
  have HE := Lib.hid he; clear he
  cases hs : stOk R xs ms ts bs with
  | false =>
    have hp : srcB R xs ms ts bs a = false := by unfold srcB; rw [hs]; rfl
    unfold skM skT skL1 skL3
    rw [hp]
    rw [hs] at HOK
    simp only [Bool.false_eq_true, if_false]
    clear hs hp HAP
    go_enter Try.func24, Try.ntmps24
    go_upto_region 1 with fail
    generalize ((w.alloc (.cells #[.int .i64 R, .slice (some ⟨g1, 0, none⟩) n1 c1, .slice (some ⟨g2, 0, none⟩) n2 c2, .slice (some ⟨g3, 0, none⟩) n3 c3, .slice (some ⟨g4, 0, none⟩) n4 c4] 29)).alloc (.cells #[.int .i64 0, .slice none 0 0, .slice none 0 0, .slice none 0 0, .slice none 0 0] 29)).alloc (.cells #[.int .i64 0, .int .i64 0, .int .i64 0, .int .i64 0] 33) = W0 at *
    obtain ⟨p0, p1, p2, p3, p4⟩ := box5 (HE.out.nth 0 rfl)
    go_wp2_with (first
      | (go_at_call 38; ((with_reducible refine (HOK.out _ HE.out.gr).mono ?_); rintro e w1 ⟨rfl, hg⟩; have HE1 := Lib.hid (HE.out.on hg); obtain ⟨z0, z1, z2, z3, z4⟩ := box5 (HE1.out.nth 0 rfl); clear hg))
      | (go_at_call 44; ((with_reducible refine (HIN.out _).mono ?_); rintro e w2 ⟨rfl, rfl⟩))
      | (go_at_call 45; ((with_reducible refine (HCP.out _ HE1.out.gr).mono ?_); rintro e w2 ⟨q1, d1, q2, d2, q3, d3, q4, d4, rfl, ho, hg⟩; have HE2 := Lib.hid (State.Held.state HE1.out hg ho); obtain ⟨r0, r1, r2, r3, r4⟩ := box5 (HE2.out.nth 1 rfl); obtain ⟨f0, f1, f2, f3, f4⟩ := free5 (HE2.out.nth 1 rfl); obtain ⟨x0, x1, x2, x3⟩ := cells4 (HE2.out.nth 2 rfl); obtain ⟨e0, e1, e2, e3⟩ := frees4 (HE2.out.nth 2 rfl); clear ho hg)))
    have he := (HE2.out.put5 1 rfl (.int .i64 R) (.slice q1 n1 d1) (.slice q2 n2 d2) (.slice q3 n3 d3) (.slice q4 n4 d4)).put4 2 rfl (.int .i64 0) (.int .i64 0) (.int .i64 0) (.int .i64 0)
    exact bodyPost_ret_by (results_two_rows (fn := Try.f24) rfl _ _ (w.heap.size + 1) (w.heap.size + 2) _ _ _ _ (0, 0) (0, 0) _ _ rfl rfl (he.nth 1 rfl) (he.nth 2 rfl) Try.underlying29 rfl (by kernel_rfl) Try.underlying33 rfl (by kernel_rfl)) rfl ⟨q1, d1, q2, d2, q3, d3, q4, d4, rfl, Held.stateOwn he 3 rfl, he.gr⟩
  | true =>
  cases hb : amtB a with
  | false =>
    have hp : srcB R xs ms ts bs a = false := by unfold srcB; rw [hs, hb]; rfl
    unfold skM skT skL1 skL3
    rw [hp]
    rw [hs] at HOK
    rw [hb] at HIN
    simp only [Bool.false_eq_true, if_false]
    clear hs hp hb HAP
    go_enter Try.func24, Try.ntmps24
    go_upto_region 1 with fail
    generalize ((w.alloc (.cells #[.int .i64 R, .slice (some ⟨g1, 0, none⟩) n1 c1, .slice (some ⟨g2, 0, none⟩) n2 c2, .slice (some ⟨g3, 0, none⟩) n3 c3, .slice (some ⟨g4, 0, none⟩) n4 c4] 29)).alloc (.cells #[.int .i64 0, .slice none 0 0, .slice none 0 0, .slice none 0 0, .slice none 0 0] 29)).alloc (.cells #[.int .i64 0, .int .i64 0, .int .i64 0, .int .i64 0] 33) = W0 at *
    obtain ⟨p0, p1, p2, p3, p4⟩ := box5 (HE.out.nth 0 rfl)
    go_wp2_with (first
      | (go_at_call 38; ((with_reducible refine (HOK.out _ HE.out.gr).mono ?_); rintro e w1 ⟨rfl, hg⟩; have HE1 := Lib.hid (HE.out.on hg); obtain ⟨z0, z1, z2, z3, z4⟩ := box5 (HE1.out.nth 0 rfl); clear hg))
      | (go_at_call 44; ((with_reducible refine (HIN.out _).mono ?_); rintro e w2 ⟨rfl, rfl⟩))
      | (go_at_call 45; ((with_reducible refine (HCP.out _ HE1.out.gr).mono ?_); rintro e w2 ⟨q1, d1, q2, d2, q3, d3, q4, d4, rfl, ho, hg⟩; have HE2 := Lib.hid (State.Held.state HE1.out hg ho); obtain ⟨r0, r1, r2, r3, r4⟩ := box5 (HE2.out.nth 1 rfl); obtain ⟨f0, f1, f2, f3, f4⟩ := free5 (HE2.out.nth 1 rfl); obtain ⟨x0, x1, x2, x3⟩ := cells4 (HE2.out.nth 2 rfl); obtain ⟨e0, e1, e2, e3⟩ := frees4 (HE2.out.nth 2 rfl); clear ho hg)))
    have he := (HE2.out.put5 1 rfl (.int .i64 R) (.slice q1 n1 d1) (.slice q2 n2 d2) (.slice q3 n3 d3) (.slice q4 n4 d4)).put4 2 rfl (.int .i64 0) (.int .i64 0) (.int .i64 0) (.int .i64 0)
    exact bodyPost_ret_by (results_two_rows (fn := Try.f24) rfl _ _ (w.heap.size + 1) (w.heap.size + 2) _ _ _ _ (0, 0) (0, 0) _ _ rfl rfl (he.nth 1 rfl) (he.nth 2 rfl) Try.underlying29 rfl (by kernel_rfl) Try.underlying33 rfl (by kernel_rfl)) rfl ⟨q1, d1, q2, d2, q3, d3, q4, d4, rfl, Held.stateOwn he 3 rfl, he.gr⟩
  | true =>
    have hp : srcB R xs ms ts bs a = true := by unfold srcB; rw [hs, hb]; rfl
    unfold skM skT skL1 skL3
    simp only [hp, if_true]
    have HA2 := Lib.hid (HAP.out hs hb)
    rw [hs] at HOK
    rw [hb] at HIN
    clear hs hp hb HAP HCP
    generalize soakM a xs ms = mm at *; generalize soakT a xs ms ts = mt at *; generalize goneM a xs ms ms.length = l1 at *; generalize goneT a xs ms ts ms.length = l3 at *;
    go_enter Try.func24, Try.ntmps24
    go_upto_region 1 with fail
    generalize ((w.alloc (.cells #[.int .i64 R, .slice (some ⟨g1, 0, none⟩) n1 c1, .slice (some ⟨g2, 0, none⟩) n2 c2, .slice (some ⟨g3, 0, none⟩) n3 c3, .slice (some ⟨g4, 0, none⟩) n4 c4] 29)).alloc (.cells #[.int .i64 0, .slice none 0 0, .slice none 0 0, .slice none 0 0, .slice none 0 0] 29)).alloc (.cells #[.int .i64 0, .int .i64 0, .int .i64 0, .int .i64 0] 33) = W0 at *
    obtain ⟨p0, p1, p2, p3, p4⟩ := box5 (HE.out.nth 0 rfl)
    go_wp2_with (first
      | (go_at_call 38; ((with_reducible refine (HOK.out _ HE.out.gr).mono ?_); rintro e w1 ⟨rfl, hg⟩; have HE1 := Lib.hid (HE.out.on hg); obtain ⟨z0, z1, z2, z3, z4⟩ := box5 (HE1.out.nth 0 rfl); clear hg))
      | (go_at_call 44; ((with_reducible refine (HIN.out _).mono ?_); rintro e w2 ⟨rfl, rfl⟩))
      | (go_at_call 55; ((with_reducible refine (HA2.out _ HE1.out.gr).mono ?_); rintro e w2 ⟨q1, d1, q2, d2, q3, d3, q4, d4, rfl, ho, hg⟩; have HE2 := Lib.hid (State.Held.state HE1.out hg ho); obtain ⟨r0, r1, r2, r3, r4⟩ := box5 (HE2.out.nth 1 rfl); obtain ⟨f0, f1, f2, f3, f4⟩ := free5 (HE2.out.nth 1 rfl); obtain ⟨x0, x1, x2, x3⟩ := cells4 (HE2.out.nth 2 rfl); obtain ⟨e0, e1, e2, e3⟩ := frees4 (HE2.out.nth 2 rfl); clear ho hg)))
    have he := (HE2.out.put5 1 rfl (.int .i64 R) (.slice q1 n1 d1) (.slice q2 n2 d2) (.slice q3 n3 d3) (.slice q4 n4 d4)).put4 2 rfl (.int .i64 0) (.int .i64 l1) (.int .i64 0) (.int .i64 l3)
    exact bodyPost_ret_by (results_two_rows (fn := Try.f24) rfl _ _ (w.heap.size + 1) (w.heap.size + 2) _ _ _ _ (0, 0) (0, 0) _ _ rfl rfl (he.nth 1 rfl) (he.nth 2 rfl) Try.underlying29 rfl (by kernel_rfl) Try.underlying33 rfl (by kernel_rfl)) rfl ⟨q1, d1, q2, d2, q3, d3, q4, d4, rfl, Held.stateOwn he 3 rfl, he.gr⟩

set_option maxHeartbeats 16000000 in
theorem specDryOut_is (R : Int) (g1 g2 g3 g4 n1 n2 n3 n4 c1 c2 c3 c4 : Nat) (xs : List C3) (ms ts bs : List Int) (a : Int) (w : World) (h : ReadsS w (some ⟨g1, 0, none⟩) (some ⟨g2, 0, none⟩) (some ⟨g3, 0, none⟩) (some ⟨g4, 0, none⟩) n1 n2 n3 n4 xs ms ts bs) (h1 : n1 ≤ 1048576) (h2 : n2 ≤ 1048576) (h3 : n3 ≤ 1048576) (h4 : n4 ≤ 1048576) :
    Calls Try.prog 25 #[.agg #[.int .i64 R, .slice (some ⟨g1, 0, none⟩) n1 c1, .slice (some ⟨g2, 0, none⟩) n2 c2, .slice (some ⟨g3, 0, none⟩) n3 c3, .slice (some ⟨g4, 0, none⟩) n4 c4], .int .i64 a] w fun e w' => e = .returned (.int .i64 (drG R xs ms ts bs a)) ∧ w.grownBy w' none := by
  have HOK := Lib.hid (show ∀ u, w.grownBy u none → Calls Try.prog 38 #[.agg #[.int .i64 R, .slice (some ⟨g1, 0, none⟩) n1 c1, .slice (some ⟨g2, 0, none⟩) n2 c2, .slice (some ⟨g3, 0, none⟩) n3 c3, .slice (some ⟨g4, 0, none⟩) n4 c4]] u fun e w' => e = .returned (.bool (stOk R xs ms ts bs)) ∧ u.grownBy w' none from fun u hu => specStateOk_is R _ _ _ _ n1 n2 n3 n4 c1 c2 c3 c4 xs ms ts bs u (h.on hu) h1 h2 h3 h4)
  have HIN := Lib.hid (show ∀ u, Calls Try.prog 44 #[.int .i64 a, .int .i64 0, .int .i64 10000] u fun e w' => e = .returned (.bool (amtB a)) ∧ w' = u from fun u => range_is a 0 10000 u _ rfl)
  have HE := Lib.hid ((Held.nil w).box 29 #[.int .i64 R, .slice (some ⟨g1, 0, none⟩) n1 c1, .slice (some ⟨g2, 0, none⟩) n2 c2, .slice (some ⟨g3, 0, none⟩) n3 c3, .slice (some ⟨g4, 0, none⟩) n4 c4])
  unfold drG
  cases hs : stOk R xs ms ts bs with
  | false =>
    have hp : srcB R xs ms ts bs a = false := by unfold srcB; rw [hs]; rfl
    rw [hp, if_neg (by decide)]
    rw [hs] at HOK
    clear h h1 h2 h3 h4 hs hp HIN
    go_enter Try.func25, Try.ntmps25
    go_upto_region 1 with fail
    generalize w.alloc (.cells #[.int .i64 R, .slice (some ⟨g1, 0, none⟩) n1 c1, .slice (some ⟨g2, 0, none⟩) n2 c2, .slice (some ⟨g3, 0, none⟩) n3 c3, .slice (some ⟨g4, 0, none⟩) n4 c4] 29) = W0 at *
    go_wp2_with fail
    go_loopw [5, 6] (fun c i wr => c = .int .i64 0 ∧ i = .int .i64 0 ∧ Hid (Held w wr [boxG w.heap.size 29 #[.int .i64 R, .slice (some ⟨g1, 0, none⟩) n1 c1, .slice (some ⟨g2, 0, none⟩) n2 c2, .slice (some ⟨g3, 0, none⟩) n3 c3, .slice (some ⟨g4, 0, none⟩) n4 c4]])) (fun _ _ _ => 0)
    case atStart => exact ⟨rfl, rfl, HE⟩
    case round =>
      clear HE
      obtain ⟨rfl, rfl, HF⟩ := hrel
      obtain ⟨p0, p1, p2, p3, p4⟩ := box5 (HF.out.nth 0 rfl)
      by_cases hlt : (0 : Int) < n2
      · go_wp2_with (first
          | (go_at_call 38; ((with_reducible refine (HOK.out _ HF.out.gr).mono ?_); rintro e w1 ⟨rfl, hg⟩; have HE1 := Lib.hid (HF.out.on hg); clear hg)))
        go_ret
        exact ⟨rfl, HE1.out.gr⟩
      · go_wp2_with fail
        go_ret
        exact ⟨rfl, HF.out.gr⟩
  | true =>
  cases hb : amtB a with
  | false =>
    have hp : srcB R xs ms ts bs a = false := by unfold srcB; rw [hs, hb]; rfl
    rw [hp, if_neg (by decide)]
    rw [hs] at HOK
    rw [hb] at HIN
    clear h h1 h2 h3 h4 hs hp hb
    go_enter Try.func25, Try.ntmps25
    go_upto_region 1 with fail
    generalize w.alloc (.cells #[.int .i64 R, .slice (some ⟨g1, 0, none⟩) n1 c1, .slice (some ⟨g2, 0, none⟩) n2 c2, .slice (some ⟨g3, 0, none⟩) n3 c3, .slice (some ⟨g4, 0, none⟩) n4 c4] 29) = W0 at *
    go_wp2_with fail
    go_loopw [5, 6] (fun c i wr => c = .int .i64 0 ∧ i = .int .i64 0 ∧ Hid (Held w wr [boxG w.heap.size 29 #[.int .i64 R, .slice (some ⟨g1, 0, none⟩) n1 c1, .slice (some ⟨g2, 0, none⟩) n2 c2, .slice (some ⟨g3, 0, none⟩) n3 c3, .slice (some ⟨g4, 0, none⟩) n4 c4]])) (fun _ _ _ => 0)
    case atStart => exact ⟨rfl, rfl, HE⟩
    case round =>
      clear HE
      obtain ⟨rfl, rfl, HF⟩ := hrel
      obtain ⟨p0, p1, p2, p3, p4⟩ := box5 (HF.out.nth 0 rfl)
      by_cases hlt : (0 : Int) < n2
      · go_wp2_with (first
          | (go_at_call 38; ((with_reducible refine (HOK.out _ HF.out.gr).mono ?_); rintro e w1 ⟨rfl, hg⟩; have HE1 := Lib.hid (HF.out.on hg); clear hg))
          | (go_at_call 44; ((with_reducible refine (HIN.out _).mono ?_); rintro e w2 ⟨rfl, rfl⟩)))
        go_ret
        exact ⟨rfl, HE1.out.gr⟩
      · go_wp2_with fail
        go_ret
        exact ⟨rfl, HF.out.gr⟩
  | true =>
    have hp : srcB R xs ms ts bs a = true := by unfold srcB; rw [hs, hb]; rfl
    rw [hp, if_pos rfl]
    rw [hs] at HOK
    rw [hb] at HIN
    obtain ⟨z1, z2, z3, z4⟩ := st_sizes hs
    have hn1 := h.l.len; have hn2 := h.m.len
    rw [hn2]
    have HRL := Lib.hid h.l; have HRM := Lib.hid h.m
    have HLF := Lib.hid fun k => leaf_range hs k
    have HPF := Lib.hid fun k => (part_facts hb xs k).2
    have HSP := Lib.hid (show ∀ (k : Nat) (l : Int), lvAt xs k = l → ∀ u, Calls Try.prog 56 #[.int .i64 a, .int .i64 l] u fun e w' => e = .returned (.int .i64 (partN a xs k)) ∧ w' = u from fun k l hl u => specPart_is a l _ hb (by rw [← hl]; rfl) u)
    have HDL := Lib.hid fun k => dried_len a xs ms k
    have hni : (n2 : Int) ≤ 128 := by omega
    obtain rfl : n2 = n1 := by omega
    clear h h1 h2 h3 h4 hs hp hb z1 z2 z3 z4 hn1
    have HN2 := Lib.hid hn2
    clear hn2
    go_enter Try.func25, Try.ntmps25
    go_upto_region 1 with fail
    generalize w.alloc (.cells #[.int .i64 R, .slice (some ⟨g1, 0, none⟩) n2 c1, .slice (some ⟨g2, 0, none⟩) n2 c2, .slice (some ⟨g3, 0, none⟩) n3 c3, .slice (some ⟨g4, 0, none⟩) n4 c4] 29) = W0 at *
    go_wp2_with fail
    go_loopw [5, 6] (fun c i wr => ∃ j m : Nat, (j : Int) ≤ n2 ∧ i = .int .i64 j ∧ c = .int .i64 m ∧ Hid (m = driedN a xs ms j) ∧ Hid (Held w wr [boxG w.heap.size 29 #[.int .i64 R, .slice (some ⟨g1, 0, none⟩) n2 c1, .slice (some ⟨g2, 0, none⟩) n2 c2, .slice (some ⟨g3, 0, none⟩) n3 c3, .slice (some ⟨g4, 0, none⟩) n4 c4]])) (fun _ i _ => n2 - (intOf i).toNat)
    case atStart => exact ⟨0, 0, by omega, rfl, rfl, Lib.hid rfl, HE⟩
    case round =>
      clear HE
      obtain ⟨j, m, hj, rfl, rfl, HM, HF⟩ := hrel
      obtain ⟨p0, p1, p2, p3, p4⟩ := box5 (HF.out.nth 0 rfl)
      by_cases hlt : (j : Int) < n2
      · have HK := Lib.hid (show j < n2 by omega)
        obtain ⟨r, l, i, hx⟩ := get_of_lt HRL.out.len (k := j) HK.out
        have HL := Lib.hid (show ∃ z, g1 = z ∧ ∀ u, w.grownBy u none → u.cell? ⟨g1, j * 3 + 1, none⟩ = some (.int .i64 l) from ⟨_, rfl, fun u hu => by
          obtain ⟨g1', e1, -, -, d1', -⟩ := (HRL.out.on hu).at_ j _ hx
          cases e1; exact d1'⟩)
        have HD := Lib.hid (HSP.out j l (by simp [lvAt, hx]))
        have gm := at_get (xs := ms) (k := j) (by rw [HN2.out]; exact HK.out)
        rw [(ats_eq ms j).1] at gm
        have HX := Lib.hid (show ∀ u, w.grownBy u none → u.cell? ⟨g2, j, none⟩ = some (.int .i64 (msAt ms j)) from fun u hu => by
          obtain ⟨g2', o2, e2, d2'⟩ := (HRM.out.on hu).at_ j _ gm
          cases e2
          rw [Nat.zero_add] at d2'
          exact d2')
        have hdm : (m : Int) ≤ j := by have := HM.out; have := HDL.out j; omega
        have HY := Lib.hid (show dries a xs ms j = true → m + 1 = driedN a xs ms (j + 1) from fun e => by rw [dried_yes e, HM.out])
        have HZ := Lib.hid (show dries a xs ms j = false → m = driedN a xs ms (j + 1) from fun e => by rw [dried_no e, HM.out])
        have HB := Lib.hid (show dries a xs ms j = decide (0 < msAt ms j ∧ msAt ms j ≤ partN a xs j) from rfl)
        clear hx gm
        generalize msAt ms j = X at *
        generalize partN a xs j = P at *
        go_upto_region 5 with (first
          | (go_at_call 38; ((with_reducible refine (HOK.out _ HF.out.gr).mono ?_); rintro e w1 ⟨rfl, hg⟩; have HF2 := Lib.hid (HF.out.on hg); clear hg))
          | (go_at_call 44; ((with_reducible refine (HIN.out _).mono ?_); rintro e w2 ⟨rfl, rfl⟩)))
        clear p0 p1 p2 p3 p4
        obtain ⟨p0, p1, p2, p3, p4⟩ := box5 (HF2.out.nth 0 rfl)
        obtain ⟨-, -, hl⟩ := HL.out
        have d1 := hl _ HF2.out.gr
        have d2 := HX.out _ HF2.out.gr
        clear hl
        by_cases h0 : 0 < X
        · have hd0 : decide (0 < X) = true := decide_eq_true h0
          by_cases h1 : X ≤ P
          · have hd1 : decide (X ≤ P) = true := decide_eq_true h1
            have HT := Lib.hid (HY.out (by rw [HB.out]; exact decide_eq_true ⟨h0, h1⟩))
            skip
            go_quiet ((refine Calls.quiet_of_same (HD.out _); done))
            have HF3 := Lib.hid (HF2.out.on (Cell.g_drewN (Cell.grown_refl _) nq))
            go_wp2_with fail
            exact ⟨⟨j + 1, m + 1, by omega, by go_num, by go_num, HT, HF3⟩, by simp [intOf]; omega⟩
          · have hd1 : decide (X ≤ P) = false := decide_eq_false h1
            have HT := Lib.hid (HZ.out (by rw [HB.out]; exact decide_eq_false fun e => h1 e.2))
            skip
            go_quiet ((refine Calls.quiet_of_same (HD.out _); done))
            have HF3 := Lib.hid (HF2.out.on (Cell.g_drewN (Cell.grown_refl _) nq))
            go_wp2_with fail
            exact ⟨⟨j + 1, m, by omega, by go_num, by go_num, HT, HF3⟩, by simp [intOf]; omega⟩
        · have hd0 : decide (0 < X) = false := decide_eq_false h0
          have HT := Lib.hid (HZ.out (by rw [HB.out]; exact decide_eq_false fun e => h0 e.1))
          skip
          go_quiet ((refine Calls.quiet_of_same (HD.out _); done))
          have HF3 := Lib.hid (HF2.out.on (Cell.g_drewN (Cell.grown_refl _) nq))
          go_wp2_with fail
          exact ⟨⟨j + 1, m, by omega, by go_num, by go_num, HT, HF3⟩, by simp [intOf]; omega⟩
      · obtain rfl : n2 = j := by omega
        go_wp2_with fail
        go_ret
        exact ⟨by rw [← HM.out]; rfl, HF.out.gr⟩
end Go.Proofs.Ytmbmeajneankpaa.State
