/- States: the program's TracerFlux and ShareAt, as contracts: what each answers; nothing that was there is written (written by wip/tools/sttrc.py).
   Conditions: at most 2^20 leaves and numbers; ints. -/
import Derived.Test.YtfoilfgiablleaaStTrcT
import Derived.Test.YtfoilfgiablleaaStShare
import Derived.Test.YtfoilfgiablleaaStFluxF
set_option maxRecDepth 100000
namespace Go.Proofs.Ytfoilfgiablleaa.State
open Go.ChangeShapes Go.WideShapes Go.ChangeAt Go.RowKit Go.Joins Go.Proofs.Ytfoilfgiablleaa.Cell Go.Proofs.Ytfoilfgiablleaa.Mesh Go.Proofs.Ytfoilfgiablleaa.Law Go.Proofs.Ytfoilfgiablleaa.Ints Go.Proofs.Ytfoilfgiablleaa.Draws Go.Deep
set_option linter.unusedVariables false

set_option maxHeartbeats 8000000 in
theorem tracerFlux_is (R : Int) (a1 a2 a3 a4 : Option Addr) (n1 n2 n3 n4 c1 c2 c3 c4 : Nat) (xs : List C3) (ms ts bs : List Int) (i : Int) (w : World) (h : ReadsS w a1 a2 a3 a4 n1 n2 n3 n4 xs ms ts bs) (h1 : n1 ≤ 1048576) (h2 : n2 ≤ 1048576) (h3 : n3 ≤ 1048576) (h4 : n4 ≤ 1048576) (hi : -9223372036854775808 ≤ i ∧ i ≤ 9223372036854775807) :
    Calls Try.prog 41 #[.agg #[.int .i64 R, .slice a1 n1 c1, .slice a2 n2 c2, .slice a3 n3 c3, .slice a4 n4 c4], .int .i64 i] w fun e w' => e = .returned (.int .i64 (trcG R xs ms ts bs i)) ∧ w.grownBy w' none := by
  have hff : ∀ u, w.grownBy u none → Calls Try.prog 84 #[.agg #[.int .i64 R, .slice a1 n1 c1, .slice a2 n2 c2, .slice a3 n3 c3, .slice a4 n4 c4], .int .i64 i] u fun e w' => e = .returned (.int .i64 (faceG R xs ms ts bs i)) ∧ u.grownBy w' none := fun u hu => faceFlux_is R a1 a2 a3 a4 n1 n2 n3 n4 c1 c2 c3 c4 xs ms ts bs i u (h.on hu) h1 h2 h3 h4 hi
  have HFF := Lib.hid hff
  clear hff
  by_cases hc : stOk R xs ms ts bs = true ∧ 0 ≤ i ∧ i + 1 < xs.length
  case neg =>
    rw [show trcG R xs ms ts bs i = 0 from if_neg hc]
    rw [show faceG R xs ms ts bs i = 0 from if_neg hc] at HFF
    have HE := Lib.hid ((Held.nil w).box 29 #[.int .i64 R, .slice a1 n1 c1, .slice a2 n2 c2, .slice a3 n3 c3, .slice a4 n4 c4])
    clear hc h h1 h2 h3 h4
    go_enter Try.func41, Try.ntmps41
    go_upto_region 1 with fail
    generalize w.alloc (.cells #[.int .i64 R, .slice a1 n1 c1, .slice a2 n2 c2, .slice a3 n3 c3, .slice a4 n4 c4] 29) = W0 at *
    obtain ⟨p0, p1, p2, p3, p4⟩ := box5 (HE.out.nth 0 rfl)
    go_wp2_with (go_at_call 84; ((with_reducible refine (HFF.out _ HE.out.gr).mono ?_); rintro e w1 ⟨rfl, hg⟩; have HE1 := Lib.hid (HE.out.on hg); clear hg))
    go_ret
    exact ⟨rfl, HE1.out.gr⟩
  case pos =>
    rw [show trcG R xs ms ts bs i = trcAt xs ms ts bs i.toNat from if_pos hc]
    rw [show faceG R xs ms ts bs i = fluxAt xs ms bs i.toNat from if_pos hc] at HFF
    obtain ⟨hs, hi0, hi1⟩ := hc
    have hl := h.l.len
    have hml : n2 = xs.length := by rw [← h.m.len, (stOk_parts hs).2.1.1]
    obtain ⟨k, rfl⟩ := Int.eq_ofNat_of_zero_le hi0
    rw [Int.toNat_natCast] at HFF ⊢
    obtain ⟨f0, f1, -, -⟩ := flux_facts hs (k := k) (by omega)
    obtain ⟨-, -, m0, m1, -, -⟩ := leaf_bounds hs (k := k) (by omega)
    obtain ⟨-, -, n0, n1', -, -⟩ := leaf_bounds hs (k := k + 1) (by omega)
    obtain ⟨g2, o2, g3, o3, rfl, rfl, rfl, hcel⟩ := pair_cells h hs (by omega)
    have HCel := Lib.hid (hcel k (by omega))
    have HCel2 := Lib.hid (hcel (k + 1) (by omega))
    have hki : (k : Int) + 1 < n3 := by omega
    have hni : (n3 : Int) ≤ 1048576 := by omega
    have HE := Lib.hid ((Held.nil w).box 29 #[.int .i64 R, .slice a1 n1 c1, .slice (some ⟨g2, o2, none⟩) n3 c2, .slice (some ⟨g3, o3, none⟩) n3 c3, .slice a4 n4 c4])
    have e1 : IntKind.i64.wrap ((k : Int) + 1) = (k : Int) + 1 := IntWalk.i64_in _ (by omega)
    unfold trcAt
    clear hs hi hi0 hi1 hl hml hcel h h1 h2 h3 h4
    generalize fluxAt xs ms bs k = F at *
    generalize msAt ms k = m at *
    generalize msAt ms (k + 1) = m2 at *
    generalize tsAt ts k = t at *
    generalize tsAt ts (k + 1) = t2 at *
    by_cases hp : 0 < F
    · rw [show trcN F t m t2 m2 = shareOf t F m from if_pos hp]
      have HP := Lib.hid fun u => share_is t F m u
      generalize shareOf t F m = V at *
      go_enter Try.func41, Try.ntmps41
      go_upto_region 1 with fail
      generalize w.alloc (.cells #[.int .i64 R, .slice a1 n1 c1, .slice (some ⟨g2, o2, none⟩) n3 c2, .slice (some ⟨g3, o3, none⟩) n3 c3, .slice a4 n4 c4] 29) = W0 at *
      obtain ⟨p0, p1, p2, p3, p4⟩ := box5 (HE.out.nth 0 rfl)
      go_upto_region 3 with (go_at_call 84; ((with_reducible refine (HFF.out _ HE.out.gr).mono ?_); rintro e w1 ⟨rfl, hg⟩; have HE1 := Lib.hid (HE.out.on hg); clear hg))
      clear p0 p1 p2 p3 p4 HE HFF
      rename_i K_ hK
      refine Draws.wp_region_tabG (w := w) rfl (by kernel_rfl) (by kernel_rfl) State.TrcADep (by kernel_rfl) [Law.boxG w.heap.size 29 #[.int .i64 R, .slice a1 n1 c1, .slice (some ⟨g2, o2, none⟩) n3 c2, .slice (some ⟨g3, o3, none⟩) n3 c3, .slice a4 n4 c4]] [] (fun _ => Law.emptyG) (State.TrcA R g2 o2 g3 o3 a1 a4 n1 n3 n4 c1 c2 c3 c4 k w.heap.size m t m2 t2 F V) ?start ?step ?last
      case start => exact HE1.out.on (Mesh.gr_drew (Cell.grown_refl _))
      case step =>
        clear hK
        intro L a W val G i o hI ho hL hd
        have hi : i < 13 := by have := (Array.getElem?_eq_some_iff.1 ho).1; simpa using this
        have hloc := State.TrcA_local R g2 o2 g3 o3 a1 a4 n1 n3 n4 c1 c2 c3 c4 k w.heap.size m t m2 t2 F V
        obtain ⟨z0, z1, z2, z3, z4⟩ := Law.box5 (hI.hd.nth 0 rfl)
        obtain ⟨x0, x1⟩ := HCel.out W hI.hd.gr
        rcases (show i = 0 ∨ i = 1 ∨ i = 2 ∨ i = 3 ∨ i = 4 ∨ i = 5 ∨ i = 6 ∨ i = 7 ∨ i = 8 ∨ i = 9 ∨ i = 10 ∨ i = 11 ∨ i = 12 by omega) with rfl | rfl | rfl | rfl | rfl | rfl | rfl | rfl | rfl | rfl | rfl | rfl | rfl
        · obtain rfl := Option.some.inj ho
          have p2 := (hI.old 2 (by kernel_rfl) rfl).get
          refine Draws.wpOp_of (by rfl) rfl (State.wp_value (v := .pointer (some ⟨w.heap.size, 3, none⟩)) (w' := W) ?_ (hI.same hloc hL _ _ (Cell.grown_refl _) (Draws.upd_at _ _ _)))
          simp only [execOp]
          go_simp
        · obtain rfl := Option.some.inj ho
          have l0 := hd 0 (by simp [State.TrcADep])
          have e0 := (hI.at_ 0 12 rfl l0).get
          rw [show val 0 = _ from hI.gd 0 l0] at e0
          refine Draws.wpOp_of (by rfl) rfl (State.wp_value (v := .slice (some ⟨g3, o3, none⟩) n3 c3) (w' := W) ?_ (hI.same hloc hL _ _ (Cell.grown_refl _) (Draws.upd_at _ _ _)))
          simp only [execOp]
          go_simp
        · obtain rfl := Option.some.inj ho
          have p1 := (hI.old 1 (by kernel_rfl) rfl).get
          refine Draws.wpOp_of (by rfl) rfl (State.wp_value (v := .int .i64 (k : Int)) (w' := W) ?_ (hI.same hloc hL _ _ (Cell.grown_refl _) (Draws.upd_at _ _ _)))
          simp only [execOp]
          go_simp
        · obtain rfl := Option.some.inj ho
          have l1 := hd 1 (by simp [State.TrcADep])
          have e1 := (hI.at_ 1 13 rfl l1).get
          have l2 := hd 2 (by simp [State.TrcADep])
          have e2 := (hI.at_ 2 14 rfl l2).get
          rw [show val 1 = _ from hI.gd 1 l1] at e1
          rw [show val 2 = _ from hI.gd 2 l2] at e2
          refine Draws.wpOp_of (by rfl) rfl (State.wp_value (v := .pointer (some ⟨g3, (o3 + k), none⟩)) (w' := W) ?_ (hI.same hloc hL _ _ (Cell.grown_refl _) (Draws.upd_at _ _ _)))
          simp only [execOp]
          go_simp
          intro hh
          exfalso
          omega
        · obtain rfl := Option.some.inj ho
          have l3 := hd 3 (by simp [State.TrcADep])
          have e3 := (hI.at_ 3 15 rfl l3).get
          rw [show val 3 = _ from hI.gd 3 l3] at e3
          refine Draws.wpOp_of (by rfl) rfl (State.wp_value (v := .int .i64 t) (w' := W) ?_ (hI.same hloc hL _ _ (Cell.grown_refl _) (Draws.upd_at _ _ _)))
          simp only [execOp]
          go_simp
        · obtain rfl := Option.some.inj ho
          have p5 := (hI.old 5 (by kernel_rfl) rfl).get
          refine Draws.wpOp_of (by rfl) rfl (State.wp_value (v := .int .i64 F) (w' := W) ?_ (hI.same hloc hL _ _ (Cell.grown_refl _) (Draws.upd_at _ _ _)))
          simp only [execOp]
          go_simp
        · obtain rfl := Option.some.inj ho
          have p2 := (hI.old 2 (by kernel_rfl) rfl).get
          refine Draws.wpOp_of (by rfl) rfl (State.wp_value (v := .pointer (some ⟨w.heap.size, 2, none⟩)) (w' := W) ?_ (hI.same hloc hL _ _ (Cell.grown_refl _) (Draws.upd_at _ _ _)))
          simp only [execOp]
          go_simp
        · obtain rfl := Option.some.inj ho
          have l6 := hd 6 (by simp [State.TrcADep])
          have e6 := (hI.at_ 6 18 rfl l6).get
          rw [show val 6 = _ from hI.gd 6 l6] at e6
          refine Draws.wpOp_of (by rfl) rfl (State.wp_value (v := .slice (some ⟨g2, o2, none⟩) n3 c2) (w' := W) ?_ (hI.same hloc hL _ _ (Cell.grown_refl _) (Draws.upd_at _ _ _)))
          simp only [execOp]
          go_simp
        · obtain rfl := Option.some.inj ho
          have p1 := (hI.old 1 (by kernel_rfl) rfl).get
          refine Draws.wpOp_of (by rfl) rfl (State.wp_value (v := .int .i64 (k : Int)) (w' := W) ?_ (hI.same hloc hL _ _ (Cell.grown_refl _) (Draws.upd_at _ _ _)))
          simp only [execOp]
          go_simp
        · obtain rfl := Option.some.inj ho
          have l7 := hd 7 (by simp [State.TrcADep])
          have e7 := (hI.at_ 7 19 rfl l7).get
          have l8 := hd 8 (by simp [State.TrcADep])
          have e8 := (hI.at_ 8 20 rfl l8).get
          rw [show val 7 = _ from hI.gd 7 l7] at e7
          rw [show val 8 = _ from hI.gd 8 l8] at e8
          refine Draws.wpOp_of (by rfl) rfl (State.wp_value (v := .pointer (some ⟨g2, (o2 + k), none⟩)) (w' := W) ?_ (hI.same hloc hL _ _ (Cell.grown_refl _) (Draws.upd_at _ _ _)))
          simp only [execOp]
          go_simp
          intro hh
          exfalso
          omega
        · obtain rfl := Option.some.inj ho
          have l9 := hd 9 (by simp [State.TrcADep])
          have e9 := (hI.at_ 9 21 rfl l9).get
          rw [show val 9 = _ from hI.gd 9 l9] at e9
          refine Draws.wpOp_of (by rfl) rfl (State.wp_value (v := .int .i64 m) (w' := W) ?_ (hI.same hloc hL _ _ (Cell.grown_refl _) (Draws.upd_at _ _ _)))
          simp only [execOp]
          go_simp
        · obtain rfl := Option.some.inj ho
          have l4 := hd 4 (by simp [State.TrcADep])
          have e4 := (hI.at_ 4 16 rfl l4).get
          have l5 := hd 5 (by simp [State.TrcADep])
          have e5 := (hI.at_ 5 17 rfl l5).get
          have l10 := hd 10 (by simp [State.TrcADep])
          have e10 := (hI.at_ 10 22 rfl l10).get
          rw [show val 4 = _ from hI.gd 4 l4] at e4
          rw [show val 5 = _ from hI.gd 5 l5] at e5
          rw [show val 10 = _ from hI.gd 10 l10] at e10
          refine Draws.wpOp_of (by rfl) rfl ?_
          unfold Oper.wp
          simp only [execOp]
          go_simp
          refine Calls.mono (P := Try.prog) (HP.out W) ?_
          rintro e w1 ⟨rfl, hg⟩
          exact hI.same hloc hL _ (.int .i64 V) hg (Draws.upd_at _ _ _)
        · obtain rfl := Option.some.inj ho
          have l11 := hd 11 (by simp [State.TrcADep])
          have e11 := (hI.at_ 11 23 rfl l11).get
          rw [show val 11 = _ from hI.gd 11 l11] at e11
          refine Draws.wpOp_of (by rfl) rfl (State.wp_value (v := .int .i64 V) (w' := W) ?_ (hI.same hloc hL _ _ (Cell.grown_refl _) (Draws.upd_at _ _ _)))
          simp only [execOp]
          go_simp
      case last =>
        intro L a_ W val G hI hall
        have vz : val 12 = .int .i64 V := hI.gd 12 (hall 12 (by simp))
        have HG := Lib.hid hI.hd.gr
        have ha := hI.frame (by kernel_rfl) hall
        refine hK _ _ ?_
        clear hK hI hall HE1 HP HCel HCel2
        simp [Draws.frameOf, Draws.slotOf, Act.put, List.range, List.range.loop] at ha
        subst ha
        rw [vz]
        clear vz
        go_wp2_with fail
        go_ret
        exact ⟨rfl, HG.out⟩
    · by_cases hn : F < 0
      · rw [show trcN F t m t2 m2 = -(shareOf t2 (-F) m2) from (if_neg hp).trans (if_pos hn)]
        have HP := Lib.hid fun u => share_is t2 (-F) m2 u
        obtain ⟨v0, v1⟩ := share_range t2 (-F) m2
        generalize shareOf t2 (-F) m2 = V at *
        have e2 : IntKind.i64.wrap (-F) = -F := IntWalk.i64_in _ (by omega)
        have e3 : IntKind.i64.wrap (-V) = -V := IntWalk.i64_in _ (by omega)
        go_enter Try.func41, Try.ntmps41
        go_upto_region 1 with fail
        generalize w.alloc (.cells #[.int .i64 R, .slice a1 n1 c1, .slice (some ⟨g2, o2, none⟩) n3 c2, .slice (some ⟨g3, o3, none⟩) n3 c3, .slice a4 n4 c4] 29) = W0 at *
        obtain ⟨p0, p1, p2, p3, p4⟩ := box5 (HE.out.nth 0 rfl)
        go_upto_region 5 with (go_at_call 84; ((with_reducible refine (HFF.out _ HE.out.gr).mono ?_); rintro e w1 ⟨rfl, hg⟩; have HE1 := Lib.hid (HE.out.on hg); clear hg))
        clear p0 p1 p2 p3 p4 HE HFF
        rename_i K_ hK
        refine Draws.wp_region_tabG (w := w) rfl (by kernel_rfl) (by kernel_rfl) State.TrcBDep (by kernel_rfl) [Law.boxG w.heap.size 29 #[.int .i64 R, .slice a1 n1 c1, .slice (some ⟨g2, o2, none⟩) n3 c2, .slice (some ⟨g3, o3, none⟩) n3 c3, .slice a4 n4 c4]] [] (fun _ => Law.emptyG) (State.TrcB R g2 o2 g3 o3 a1 a4 n1 n3 n4 c1 c2 c3 c4 k w.heap.size m t m2 t2 F V) ?start ?step ?last
        case start => exact HE1.out.on (Mesh.gr_drew (Cell.grown_refl _))
        case step =>
          clear hK
          intro L a W val G i o hI ho hL hd
          have hi : i < 17 := by have := (Array.getElem?_eq_some_iff.1 ho).1; simpa using this
          have hloc := State.TrcB_local R g2 o2 g3 o3 a1 a4 n1 n3 n4 c1 c2 c3 c4 k w.heap.size m t m2 t2 F V
          obtain ⟨z0, z1, z2, z3, z4⟩ := Law.box5 (hI.hd.nth 0 rfl)
          obtain ⟨y0, y1⟩ := HCel2.out W hI.hd.gr
          rcases (show i = 0 ∨ i = 1 ∨ i = 2 ∨ i = 3 ∨ i = 4 ∨ i = 5 ∨ i = 6 ∨ i = 7 ∨ i = 8 ∨ i = 9 ∨ i = 10 ∨ i = 11 ∨ i = 12 ∨ i = 13 ∨ i = 14 ∨ i = 15 ∨ i = 16 by omega) with rfl | rfl | rfl | rfl | rfl | rfl | rfl | rfl | rfl | rfl | rfl | rfl | rfl | rfl | rfl | rfl | rfl
          · obtain rfl := Option.some.inj ho
            have p2 := (hI.old 2 (by kernel_rfl) rfl).get
            refine Draws.wpOp_of (by rfl) rfl (State.wp_value (v := .pointer (some ⟨w.heap.size, 3, none⟩)) (w' := W) ?_ (hI.same hloc hL _ _ (Cell.grown_refl _) (Draws.upd_at _ _ _)))
            simp only [execOp]
            go_simp
          · obtain rfl := Option.some.inj ho
            have l0 := hd 0 (by simp [State.TrcBDep])
            have e0 := (hI.at_ 0 27 rfl l0).get
            rw [show val 0 = _ from hI.gd 0 l0] at e0
            refine Draws.wpOp_of (by rfl) rfl (State.wp_value (v := .slice (some ⟨g3, o3, none⟩) n3 c3) (w' := W) ?_ (hI.same hloc hL _ _ (Cell.grown_refl _) (Draws.upd_at _ _ _)))
            simp only [execOp]
            go_simp
          · obtain rfl := Option.some.inj ho
            have p1 := (hI.old 1 (by kernel_rfl) rfl).get
            refine Draws.wpOp_of (by rfl) rfl (State.wp_value (v := .int .i64 (k : Int)) (w' := W) ?_ (hI.same hloc hL _ _ (Cell.grown_refl _) (Draws.upd_at _ _ _)))
            simp only [execOp]
            go_simp
          · obtain rfl := Option.some.inj ho
            have l2 := hd 2 (by simp [State.TrcBDep])
            have e2 := (hI.at_ 2 29 rfl l2).get
            rw [show val 2 = _ from hI.gd 2 l2] at e2
            refine Draws.wpOp_of (by rfl) rfl (State.wp_value (v := .int .i64 ((k : Int) + 1)) (w' := W) ?_ (hI.same hloc hL _ _ (Cell.grown_refl _) (Draws.upd_at _ _ _)))
            simp only [execOp]
            go_simp
          · obtain rfl := Option.some.inj ho
            have l1 := hd 1 (by simp [State.TrcBDep])
            have e1 := (hI.at_ 1 28 rfl l1).get
            have l3 := hd 3 (by simp [State.TrcBDep])
            have e3 := (hI.at_ 3 30 rfl l3).get
            rw [show val 1 = _ from hI.gd 1 l1] at e1
            rw [show val 3 = _ from hI.gd 3 l3] at e3
            refine Draws.wpOp_of (by rfl) rfl (State.wp_value (v := .pointer (some ⟨g3, (o3 + (k + 1)), none⟩)) (w' := W) ?_ (hI.same hloc hL _ _ (Cell.grown_refl _) (Draws.upd_at _ _ _)))
            simp only [execOp]
            go_simp
            intro hh
            exfalso
            omega
          · obtain rfl := Option.some.inj ho
            have l4 := hd 4 (by simp [State.TrcBDep])
            have e4 := (hI.at_ 4 31 rfl l4).get
            rw [show val 4 = _ from hI.gd 4 l4] at e4
            refine Draws.wpOp_of (by rfl) rfl (State.wp_value (v := .int .i64 t2) (w' := W) ?_ (hI.same hloc hL _ _ (Cell.grown_refl _) (Draws.upd_at _ _ _)))
            simp only [execOp]
            go_simp
          · obtain rfl := Option.some.inj ho
            have p5 := (hI.old 5 (by kernel_rfl) rfl).get
            refine Draws.wpOp_of (by rfl) rfl (State.wp_value (v := .int .i64 F) (w' := W) ?_ (hI.same hloc hL _ _ (Cell.grown_refl _) (Draws.upd_at _ _ _)))
            simp only [execOp]
            go_simp
          · obtain rfl := Option.some.inj ho
            have l6 := hd 6 (by simp [State.TrcBDep])
            have e6 := (hI.at_ 6 33 rfl l6).get
            rw [show val 6 = _ from hI.gd 6 l6] at e6
            refine Draws.wpOp_of (by rfl) rfl (State.wp_value (v := .int .i64 (-F)) (w' := W) ?_ (hI.same hloc hL _ _ (Cell.grown_refl _) (Draws.upd_at _ _ _)))
            simp only [execOp]
            go_simp
          · obtain rfl := Option.some.inj ho
            have p2 := (hI.old 2 (by kernel_rfl) rfl).get
            refine Draws.wpOp_of (by rfl) rfl (State.wp_value (v := .pointer (some ⟨w.heap.size, 2, none⟩)) (w' := W) ?_ (hI.same hloc hL _ _ (Cell.grown_refl _) (Draws.upd_at _ _ _)))
            simp only [execOp]
            go_simp
          · obtain rfl := Option.some.inj ho
            have l8 := hd 8 (by simp [State.TrcBDep])
            have e8 := (hI.at_ 8 35 rfl l8).get
            rw [show val 8 = _ from hI.gd 8 l8] at e8
            refine Draws.wpOp_of (by rfl) rfl (State.wp_value (v := .slice (some ⟨g2, o2, none⟩) n3 c2) (w' := W) ?_ (hI.same hloc hL _ _ (Cell.grown_refl _) (Draws.upd_at _ _ _)))
            simp only [execOp]
            go_simp
          · obtain rfl := Option.some.inj ho
            have p1 := (hI.old 1 (by kernel_rfl) rfl).get
            refine Draws.wpOp_of (by rfl) rfl (State.wp_value (v := .int .i64 (k : Int)) (w' := W) ?_ (hI.same hloc hL _ _ (Cell.grown_refl _) (Draws.upd_at _ _ _)))
            simp only [execOp]
            go_simp
          · obtain rfl := Option.some.inj ho
            have l10 := hd 10 (by simp [State.TrcBDep])
            have e10 := (hI.at_ 10 37 rfl l10).get
            rw [show val 10 = _ from hI.gd 10 l10] at e10
            refine Draws.wpOp_of (by rfl) rfl (State.wp_value (v := .int .i64 ((k : Int) + 1)) (w' := W) ?_ (hI.same hloc hL _ _ (Cell.grown_refl _) (Draws.upd_at _ _ _)))
            simp only [execOp]
            go_simp
          · obtain rfl := Option.some.inj ho
            have l9 := hd 9 (by simp [State.TrcBDep])
            have e9 := (hI.at_ 9 36 rfl l9).get
            have l11 := hd 11 (by simp [State.TrcBDep])
            have e11 := (hI.at_ 11 38 rfl l11).get
            rw [show val 9 = _ from hI.gd 9 l9] at e9
            rw [show val 11 = _ from hI.gd 11 l11] at e11
            refine Draws.wpOp_of (by rfl) rfl (State.wp_value (v := .pointer (some ⟨g2, (o2 + (k + 1)), none⟩)) (w' := W) ?_ (hI.same hloc hL _ _ (Cell.grown_refl _) (Draws.upd_at _ _ _)))
            simp only [execOp]
            go_simp
            intro hh
            exfalso
            omega
          · obtain rfl := Option.some.inj ho
            have l12 := hd 12 (by simp [State.TrcBDep])
            have e12 := (hI.at_ 12 39 rfl l12).get
            rw [show val 12 = _ from hI.gd 12 l12] at e12
            refine Draws.wpOp_of (by rfl) rfl (State.wp_value (v := .int .i64 m2) (w' := W) ?_ (hI.same hloc hL _ _ (Cell.grown_refl _) (Draws.upd_at _ _ _)))
            simp only [execOp]
            go_simp
          · obtain rfl := Option.some.inj ho
            have l5 := hd 5 (by simp [State.TrcBDep])
            have e5 := (hI.at_ 5 32 rfl l5).get
            have l7 := hd 7 (by simp [State.TrcBDep])
            have e7 := (hI.at_ 7 34 rfl l7).get
            have l13 := hd 13 (by simp [State.TrcBDep])
            have e13 := (hI.at_ 13 40 rfl l13).get
            rw [show val 5 = _ from hI.gd 5 l5] at e5
            rw [show val 7 = _ from hI.gd 7 l7] at e7
            rw [show val 13 = _ from hI.gd 13 l13] at e13
            refine Draws.wpOp_of (by rfl) rfl ?_
            unfold Oper.wp
            simp only [execOp]
            go_simp
            refine Calls.mono (P := Try.prog) (HP.out W) ?_
            rintro e w1 ⟨rfl, hg⟩
            exact hI.same hloc hL _ (.int .i64 V) hg (Draws.upd_at _ _ _)
          · obtain rfl := Option.some.inj ho
            have l14 := hd 14 (by simp [State.TrcBDep])
            have e14 := (hI.at_ 14 41 rfl l14).get
            rw [show val 14 = _ from hI.gd 14 l14] at e14
            refine Draws.wpOp_of (by rfl) rfl (State.wp_value (v := .int .i64 (-V)) (w' := W) ?_ (hI.same hloc hL _ _ (Cell.grown_refl _) (Draws.upd_at _ _ _)))
            simp only [execOp]
            go_simp
          · obtain rfl := Option.some.inj ho
            have l15 := hd 15 (by simp [State.TrcBDep])
            have e15 := (hI.at_ 15 42 rfl l15).get
            rw [show val 15 = _ from hI.gd 15 l15] at e15
            refine Draws.wpOp_of (by rfl) rfl (State.wp_value (v := .int .i64 (-V)) (w' := W) ?_ (hI.same hloc hL _ _ (Cell.grown_refl _) (Draws.upd_at _ _ _)))
            simp only [execOp]
            go_simp
        case last =>
          intro L a_ W val G hI hall
          have vz : val 16 = .int .i64 (-V) := hI.gd 16 (hall 16 (by simp))
          have HG := Lib.hid hI.hd.gr
          have ha := hI.frame (by kernel_rfl) hall
          refine hK _ _ ?_
          clear hK hI hall HE1 HP HCel HCel2
          simp [Draws.frameOf, Draws.slotOf, Act.put, List.range, List.range.loop] at ha
          subst ha
          rw [vz]
          clear vz
          go_wp2_with fail
          go_ret
          exact ⟨rfl, HG.out⟩
      · rw [show trcN F t m t2 m2 = 0 from (if_neg hp).trans (if_neg hn)]
        go_enter Try.func41, Try.ntmps41
        go_upto_region 1 with fail
        generalize w.alloc (.cells #[.int .i64 R, .slice a1 n1 c1, .slice (some ⟨g2, o2, none⟩) n3 c2, .slice (some ⟨g3, o3, none⟩) n3 c3, .slice a4 n4 c4] 29) = W0 at *
        obtain ⟨p0, p1, p2, p3, p4⟩ := box5 (HE.out.nth 0 rfl)
        go_wp2_with (go_at_call 84; ((with_reducible refine (HFF.out _ HE.out.gr).mono ?_); rintro e w1 ⟨rfl, hg⟩; have HE1 := Lib.hid (HE.out.on hg); clear hg))
        go_ret
        exact ⟨rfl, HE1.out.gr⟩

set_option maxHeartbeats 8000000 in
theorem shareAt_is (R : Int) (a1 a2 a3 a4 : Option Addr) (n1 n2 n3 n4 c1 c2 c3 c4 : Nat) (xs : List C3) (ms ts bs : List Int) (i : Int) (w : World) (h : ReadsS w a1 a2 a3 a4 n1 n2 n3 n4 xs ms ts bs) (h1 : n1 ≤ 1048576) (h2 : n2 ≤ 1048576) (h3 : n3 ≤ 1048576) (h4 : n4 ≤ 1048576) (hi : -9223372036854775808 ≤ i ∧ i ≤ 9223372036854775807) :
    Calls Try.prog 44 #[.agg #[.int .i64 R, .slice a1 n1 c1, .slice a2 n2 c2, .slice a3 n3 c3, .slice a4 n4 c4], .int .i64 i] w fun e w' => e = .returned (.int .i64 (shareG R xs ms ts bs i)) ∧ w.grownBy w' none := by
  have hok : ∀ u, w.grownBy u none → Calls Try.prog 48 #[.agg #[.int .i64 R, .slice a1 n1 c1, .slice a2 n2 c2, .slice a3 n3 c3, .slice a4 n4 c4]] u fun e w' => e = .returned (.bool (stOk R xs ms ts bs)) ∧ u.grownBy w' none := fun u hu => stateOk_is R a1 a2 a3 a4 n1 n2 n3 n4 c1 c2 c3 c4 xs ms ts bs u (h.on hu) h1 h2 h3 h4
  have HOK := Lib.hid hok
  clear hok
  cases hs : stOk R xs ms ts bs with
  | false =>
    rw [show shareG R xs ms ts bs i = 0 from if_neg (fun hh => by rw [hs] at hh; exact nomatch hh.1)]
    rw [hs] at HOK
    have HE := Lib.hid ((Held.nil w).box 29 #[.int .i64 R, .slice a1 n1 c1, .slice a2 n2 c2, .slice a3 n3 c3, .slice a4 n4 c4])
    clear hs h h1 h2 h3 h4
    go_enter Try.func44, Try.ntmps44
    go_upto_region 1 with fail
    generalize w.alloc (.cells #[.int .i64 R, .slice a1 n1 c1, .slice a2 n2 c2, .slice a3 n3 c3, .slice a4 n4 c4] 29) = W0 at *
    obtain ⟨p0, p1, p2, p3, p4⟩ := box5 (HE.out.nth 0 rfl)
    go_wp2_with (go_at_call 48; ((with_reducible refine (HOK.out _ HE.out.gr).mono ?_); rintro e w1 ⟨rfl, hg⟩; have HE1 := Lib.hid (HE.out.on hg); obtain ⟨q0, q1, q2, q3, q4⟩ := box5 (HE1.out.nth 0 rfl); clear hg))
    go_ret
    exact ⟨rfl, HE1.out.gr⟩
  | true =>
    rw [hs] at HOK
    have hm := h.m.len
    by_cases h0 : i < 0
    · rw [show shareG R xs ms ts bs i = 0 from if_neg (fun hh => by have := hh.2.1; omega)]
      have HE := Lib.hid ((Held.nil w).box 29 #[.int .i64 R, .slice a1 n1 c1, .slice a2 n2 c2, .slice a3 n3 c3, .slice a4 n4 c4])
      clear hs h h1 h2 h3 h4
      go_enter Try.func44, Try.ntmps44
      go_upto_region 1 with fail
      generalize w.alloc (.cells #[.int .i64 R, .slice a1 n1 c1, .slice a2 n2 c2, .slice a3 n3 c3, .slice a4 n4 c4] 29) = W0 at *
      obtain ⟨p0, p1, p2, p3, p4⟩ := box5 (HE.out.nth 0 rfl)
      go_wp2_with (go_at_call 48; ((with_reducible refine (HOK.out _ HE.out.gr).mono ?_); rintro e w1 ⟨rfl, hg⟩; have HE1 := Lib.hid (HE.out.on hg); obtain ⟨q0, q1, q2, q3, q4⟩ := box5 (HE1.out.nth 0 rfl); clear hg))
      go_ret
      exact ⟨rfl, HE1.out.gr⟩
    · by_cases hlt : i < n2
      · rw [show shareG R xs ms ts bs i = permN (tsAt ts i.toNat) (msAt ms i.toNat) from if_pos ⟨hs, by omega, by omega⟩]
        obtain ⟨k, rfl⟩ := Int.eq_ofNat_of_zero_le (show 0 ≤ i by omega)
        rw [Int.toNat_natCast]
        obtain ⟨g2, o2, g3, o3, rfl, rfl, rfl, hcel⟩ := pair_cells h hs (by omega)
        obtain ⟨m_, t_, -, -, em, et, m0, m1, t0, t1⟩ := pair_at hs (k := k) (by omega)
        have HCel := Lib.hid (hcel k (by omega))
        have hki : (k : Int) < n3 := hlt
        have hni : (n3 : Int) ≤ 1048576 := by omega
        have HE := Lib.hid ((Held.nil w).box 29 #[.int .i64 R, .slice a1 n1 c1, .slice (some ⟨g2, o2, none⟩) n3 c2, .slice (some ⟨g3, o3, none⟩) n3 c3, .slice a4 n4 c4])
        rw [← em] at m0 m1 t1
        rw [← et] at t0 t1
        have HP := Lib.hid fun u => Draw.floor_is (1000 * tsAt ts k) (msAt ms k) (by omega) (by omega) u
        unfold permN
        have e1 : IntKind.i64.wrap (1000 * tsAt ts k) = 1000 * tsAt ts k := IntWalk.i64_in _ (by omega)
        clear em et hs h h1 h2 h3 h4 hm hcel hlt h0
        generalize (if msAt ms k ≤ 0 then 0 else 1000 * tsAt ts k / msAt ms k) = V at *
        generalize msAt ms k = m at *
        generalize tsAt ts k = t at *
        obtain ⟨m2, -⟩ : ∃ x : Int, x = 0 := ⟨0, rfl⟩
        obtain ⟨t2, -⟩ : ∃ x : Int, x = 0 := ⟨0, rfl⟩
        obtain ⟨F, -⟩ : ∃ x : Int, x = 0 := ⟨0, rfl⟩
        go_enter Try.func44, Try.ntmps44
        go_upto_region 1 with fail
        generalize w.alloc (.cells #[.int .i64 R, .slice a1 n1 c1, .slice (some ⟨g2, o2, none⟩) n3 c2, .slice (some ⟨g3, o3, none⟩) n3 c3, .slice a4 n4 c4] 29) = W0 at *
        obtain ⟨p0, p1, p2, p3, p4⟩ := box5 (HE.out.nth 0 rfl)
        go_upto_region 3 with (go_at_call 48; ((with_reducible refine (HOK.out _ HE.out.gr).mono ?_); rintro e w1 ⟨rfl, hg⟩; have HE1 := Lib.hid (HE.out.on hg); obtain ⟨q0, q1, q2, q3, q4⟩ := box5 (HE1.out.nth 0 rfl); clear hg))
        clear p0 p1 p2 p3 p4 q0 q1 q2 q3 q4 HE HOK
        rename_i K_ hK
        refine Draws.wp_region_tabG (w := w) rfl (by kernel_rfl) (by kernel_rfl) State.TrcSDep (by kernel_rfl) [Law.boxG w.heap.size 29 #[.int .i64 R, .slice a1 n1 c1, .slice (some ⟨g2, o2, none⟩) n3 c2, .slice (some ⟨g3, o3, none⟩) n3 c3, .slice a4 n4 c4]] [] (fun _ => Law.emptyG) (State.TrcS R g2 o2 g3 o3 a1 a4 n1 n3 n4 c1 c2 c3 c4 k w.heap.size m t m2 t2 F V) ?start ?step ?last
        case start => exact HE1.out.on (Mesh.gr_drew (Cell.grown_refl _))
        case step =>
          clear hK
          intro L a W val G i o hI ho hL hd
          have hi : i < 13 := by have := (Array.getElem?_eq_some_iff.1 ho).1; simpa using this
          have hloc := State.TrcS_local R g2 o2 g3 o3 a1 a4 n1 n3 n4 c1 c2 c3 c4 k w.heap.size m t m2 t2 F V
          obtain ⟨z0, z1, z2, z3, z4⟩ := Law.box5 (hI.hd.nth 0 rfl)
          obtain ⟨x0, x1⟩ := HCel.out W hI.hd.gr
          rcases (show i = 0 ∨ i = 1 ∨ i = 2 ∨ i = 3 ∨ i = 4 ∨ i = 5 ∨ i = 6 ∨ i = 7 ∨ i = 8 ∨ i = 9 ∨ i = 10 ∨ i = 11 ∨ i = 12 by omega) with rfl | rfl | rfl | rfl | rfl | rfl | rfl | rfl | rfl | rfl | rfl | rfl | rfl
          · obtain rfl := Option.some.inj ho
            have p2 := (hI.old 2 (by kernel_rfl) rfl).get
            refine Draws.wpOp_of (by rfl) rfl (State.wp_value (v := .pointer (some ⟨w.heap.size, 3, none⟩)) (w' := W) ?_ (hI.same hloc hL _ _ (Cell.grown_refl _) (Draws.upd_at _ _ _)))
            simp only [execOp]
            go_simp
          · obtain rfl := Option.some.inj ho
            have l0 := hd 0 (by simp [State.TrcSDep])
            have e0 := (hI.at_ 0 19 rfl l0).get
            rw [show val 0 = _ from hI.gd 0 l0] at e0
            refine Draws.wpOp_of (by rfl) rfl (State.wp_value (v := .slice (some ⟨g3, o3, none⟩) n3 c3) (w' := W) ?_ (hI.same hloc hL _ _ (Cell.grown_refl _) (Draws.upd_at _ _ _)))
            simp only [execOp]
            go_simp
          · obtain rfl := Option.some.inj ho
            have p1 := (hI.old 1 (by kernel_rfl) rfl).get
            refine Draws.wpOp_of (by rfl) rfl (State.wp_value (v := .int .i64 (k : Int)) (w' := W) ?_ (hI.same hloc hL _ _ (Cell.grown_refl _) (Draws.upd_at _ _ _)))
            simp only [execOp]
            go_simp
          · obtain rfl := Option.some.inj ho
            have l1 := hd 1 (by simp [State.TrcSDep])
            have e1 := (hI.at_ 1 20 rfl l1).get
            have l2 := hd 2 (by simp [State.TrcSDep])
            have e2 := (hI.at_ 2 21 rfl l2).get
            rw [show val 1 = _ from hI.gd 1 l1] at e1
            rw [show val 2 = _ from hI.gd 2 l2] at e2
            refine Draws.wpOp_of (by rfl) rfl (State.wp_value (v := .pointer (some ⟨g3, (o3 + k), none⟩)) (w' := W) ?_ (hI.same hloc hL _ _ (Cell.grown_refl _) (Draws.upd_at _ _ _)))
            simp only [execOp]
            go_simp
          · obtain rfl := Option.some.inj ho
            have l3 := hd 3 (by simp [State.TrcSDep])
            have e3 := (hI.at_ 3 22 rfl l3).get
            rw [show val 3 = _ from hI.gd 3 l3] at e3
            refine Draws.wpOp_of (by rfl) rfl (State.wp_value (v := .int .i64 t) (w' := W) ?_ (hI.same hloc hL _ _ (Cell.grown_refl _) (Draws.upd_at _ _ _)))
            simp only [execOp]
            go_simp
          · obtain rfl := Option.some.inj ho
            have l4 := hd 4 (by simp [State.TrcSDep])
            have e4 := (hI.at_ 4 23 rfl l4).get
            rw [show val 4 = _ from hI.gd 4 l4] at e4
            refine Draws.wpOp_of (by rfl) rfl (State.wp_value (v := .int .i64 (1000 * t)) (w' := W) ?_ (hI.same hloc hL _ _ (Cell.grown_refl _) (Draws.upd_at _ _ _)))
            simp only [execOp]
            go_simp
          · obtain rfl := Option.some.inj ho
            have p2 := (hI.old 2 (by kernel_rfl) rfl).get
            refine Draws.wpOp_of (by rfl) rfl (State.wp_value (v := .pointer (some ⟨w.heap.size, 2, none⟩)) (w' := W) ?_ (hI.same hloc hL _ _ (Cell.grown_refl _) (Draws.upd_at _ _ _)))
            simp only [execOp]
            go_simp
          · obtain rfl := Option.some.inj ho
            have l6 := hd 6 (by simp [State.TrcSDep])
            have e6 := (hI.at_ 6 25 rfl l6).get
            rw [show val 6 = _ from hI.gd 6 l6] at e6
            refine Draws.wpOp_of (by rfl) rfl (State.wp_value (v := .slice (some ⟨g2, o2, none⟩) n3 c2) (w' := W) ?_ (hI.same hloc hL _ _ (Cell.grown_refl _) (Draws.upd_at _ _ _)))
            simp only [execOp]
            go_simp
          · obtain rfl := Option.some.inj ho
            have p1 := (hI.old 1 (by kernel_rfl) rfl).get
            refine Draws.wpOp_of (by rfl) rfl (State.wp_value (v := .int .i64 (k : Int)) (w' := W) ?_ (hI.same hloc hL _ _ (Cell.grown_refl _) (Draws.upd_at _ _ _)))
            simp only [execOp]
            go_simp
          · obtain rfl := Option.some.inj ho
            have l7 := hd 7 (by simp [State.TrcSDep])
            have e7 := (hI.at_ 7 26 rfl l7).get
            have l8 := hd 8 (by simp [State.TrcSDep])
            have e8 := (hI.at_ 8 27 rfl l8).get
            rw [show val 7 = _ from hI.gd 7 l7] at e7
            rw [show val 8 = _ from hI.gd 8 l8] at e8
            refine Draws.wpOp_of (by rfl) rfl (State.wp_value (v := .pointer (some ⟨g2, (o2 + k), none⟩)) (w' := W) ?_ (hI.same hloc hL _ _ (Cell.grown_refl _) (Draws.upd_at _ _ _)))
            simp only [execOp]
            go_simp
          · obtain rfl := Option.some.inj ho
            have l9 := hd 9 (by simp [State.TrcSDep])
            have e9 := (hI.at_ 9 28 rfl l9).get
            rw [show val 9 = _ from hI.gd 9 l9] at e9
            refine Draws.wpOp_of (by rfl) rfl (State.wp_value (v := .int .i64 m) (w' := W) ?_ (hI.same hloc hL _ _ (Cell.grown_refl _) (Draws.upd_at _ _ _)))
            simp only [execOp]
            go_simp
          · obtain rfl := Option.some.inj ho
            have l5 := hd 5 (by simp [State.TrcSDep])
            have e5 := (hI.at_ 5 24 rfl l5).get
            have l10 := hd 10 (by simp [State.TrcSDep])
            have e10 := (hI.at_ 10 29 rfl l10).get
            rw [show val 5 = _ from hI.gd 5 l5] at e5
            rw [show val 10 = _ from hI.gd 10 l10] at e10
            refine Draws.wpOp_of (by rfl) rfl ?_
            unfold Oper.wp
            simp only [execOp]
            go_simp
            refine Calls.mono (P := Try.prog) (HP.out W) ?_
            rintro e w1 ⟨rfl, hg⟩
            exact hI.same hloc hL _ (.int .i64 V) hg (Draws.upd_at _ _ _)
          · obtain rfl := Option.some.inj ho
            have l11 := hd 11 (by simp [State.TrcSDep])
            have e11 := (hI.at_ 11 30 rfl l11).get
            rw [show val 11 = _ from hI.gd 11 l11] at e11
            refine Draws.wpOp_of (by rfl) rfl (State.wp_value (v := .int .i64 V) (w' := W) ?_ (hI.same hloc hL _ _ (Cell.grown_refl _) (Draws.upd_at _ _ _)))
            simp only [execOp]
            go_simp
        case last =>
          intro L a_ W val G hI hall
          have vz : val 12 = .int .i64 V := hI.gd 12 (hall 12 (by simp))
          have HG := Lib.hid hI.hd.gr
          have ha := hI.frame (by kernel_rfl) hall
          refine hK _ _ ?_
          clear hK hI hall HE1 HP HCel
          simp [Draws.frameOf, Draws.slotOf, Act.put, List.range, List.range.loop] at ha
          subst ha
          rw [vz]
          clear vz
          go_wp2_with fail
          go_ret
          exact ⟨rfl, HG.out⟩
      · rw [show shareG R xs ms ts bs i = 0 from if_neg (fun hh => by have := hh.2.2; omega)]
        have HE := Lib.hid ((Held.nil w).box 29 #[.int .i64 R, .slice a1 n1 c1, .slice a2 n2 c2, .slice a3 n3 c3, .slice a4 n4 c4])
        have hni : (n2 : Int) ≤ 1048576 := by omega
        clear hs h h1 h2 h3 h4
        go_enter Try.func44, Try.ntmps44
        go_upto_region 1 with fail
        generalize w.alloc (.cells #[.int .i64 R, .slice a1 n1 c1, .slice a2 n2 c2, .slice a3 n3 c3, .slice a4 n4 c4] 29) = W0 at *
        obtain ⟨p0, p1, p2, p3, p4⟩ := box5 (HE.out.nth 0 rfl)
        go_wp2_with (go_at_call 48; ((with_reducible refine (HOK.out _ HE.out.gr).mono ?_); rintro e w1 ⟨rfl, hg⟩; have HE1 := Lib.hid (HE.out.on hg); obtain ⟨q0, q1, q2, q3, q4⟩ := box5 (HE1.out.nth 0 rfl); clear hg))
        go_ret
        exact ⟨rfl, HE1.out.gr⟩
end Go.Proofs.Ytfoilfgiablleaa.State
