/- States: the reference model's l10Flux, TracerFlux, ShareAt, as contracts: what each answers; nothing that was there is written (written by wip/tools/sttrc.py).
   Conditions: at most 2^20 leaves and numbers; ints. -/
import Derived.Test.YtfoilfgiablleaaStTrcT
import Derived.Test.YtfoilfgiablleaaStTrcS
import Derived.Test.YtfoilfgiablleaaStFluxU
set_option maxRecDepth 100000
namespace Go.Proofs.Ytfoilfgiablleaa.State
open Go.ChangeShapes Go.WideShapes Go.ChangeAt Go.RowKit Go.Joins Go.Proofs.Ytfoilfgiablleaa.Cell Go.Proofs.Ytfoilfgiablleaa.Mesh Go.Proofs.Ytfoilfgiablleaa.Law Go.Proofs.Ytfoilfgiablleaa.Ints Go.Proofs.Ytfoilfgiablleaa.Draws Go.Deep
set_option linter.unusedVariables false

set_option maxHeartbeats 8000000 in
theorem specTrFlux_is (R : Int) (a1 a2 a3 a4 : Option Addr) (n1 n2 n3 n4 c1 c2 c3 c4 k : Nat) (xs : List C3) (ms ts bs : List Int) (w : World) (h : ReadsS w a1 a2 a3 a4 n1 n2 n3 n4 xs ms ts bs) (h1 : n1 ≤ 1048576) (hs : stOk R xs ms ts bs = true) (hk : k + 1 < n1) :
    Calls Try.prog 83 #[.agg #[.int .i64 R, .slice a1 n1 c1, .slice a2 n2 c2, .slice a3 n3 c3, .slice a4 n4 c4], .int .i64 k] w fun e w' => e = .returned (.int .i64 (trcAt xs ms ts bs k)) ∧ w.grownBy w' none := by
  have hA : ∀ u, w.grownBy u none → Calls Try.prog 119 #[.agg #[.int .i64 R, .slice a1 n1 c1, .slice a2 n2 c2, .slice a3 n3 c3, .slice a4 n4 c4], .int .i64 k] u fun e w' => e = .returned (.int .i64 (fluxAt xs ms bs k)) ∧ u.grownBy w' none := fun u hu => specFlux_is R a1 a2 a3 a4 n1 n2 n3 n4 c1 c2 c3 c4 k xs ms ts bs u (h.on hu) h1 hs hk
  have hl := h.l.len
  have hml : n2 = xs.length := by rw [← h.m.len, (stOk_parts hs).2.1.1]
  obtain ⟨f0, f1, -, -⟩ := flux_facts hs (k := k) (by omega)
  obtain ⟨-, -, m0, m1, -, -⟩ := leaf_bounds hs (k := k) (by omega)
  obtain ⟨-, -, n0, n1', -, -⟩ := leaf_bounds hs (k := k + 1) (by omega)
  obtain ⟨g2, o2, g3, o3, rfl, rfl, rfl, hcel⟩ := pair_cells h hs (by omega)
  have HCel := Lib.hid (hcel k (by omega))
  have HCel2 := Lib.hid (hcel (k + 1) (by omega))
  have HA := Lib.hid hA
  have HP := Lib.hid fun u => specTrPair_is (fluxAt xs ms bs k) (tsAt ts k) (msAt ms k) (tsAt ts (k + 1)) (msAt ms (k + 1)) (by omega) u
  have hki : (k : Int) + 1 < n3 := by omega
  have hni : (n3 : Int) ≤ 1048576 := by omega
  have HE := Lib.hid ((Held.nil w).box 29 #[.int .i64 R, .slice a1 n1 c1, .slice (some ⟨g2, o2, none⟩) n3 c2, .slice (some ⟨g3, o3, none⟩) n3 c3, .slice a4 n4 c4])
  have e1 : IntKind.i64.wrap ((k : Int) + 1) = (k : Int) + 1 := IntWalk.i64_in _ (by omega)
  unfold trcAt
  clear hs hl hml hcel h h1 hk hA
  generalize trcN (fluxAt xs ms bs k) (tsAt ts k) (msAt ms k) (tsAt ts (k + 1)) (msAt ms (k + 1)) = V at *
  generalize fluxAt xs ms bs k = F at *
  generalize msAt ms k = m at *
  generalize msAt ms (k + 1) = m2 at *
  generalize tsAt ts k = t at *
  generalize tsAt ts (k + 1) = t2 at *
  go_enter Try.func83, Try.ntmps83
  go_upto_region 1 with fail
  generalize w.alloc (.cells #[.int .i64 R, .slice a1 n1 c1, .slice (some ⟨g2, o2, none⟩) n3 c2, .slice (some ⟨g3, o3, none⟩) n3 c3, .slice a4 n4 c4] 29) = W0 at *
  rename_i K_ hK
  refine Draws.wp_region_tabG (w := w) rfl (by kernel_rfl) (by kernel_rfl) State.TrcMDep (by kernel_rfl) [Law.boxG w.heap.size 29 #[.int .i64 R, .slice a1 n1 c1, .slice (some ⟨g2, o2, none⟩) n3 c2, .slice (some ⟨g3, o3, none⟩) n3 c3, .slice a4 n4 c4]] [] (fun _ => Law.emptyG) (State.TrcM R g2 o2 g3 o3 a1 a4 n1 n3 n4 c1 c2 c3 c4 k w.heap.size m t m2 t2 F V) ?start ?step ?last
  case start => exact HE.out.on (Mesh.gr_drew (Cell.grown_refl _))
  case step =>
    clear hK
    intro L a W val G i o hI ho hL hd
    have hi : i < 27 := by have := (Array.getElem?_eq_some_iff.1 ho).1; simpa using this
    have hloc := State.TrcM_local R g2 o2 g3 o3 a1 a4 n1 n3 n4 c1 c2 c3 c4 k w.heap.size m t m2 t2 F V
    obtain ⟨z0, z1, z2, z3, z4⟩ := Law.box5 (hI.hd.nth 0 rfl)
    obtain ⟨x0, x1⟩ := HCel.out W hI.hd.gr
    obtain ⟨y0, y1⟩ := HCel2.out W hI.hd.gr
    rcases (show i = 0 ∨ i = 1 ∨ i = 2 ∨ i = 3 ∨ i = 4 ∨ i = 5 ∨ i = 6 ∨ i = 7 ∨ i = 8 ∨ i = 9 ∨ i = 10 ∨ i = 11 ∨ i = 12 ∨ i = 13 ∨ i = 14 ∨ i = 15 ∨ i = 16 ∨ i = 17 ∨ i = 18 ∨ i = 19 ∨ i = 20 ∨ i = 21 ∨ i = 22 ∨ i = 23 ∨ i = 24 ∨ i = 25 ∨ i = 26 by omega) with rfl | rfl | rfl | rfl | rfl | rfl | rfl | rfl | rfl | rfl | rfl | rfl | rfl | rfl | rfl | rfl | rfl | rfl | rfl | rfl | rfl | rfl | rfl | rfl | rfl | rfl | rfl
    · obtain rfl := Option.some.inj ho
      have p2 := (hI.old 2 (by kernel_rfl) rfl).get
      refine Draws.wpOp_of (by rfl) rfl (State.wp_value (v := .agg #[.int .i64 R, .slice a1 n1 c1, .slice (some ⟨g2, o2, none⟩) n3 c2, .slice (some ⟨g3, o3, none⟩) n3 c3, .slice a4 n4 c4]) (w' := W) ?_ (hI.same hloc hL _ _ (Cell.grown_refl _) (Draws.upd_at _ _ _)))
      simp only [execOp]
      go_simp
    · obtain rfl := Option.some.inj ho
      have p1 := (hI.old 1 (by kernel_rfl) rfl).get
      refine Draws.wpOp_of (by rfl) rfl (State.wp_value (v := .int .i64 (k : Int)) (w' := W) ?_ (hI.same hloc hL _ _ (Cell.grown_refl _) (Draws.upd_at _ _ _)))
      simp only [execOp]
      go_simp
    · obtain rfl := Option.some.inj ho
      have l0 := hd 0 (by simp [State.TrcMDep])
      have e0 := (hI.at_ 0 5 rfl l0).get
      have l1 := hd 1 (by simp [State.TrcMDep])
      have e1 := (hI.at_ 1 6 rfl l1).get
      rw [show val 0 = _ from hI.gd 0 l0] at e0
      rw [show val 1 = _ from hI.gd 1 l1] at e1
      refine Draws.wpOp_of (by rfl) rfl ?_
      unfold Oper.wp
      simp only [execOp]
      go_simp
      refine Calls.mono (P := Try.prog) (HA.out W hI.hd.gr) ?_
      rintro e w1 ⟨rfl, hg⟩
      exact hI.same hloc hL _ (.int .i64 F) hg (Draws.upd_at _ _ _)
    · obtain rfl := Option.some.inj ho
      have p2 := (hI.old 2 (by kernel_rfl) rfl).get
      refine Draws.wpOp_of (by rfl) rfl (State.wp_value (v := .pointer (some ⟨w.heap.size, 3, none⟩)) (w' := W) ?_ (hI.same hloc hL _ _ (Cell.grown_refl _) (Draws.upd_at _ _ _)))
      simp only [execOp]
      go_simp
    · obtain rfl := Option.some.inj ho
      have l3 := hd 3 (by simp [State.TrcMDep])
      have e3 := (hI.at_ 3 8 rfl l3).get
      rw [show val 3 = _ from hI.gd 3 l3] at e3
      refine Draws.wpOp_of (by rfl) rfl (State.wp_value (v := .slice (some ⟨g3, o3, none⟩) n3 c3) (w' := W) ?_ (hI.same hloc hL _ _ (Cell.grown_refl _) (Draws.upd_at _ _ _)))
      simp only [execOp]
      go_simp
    · obtain rfl := Option.some.inj ho
      have p1 := (hI.old 1 (by kernel_rfl) rfl).get
      refine Draws.wpOp_of (by rfl) rfl (State.wp_value (v := .int .i64 (k : Int)) (w' := W) ?_ (hI.same hloc hL _ _ (Cell.grown_refl _) (Draws.upd_at _ _ _)))
      simp only [execOp]
      go_simp
    · obtain rfl := Option.some.inj ho
      have l4 := hd 4 (by simp [State.TrcMDep])
      have e4 := (hI.at_ 4 9 rfl l4).get
      have l5 := hd 5 (by simp [State.TrcMDep])
      have e5 := (hI.at_ 5 10 rfl l5).get
      rw [show val 4 = _ from hI.gd 4 l4] at e4
      rw [show val 5 = _ from hI.gd 5 l5] at e5
      refine Draws.wpOp_of (by rfl) rfl (State.wp_value (v := .pointer (some ⟨g3, (o3 + k), none⟩)) (w' := W) ?_ (hI.same hloc hL _ _ (Cell.grown_refl _) (Draws.upd_at _ _ _)))
      simp only [execOp]
      go_simp
      intro hh
      exfalso
      omega
    · obtain rfl := Option.some.inj ho
      have l6 := hd 6 (by simp [State.TrcMDep])
      have e6 := (hI.at_ 6 11 rfl l6).get
      rw [show val 6 = _ from hI.gd 6 l6] at e6
      refine Draws.wpOp_of (by rfl) rfl (State.wp_value (v := .int .i64 t) (w' := W) ?_ (hI.same hloc hL _ _ (Cell.grown_refl _) (Draws.upd_at _ _ _)))
      simp only [execOp]
      go_simp
    · obtain rfl := Option.some.inj ho
      have p2 := (hI.old 2 (by kernel_rfl) rfl).get
      refine Draws.wpOp_of (by rfl) rfl (State.wp_value (v := .pointer (some ⟨w.heap.size, 2, none⟩)) (w' := W) ?_ (hI.same hloc hL _ _ (Cell.grown_refl _) (Draws.upd_at _ _ _)))
      simp only [execOp]
      go_simp
    · obtain rfl := Option.some.inj ho
      have l8 := hd 8 (by simp [State.TrcMDep])
      have e8 := (hI.at_ 8 13 rfl l8).get
      rw [show val 8 = _ from hI.gd 8 l8] at e8
      refine Draws.wpOp_of (by rfl) rfl (State.wp_value (v := .slice (some ⟨g2, o2, none⟩) n3 c2) (w' := W) ?_ (hI.same hloc hL _ _ (Cell.grown_refl _) (Draws.upd_at _ _ _)))
      simp only [execOp]
      go_simp
    · obtain rfl := Option.some.inj ho
      have p1 := (hI.old 1 (by kernel_rfl) rfl).get
      refine Draws.wpOp_of (by rfl) rfl (State.wp_value (v := .int .i64 (k : Int)) (w' := W) ?_ (hI.same hloc hL _ _ (Cell.grown_refl _) (Draws.upd_at _ _ _)))
      simp only [execOp]
      go_simp
    · obtain rfl := Option.some.inj ho
      have l9 := hd 9 (by simp [State.TrcMDep])
      have e9 := (hI.at_ 9 14 rfl l9).get
      have l10 := hd 10 (by simp [State.TrcMDep])
      have e10 := (hI.at_ 10 15 rfl l10).get
      rw [show val 9 = _ from hI.gd 9 l9] at e9
      rw [show val 10 = _ from hI.gd 10 l10] at e10
      refine Draws.wpOp_of (by rfl) rfl (State.wp_value (v := .pointer (some ⟨g2, (o2 + k), none⟩)) (w' := W) ?_ (hI.same hloc hL _ _ (Cell.grown_refl _) (Draws.upd_at _ _ _)))
      simp only [execOp]
      go_simp
      intro hh
      exfalso
      omega
    · obtain rfl := Option.some.inj ho
      have l11 := hd 11 (by simp [State.TrcMDep])
      have e11 := (hI.at_ 11 16 rfl l11).get
      rw [show val 11 = _ from hI.gd 11 l11] at e11
      refine Draws.wpOp_of (by rfl) rfl (State.wp_value (v := .int .i64 m) (w' := W) ?_ (hI.same hloc hL _ _ (Cell.grown_refl _) (Draws.upd_at _ _ _)))
      simp only [execOp]
      go_simp
    · obtain rfl := Option.some.inj ho
      have p2 := (hI.old 2 (by kernel_rfl) rfl).get
      refine Draws.wpOp_of (by rfl) rfl (State.wp_value (v := .pointer (some ⟨w.heap.size, 3, none⟩)) (w' := W) ?_ (hI.same hloc hL _ _ (Cell.grown_refl _) (Draws.upd_at _ _ _)))
      simp only [execOp]
      go_simp
    · obtain rfl := Option.some.inj ho
      have l13 := hd 13 (by simp [State.TrcMDep])
      have e13 := (hI.at_ 13 18 rfl l13).get
      rw [show val 13 = _ from hI.gd 13 l13] at e13
      refine Draws.wpOp_of (by rfl) rfl (State.wp_value (v := .slice (some ⟨g3, o3, none⟩) n3 c3) (w' := W) ?_ (hI.same hloc hL _ _ (Cell.grown_refl _) (Draws.upd_at _ _ _)))
      simp only [execOp]
      go_simp
    · obtain rfl := Option.some.inj ho
      have p1 := (hI.old 1 (by kernel_rfl) rfl).get
      refine Draws.wpOp_of (by rfl) rfl (State.wp_value (v := .int .i64 (k : Int)) (w' := W) ?_ (hI.same hloc hL _ _ (Cell.grown_refl _) (Draws.upd_at _ _ _)))
      simp only [execOp]
      go_simp
    · obtain rfl := Option.some.inj ho
      have l15 := hd 15 (by simp [State.TrcMDep])
      have e15 := (hI.at_ 15 20 rfl l15).get
      rw [show val 15 = _ from hI.gd 15 l15] at e15
      refine Draws.wpOp_of (by rfl) rfl (State.wp_value (v := .int .i64 ((k : Int) + 1)) (w' := W) ?_ (hI.same hloc hL _ _ (Cell.grown_refl _) (Draws.upd_at _ _ _)))
      simp only [execOp]
      go_simp
    · obtain rfl := Option.some.inj ho
      have l14 := hd 14 (by simp [State.TrcMDep])
      have e14 := (hI.at_ 14 19 rfl l14).get
      have l16 := hd 16 (by simp [State.TrcMDep])
      have e16 := (hI.at_ 16 21 rfl l16).get
      rw [show val 14 = _ from hI.gd 14 l14] at e14
      rw [show val 16 = _ from hI.gd 16 l16] at e16
      refine Draws.wpOp_of (by rfl) rfl (State.wp_value (v := .pointer (some ⟨g3, (o3 + (k + 1)), none⟩)) (w' := W) ?_ (hI.same hloc hL _ _ (Cell.grown_refl _) (Draws.upd_at _ _ _)))
      simp only [execOp]
      go_simp
      intro hh
      exfalso
      omega
    · obtain rfl := Option.some.inj ho
      have l17 := hd 17 (by simp [State.TrcMDep])
      have e17 := (hI.at_ 17 22 rfl l17).get
      rw [show val 17 = _ from hI.gd 17 l17] at e17
      refine Draws.wpOp_of (by rfl) rfl (State.wp_value (v := .int .i64 t2) (w' := W) ?_ (hI.same hloc hL _ _ (Cell.grown_refl _) (Draws.upd_at _ _ _)))
      simp only [execOp]
      go_simp
    · obtain rfl := Option.some.inj ho
      have p2 := (hI.old 2 (by kernel_rfl) rfl).get
      refine Draws.wpOp_of (by rfl) rfl (State.wp_value (v := .pointer (some ⟨w.heap.size, 2, none⟩)) (w' := W) ?_ (hI.same hloc hL _ _ (Cell.grown_refl _) (Draws.upd_at _ _ _)))
      simp only [execOp]
      go_simp
    · obtain rfl := Option.some.inj ho
      have l19 := hd 19 (by simp [State.TrcMDep])
      have e19 := (hI.at_ 19 24 rfl l19).get
      rw [show val 19 = _ from hI.gd 19 l19] at e19
      refine Draws.wpOp_of (by rfl) rfl (State.wp_value (v := .slice (some ⟨g2, o2, none⟩) n3 c2) (w' := W) ?_ (hI.same hloc hL _ _ (Cell.grown_refl _) (Draws.upd_at _ _ _)))
      simp only [execOp]
      go_simp
    · obtain rfl := Option.some.inj ho
      have p1 := (hI.old 1 (by kernel_rfl) rfl).get
      refine Draws.wpOp_of (by rfl) rfl (State.wp_value (v := .int .i64 (k : Int)) (w' := W) ?_ (hI.same hloc hL _ _ (Cell.grown_refl _) (Draws.upd_at _ _ _)))
      simp only [execOp]
      go_simp
    · obtain rfl := Option.some.inj ho
      have l21 := hd 21 (by simp [State.TrcMDep])
      have e21 := (hI.at_ 21 26 rfl l21).get
      rw [show val 21 = _ from hI.gd 21 l21] at e21
      refine Draws.wpOp_of (by rfl) rfl (State.wp_value (v := .int .i64 ((k : Int) + 1)) (w' := W) ?_ (hI.same hloc hL _ _ (Cell.grown_refl _) (Draws.upd_at _ _ _)))
      simp only [execOp]
      go_simp
    · obtain rfl := Option.some.inj ho
      have l20 := hd 20 (by simp [State.TrcMDep])
      have e20 := (hI.at_ 20 25 rfl l20).get
      have l22 := hd 22 (by simp [State.TrcMDep])
      have e22 := (hI.at_ 22 27 rfl l22).get
      rw [show val 20 = _ from hI.gd 20 l20] at e20
      rw [show val 22 = _ from hI.gd 22 l22] at e22
      refine Draws.wpOp_of (by rfl) rfl (State.wp_value (v := .pointer (some ⟨g2, (o2 + (k + 1)), none⟩)) (w' := W) ?_ (hI.same hloc hL _ _ (Cell.grown_refl _) (Draws.upd_at _ _ _)))
      simp only [execOp]
      go_simp
      intro hh
      exfalso
      omega
    · obtain rfl := Option.some.inj ho
      have l23 := hd 23 (by simp [State.TrcMDep])
      have e23 := (hI.at_ 23 28 rfl l23).get
      rw [show val 23 = _ from hI.gd 23 l23] at e23
      refine Draws.wpOp_of (by rfl) rfl (State.wp_value (v := .int .i64 m2) (w' := W) ?_ (hI.same hloc hL _ _ (Cell.grown_refl _) (Draws.upd_at _ _ _)))
      simp only [execOp]
      go_simp
    · obtain rfl := Option.some.inj ho
      have l2 := hd 2 (by simp [State.TrcMDep])
      have e2 := (hI.at_ 2 7 rfl l2).get
      have l7 := hd 7 (by simp [State.TrcMDep])
      have e7 := (hI.at_ 7 12 rfl l7).get
      have l12 := hd 12 (by simp [State.TrcMDep])
      have e12 := (hI.at_ 12 17 rfl l12).get
      have l18 := hd 18 (by simp [State.TrcMDep])
      have e18 := (hI.at_ 18 23 rfl l18).get
      have l24 := hd 24 (by simp [State.TrcMDep])
      have e24 := (hI.at_ 24 29 rfl l24).get
      rw [show val 2 = _ from hI.gd 2 l2] at e2
      rw [show val 7 = _ from hI.gd 7 l7] at e7
      rw [show val 12 = _ from hI.gd 12 l12] at e12
      rw [show val 18 = _ from hI.gd 18 l18] at e18
      rw [show val 24 = _ from hI.gd 24 l24] at e24
      refine Draws.wpOp_of (by rfl) rfl ?_
      unfold Oper.wp
      simp only [execOp]
      go_simp
      refine Calls.mono (P := Try.prog) (HP.out W) ?_
      rintro e w1 ⟨rfl, rfl⟩
      exact hI.same hloc hL _ (.int .i64 V) (Cell.grown_refl _) (Draws.upd_at _ _ _)
    · obtain rfl := Option.some.inj ho
      have l25 := hd 25 (by simp [State.TrcMDep])
      have e25 := (hI.at_ 25 30 rfl l25).get
      rw [show val 25 = _ from hI.gd 25 l25] at e25
      refine Draws.wpOp_of (by rfl) rfl (State.wp_value (v := .int .i64 V) (w' := W) ?_ (hI.same hloc hL _ _ (Cell.grown_refl _) (Draws.upd_at _ _ _)))
      simp only [execOp]
      go_simp
  case last =>
    intro L a_ W val G hI hall
    have vz : val 26 = .int .i64 V := hI.gd 26 (hall 26 (by simp))
    have HG := Lib.hid hI.hd.gr
    have ha := hI.frame (by kernel_rfl) hall
    refine hK _ _ ?_
    clear hK hI hall HE HA HP HCel HCel2
    simp [Draws.frameOf, Draws.slotOf, Act.put, List.range, List.range.loop] at ha
    subst ha
    rw [vz]
    clear vz
    go_wp2_with fail
    go_ret
    exact ⟨rfl, HG.out⟩

set_option maxHeartbeats 4000000 in
theorem specTracerFlux_is (R : Int) (a1 a2 a3 a4 : Option Addr) (n1 n2 n3 n4 c1 c2 c3 c4 : Nat) (xs : List C3) (ms ts bs : List Int) (i : Int) (w : World) (h : ReadsS w a1 a2 a3 a4 n1 n2 n3 n4 xs ms ts bs) (h1 : n1 ≤ 1048576) (h2 : n2 ≤ 1048576) (h3 : n3 ≤ 1048576) (h4 : n4 ≤ 1048576) (hi : -9223372036854775808 ≤ i ∧ i ≤ 9223372036854775807) :
    Calls Try.prog 40 #[.agg #[.int .i64 R, .slice a1 n1 c1, .slice a2 n2 c2, .slice a3 n3 c3, .slice a4 n4 c4], .int .i64 i] w fun e w' => e = .returned (.int .i64 (trcG R xs ms ts bs i)) ∧ w.grownBy w' none := by
  have hok : ∀ u, w.grownBy u none → Calls Try.prog 19 #[.agg #[.int .i64 R, .slice a1 n1 c1, .slice a2 n2 c2, .slice a3 n3 c3, .slice a4 n4 c4]] u fun e w' => e = .returned (.bool (stOk R xs ms ts bs)) ∧ u.grownBy w' none := fun u hu => specStateOk_is R a1 a2 a3 a4 n1 n2 n3 n4 c1 c2 c3 c4 xs ms ts bs u (h.on hu) h1 h2 h3 h4
  have HOK := Lib.hid hok
  clear hok
  have hl := h.l.len; have hm := h.m.len
  have hni : (n2 : Int) ≤ 1048576 := by omega
  cases hs : stOk R xs ms ts bs with
  | false =>
    rw [show trcG R xs ms ts bs i = 0 from if_neg (fun hh => by rw [hs] at hh; exact nomatch hh.1)]
    rw [hs] at HOK
    have HE := Lib.hid ((Held.nil w).box 29 #[.int .i64 R, .slice a1 n1 c1, .slice a2 n2 c2, .slice a3 n3 c3, .slice a4 n4 c4])
    clear hs h h1 h2 h3 h4
    go_enter Try.func40, Try.ntmps40
    go_upto_region 1 with fail
    generalize w.alloc (.cells #[.int .i64 R, .slice a1 n1 c1, .slice a2 n2 c2, .slice a3 n3 c3, .slice a4 n4 c4] 29) = W0 at *
    obtain ⟨p0, p1, p2, p3, p4⟩ := box5 (HE.out.nth 0 rfl)
    go_wp2_with (go_at_call 19; ((with_reducible refine (HOK.out _ HE.out.gr).mono ?_); rintro e w1 ⟨rfl, hg⟩; have HE1 := Lib.hid (HE.out.on hg); obtain ⟨q0, q1, q2, q3, q4⟩ := box5 (HE1.out.nth 0 rfl); clear hg))
    go_ret
    exact ⟨rfl, HE1.out.gr⟩
  | true =>
    rw [hs] at HOK
    have hn : n2 = n1 := by rw [← hm, (stOk_parts hs).2.1.1, hl]
    by_cases hr : 0 ≤ i ∧ i ≤ (n2 : Int) - 2
    · have HIN := Lib.hid fun u => Cell.in_is i 0 ((n2 : Int) - 2) true (decide_eq_true hr) u
      rw [show trcG R xs ms ts bs i = trcAt xs ms ts bs i.toNat from if_pos ⟨hs, hr.1, by omega⟩]
      obtain ⟨k, rfl⟩ := Int.eq_ofNat_of_zero_le hr.1
      rw [Int.toNat_natCast]
      have hcall : ∀ u, w.grownBy u none → Calls Try.prog 83 #[.agg #[.int .i64 R, .slice a1 n1 c1, .slice a2 n2 c2, .slice a3 n3 c3, .slice a4 n4 c4], .int .i64 (k : Int)] u fun e w' => e = .returned (.int .i64 (trcAt xs ms ts bs k)) ∧ u.grownBy w' none := fun u hu => specTrFlux_is R a1 a2 a3 a4 n1 n2 n3 n4 c1 c2 c3 c4 k xs ms ts bs u (h.on hu) h1 hs (by omega)
      have HC := Lib.hid hcall
      have HE := Lib.hid ((Held.nil w).box 29 #[.int .i64 R, .slice a1 n1 c1, .slice a2 n2 c2, .slice a3 n3 c3, .slice a4 n4 c4])
      clear hs h h1 h2 h3 h4 hcall hl hm hn
      generalize trcAt xs ms ts bs k = V at *
      go_enter Try.func40, Try.ntmps40
      go_upto_region 1 with fail
      generalize w.alloc (.cells #[.int .i64 R, .slice a1 n1 c1, .slice a2 n2 c2, .slice a3 n3 c3, .slice a4 n4 c4] 29) = W0 at *
      obtain ⟨p0, p1, p2, p3, p4⟩ := box5 (HE.out.nth 0 rfl)
      go_wp2_with (first
        | (go_at_call 19; ((with_reducible refine (HOK.out _ HE.out.gr).mono ?_); rintro e w1 ⟨rfl, hg⟩; have HE1 := Lib.hid (HE.out.on hg); obtain ⟨q0, q1, q2, q3, q4⟩ := box5 (HE1.out.nth 0 rfl); clear hg))
        | (go_at_call 55; ((with_reducible refine (HIN.out _).mono ?_); rintro e w2 ⟨rfl, rfl⟩))
        | (go_at_call 83; ((with_reducible refine (HC.out _ HE1.out.gr).mono ?_); rintro e w3 ⟨rfl, hg⟩; have HE2 := Lib.hid (HE1.out.on hg); clear hg)))
      go_ret
      exact ⟨rfl, HE2.out.gr⟩
    · have HIN := Lib.hid fun u => Cell.in_is i 0 ((n2 : Int) - 2) false (decide_eq_false hr) u
      rw [show trcG R xs ms ts bs i = 0 from if_neg (fun hh => hr ⟨hh.2.1, by have := hh.2.2; omega⟩)]
      have HE := Lib.hid ((Held.nil w).box 29 #[.int .i64 R, .slice a1 n1 c1, .slice a2 n2 c2, .slice a3 n3 c3, .slice a4 n4 c4])
      clear hs h h1 h2 h3 h4 hl hm hn hr
      go_enter Try.func40, Try.ntmps40
      go_upto_region 1 with fail
      generalize w.alloc (.cells #[.int .i64 R, .slice a1 n1 c1, .slice a2 n2 c2, .slice a3 n3 c3, .slice a4 n4 c4] 29) = W0 at *
      obtain ⟨p0, p1, p2, p3, p4⟩ := box5 (HE.out.nth 0 rfl)
      go_wp2_with (first
        | (go_at_call 19; ((with_reducible refine (HOK.out _ HE.out.gr).mono ?_); rintro e w1 ⟨rfl, hg⟩; have HE1 := Lib.hid (HE.out.on hg); obtain ⟨q0, q1, q2, q3, q4⟩ := box5 (HE1.out.nth 0 rfl); clear hg))
        | (go_at_call 55; ((with_reducible refine (HIN.out _).mono ?_); rintro e w2 ⟨rfl, rfl⟩)))
      go_ret
      exact ⟨rfl, HE1.out.gr⟩

set_option maxHeartbeats 4000000 in
theorem specShareAt_is (R : Int) (a1 a2 a3 a4 : Option Addr) (n1 n2 n3 n4 c1 c2 c3 c4 : Nat) (xs : List C3) (ms ts bs : List Int) (i : Int) (w : World) (h : ReadsS w a1 a2 a3 a4 n1 n2 n3 n4 xs ms ts bs) (h1 : n1 ≤ 1048576) (h2 : n2 ≤ 1048576) (h3 : n3 ≤ 1048576) (h4 : n4 ≤ 1048576) (hi : -9223372036854775808 ≤ i ∧ i ≤ 9223372036854775807) :
    Calls Try.prog 43 #[.agg #[.int .i64 R, .slice a1 n1 c1, .slice a2 n2 c2, .slice a3 n3 c3, .slice a4 n4 c4], .int .i64 i] w fun e w' => e = .returned (.int .i64 (shareG R xs ms ts bs i)) ∧ w.grownBy w' none := by
  have hok : ∀ u, w.grownBy u none → Calls Try.prog 19 #[.agg #[.int .i64 R, .slice a1 n1 c1, .slice a2 n2 c2, .slice a3 n3 c3, .slice a4 n4 c4]] u fun e w' => e = .returned (.bool (stOk R xs ms ts bs)) ∧ u.grownBy w' none := fun u hu => specStateOk_is R a1 a2 a3 a4 n1 n2 n3 n4 c1 c2 c3 c4 xs ms ts bs u (h.on hu) h1 h2 h3 h4
  have HOK := Lib.hid hok
  clear hok
  have hl := h.l.len; have hm := h.m.len
  have hni : (n2 : Int) ≤ 1048576 := by omega
  cases hs : stOk R xs ms ts bs with
  | false =>
    rw [show shareG R xs ms ts bs i = 0 from if_neg (fun hh => by rw [hs] at hh; exact nomatch hh.1)]
    rw [hs] at HOK
    have HE := Lib.hid ((Held.nil w).box 29 #[.int .i64 R, .slice a1 n1 c1, .slice a2 n2 c2, .slice a3 n3 c3, .slice a4 n4 c4])
    clear hs h h1 h2 h3 h4
    go_enter Try.func43, Try.ntmps43
    go_upto_region 1 with fail
    generalize w.alloc (.cells #[.int .i64 R, .slice a1 n1 c1, .slice a2 n2 c2, .slice a3 n3 c3, .slice a4 n4 c4] 29) = W0 at *
    obtain ⟨p0, p1, p2, p3, p4⟩ := box5 (HE.out.nth 0 rfl)
    go_wp2_with (go_at_call 19; ((with_reducible refine (HOK.out _ HE.out.gr).mono ?_); rintro e w1 ⟨rfl, hg⟩; have HE1 := Lib.hid (HE.out.on hg); obtain ⟨q0, q1, q2, q3, q4⟩ := box5 (HE1.out.nth 0 rfl); clear hg))
    go_ret
    exact ⟨rfl, HE1.out.gr⟩
  | true =>
    rw [hs] at HOK
    by_cases hr : 0 ≤ i ∧ i ≤ (n2 : Int) - 1
    · have HIN := Lib.hid fun u => Cell.in_is i 0 ((n2 : Int) - 1) true (decide_eq_true hr) u
      rw [show shareG R xs ms ts bs i = permN (tsAt ts i.toNat) (msAt ms i.toNat) from if_pos ⟨hs, hr.1, by omega⟩]
      obtain ⟨k, rfl⟩ := Int.eq_ofNat_of_zero_le hr.1
      rw [Int.toNat_natCast]
      obtain ⟨g2, o2, g3, o3, rfl, rfl, rfl, hcel⟩ := pair_cells h hs (by omega)
      obtain ⟨m_, t_, -, -, em, et, m0, m1, t0, t1⟩ := pair_at hs (k := k) (by omega)
      have HCel := Lib.hid (hcel k (by omega))
      have hki : (k : Int) < n3 := by omega
      have HE := Lib.hid ((Held.nil w).box 29 #[.int .i64 R, .slice a1 n1 c1, .slice (some ⟨g2, o2, none⟩) n3 c2, .slice (some ⟨g3, o3, none⟩) n3 c3, .slice a4 n4 c4])
      rw [← em] at m0 m1 t1
      rw [← et] at t0 t1
      have t2 : tsAt ts k ≤ 10000000000 := by omega
      unfold permN
      clear em et hs h h1 h2 h3 h4 hm hl hcel hr
      generalize msAt ms k = m at *
      generalize tsAt ts k = t at *
      by_cases hz : m = 0
      · rw [if_pos (by omega)]
        clear t1
        go_enter Try.func43, Try.ntmps43
        go_upto_region 1 with fail
        generalize w.alloc (.cells #[.int .i64 R, .slice a1 n1 c1, .slice (some ⟨g2, o2, none⟩) n3 c2, .slice (some ⟨g3, o3, none⟩) n3 c3, .slice a4 n4 c4] 29) = W0 at *
        obtain ⟨p0, p1, p2, p3, p4⟩ := box5 (HE.out.nth 0 rfl)
        go_wp2_with (first
          | (go_at_call 19; ((with_reducible refine (HOK.out _ HE.out.gr).mono ?_); rintro e w1 ⟨rfl, hg⟩; have HE1 := Lib.hid (HE.out.on hg); obtain ⟨q0, q1, q2, q3, q4⟩ := box5 (HE1.out.nth 0 rfl); obtain ⟨d0, d1⟩ := HCel.out _ HE1.out.gr; clear hg))
          | (go_at_call 55; ((with_reducible refine (HIN.out _).mono ?_); rintro e w2 ⟨rfl, rfl⟩)))
        go_ret
        exact ⟨rfl, HE1.out.gr⟩
      · rw [if_neg (by omega)]
        have hq : (1000 * t).tdiv m = 1000 * t / m := Int.tdiv_eq_ediv_of_nonneg (by omega)
        have l0 : 0 ≤ 1000 * t / m := Int.ediv_nonneg (by omega) (by omega)
        have l1 := Int.ediv_le_self m (show 0 ≤ 1000 * t by omega)
        have e1 : IntKind.i64.wrap (1000 * t) = 1000 * t := IntWalk.i64_in _ (by omega)
        have e2 : IntKind.i64.wrap ((1000 * t).tdiv m) = 1000 * t / m := by rw [hq]; exact IntWalk.i64_in _ (by omega)
        clear t1 hq l0 l1
        generalize 1000 * t / m = V at *
        go_enter Try.func43, Try.ntmps43
        go_upto_region 1 with fail
        generalize w.alloc (.cells #[.int .i64 R, .slice a1 n1 c1, .slice (some ⟨g2, o2, none⟩) n3 c2, .slice (some ⟨g3, o3, none⟩) n3 c3, .slice a4 n4 c4] 29) = W0 at *
        obtain ⟨p0, p1, p2, p3, p4⟩ := box5 (HE.out.nth 0 rfl)
        go_upto_region 3 with (first
          | (go_at_call 19; ((with_reducible refine (HOK.out _ HE.out.gr).mono ?_); rintro e w1 ⟨rfl, hg⟩; have HE1 := Lib.hid (HE.out.on hg); obtain ⟨q0, q1, q2, q3, q4⟩ := box5 (HE1.out.nth 0 rfl); obtain ⟨d0, d1⟩ := HCel.out _ HE1.out.gr; clear hg))
          | (go_at_call 55; ((with_reducible refine (HIN.out _).mono ?_); rintro e w2 ⟨rfl, rfl⟩)))
        go_quiet (fail)
        have HE2 := Lib.hid (HE1.out.on (Cell.g_drewN (Cell.grown_refl _) nq))
        go_wp2_with fail
        go_ret
        exact ⟨rfl, HE2.out.gr⟩
    · have HIN := Lib.hid fun u => Cell.in_is i 0 ((n2 : Int) - 1) false (decide_eq_false hr) u
      rw [show shareG R xs ms ts bs i = 0 from if_neg (fun hh => hr ⟨hh.2.1, by have := hh.2.2; omega⟩)]
      have HE := Lib.hid ((Held.nil w).box 29 #[.int .i64 R, .slice a1 n1 c1, .slice a2 n2 c2, .slice a3 n3 c3, .slice a4 n4 c4])
      clear hs h h1 h2 h3 h4 hl hm hr
      go_enter Try.func43, Try.ntmps43
      go_upto_region 1 with fail
      generalize w.alloc (.cells #[.int .i64 R, .slice a1 n1 c1, .slice a2 n2 c2, .slice a3 n3 c3, .slice a4 n4 c4] 29) = W0 at *
      obtain ⟨p0, p1, p2, p3, p4⟩ := box5 (HE.out.nth 0 rfl)
      go_wp2_with (first
        | (go_at_call 19; ((with_reducible refine (HOK.out _ HE.out.gr).mono ?_); rintro e w1 ⟨rfl, hg⟩; have HE1 := Lib.hid (HE.out.on hg); obtain ⟨q0, q1, q2, q3, q4⟩ := box5 (HE1.out.nth 0 rfl); clear hg))
        | (go_at_call 55; ((with_reducible refine (HIN.out _).mono ?_); rintro e w2 ⟨rfl, rfl⟩)))
      go_ret
      exact ⟨rfl, HE1.out.gr⟩
end Go.Proofs.Ytfoilfgiablleaa.State
