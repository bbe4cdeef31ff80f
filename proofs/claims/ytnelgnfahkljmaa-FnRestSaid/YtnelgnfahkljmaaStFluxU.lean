/- States: l09Flux of the reference model, as a contract: what it answers; nothing that was there is written (written by wip/tools/stflux.py).
   Conditions: at most 2^20 leaves and numbers. -/
import Derived.Test.YtnelgnfahkljmaaStFluxT
set_option maxRecDepth 100000
namespace Go.Proofs.Ytnelgnfahkljmaa.State
open Go.ChangeShapes Go.WideShapes Go.ChangeAt Go.RowKit Go.Joins Go.Proofs.Ytnelgnfahkljmaa.Cell Go.Proofs.Ytnelgnfahkljmaa.Mesh Go.Proofs.Ytnelgnfahkljmaa.Law Go.Proofs.Ytnelgnfahkljmaa.Ints Go.Proofs.Ytnelgnfahkljmaa.Draws Go.Deep
set_option linter.unusedVariables false

set_option maxHeartbeats 8000000 in
theorem specFlux_is (R : Int) (a1 a2 a3 a4 : Option Addr) (n1 n2 n3 n4 c1 c2 c3 c4 k : Nat) (xs : List C3) (ms ts bs : List Int) (w : World) (h : ReadsS w a1 a2 a3 a4 n1 n2 n3 n4 xs ms ts bs) (h1 : n1 ≤ 1048576) (hs : stOk R xs ms ts bs = true) (hk : k + 1 < n1) :
    Calls Try.prog 69 #[.agg #[.int .i64 R, .slice a1 n1 c1, .slice a2 n2 c2, .slice a3 n3 c3, .slice a4 n4 c4], .int .i64 k] w fun e w' =>
      e = .returned (.int .i64 (fluxAt xs ms bs k)) ∧ w.grownBy w' none := by
  have hA : ∀ u, w.grownBy u none → Calls Try.prog 57 #[.agg #[.int .i64 R, .slice a1 n1 c1, .slice a2 n2 c2, .slice a3 n3 c3, .slice a4 n4 c4], .int .i64 k] u fun e w' => e = .returned (.int .i64 (surf xs ms bs k)) ∧ u.grownBy w' none := fun u hu => specSurf_is R a1 a2 a3 a4 n1 n2 n3 n4 c1 c2 c3 c4 k xs ms ts bs u (h.on hu) h1 hs (by omega)
  have hB : ∀ u, w.grownBy u none → Calls Try.prog 57 #[.agg #[.int .i64 R, .slice a1 n1 c1, .slice a2 n2 c2, .slice a3 n3 c3, .slice a4 n4 c4], .int .i64 ((k : Int) + 1)] u fun e w' => e = .returned (.int .i64 (surf xs ms bs (k + 1))) ∧ u.grownBy w' none := fun u hu => specSurf_is R a1 a2 a3 a4 n1 n2 n3 n4 c1 c2 c3 c4 (k + 1) xs ms ts bs u (h.on hu) h1 hs hk
  obtain ⟨s0, s1, m0, m1, l0, l1⟩ := leaf_bounds hs (k := k) (by rw [h.l.len]; omega)
  obtain ⟨r0, r1, n0, n1', k0, k1⟩ := leaf_bounds hs (k := k + 1) (by rw [h.l.len]; omega)
  obtain ⟨g1, g2, o2, rfl, rfl, rfl, hcel⟩ := face_cells h hs hk
  have hP : ∀ u, Calls Try.prog 87 #[.int .i64 (surf xs ms bs k), .int .i64 (surf xs ms bs (k + 1)), .int .i64 (msAt ms k), .int .i64 (msAt ms (k + 1)), .int .i64 (lvAt xs k), .int .i64 (lvAt xs (k + 1))] u fun e w' => e = .returned (.int .i64 (fluxAt xs ms bs k)) ∧ u.grownBy w' none := fun u => specPair_is _ _ _ _ _ _ s0 s1 r0 r1 m0 m1 n0 n1' l0 l1 k0 k1 u
  have hki : (k : Int) + 1 < n2 := by omega
  have hni : (n2 : Int) ≤ 1048576 := by omega
  have HA := Lib.hid hA; have HB := Lib.hid hB; have HP := Lib.hid hP
  have HE := Lib.hid ((Held.nil w).box 31 #[.int .i64 R, .slice (some ⟨g1, 0, none⟩) n2 c1, .slice (some ⟨g2, o2, none⟩) n2 c2, .slice a3 n3 c3, .slice a4 n4 c4])
  have HCel := Lib.hid hcel
  clear hA hB hP hcel h hs h1 hk
  generalize surf xs ms bs k = s at *
  generalize surf xs ms bs (k + 1) = t at *
  generalize lvAt xs k = la at *
  generalize lvAt xs (k + 1) = lb at *
  generalize msAt ms k = ma at *
  generalize msAt ms (k + 1) = mb at *
  generalize fluxAt xs ms bs k = F at *
  go_enter Try.func69, Try.ntmps69
  go_upto_region 1 with fail
  generalize w.alloc (.cells #[.int .i64 R, .slice (some ⟨g1, 0, none⟩) n2 c1, .slice (some ⟨g2, o2, none⟩) n2 c2, .slice a3 n3 c3, .slice a4 n4 c4] 31) = W0 at *
  have e1 : IntKind.i64.wrap ((k : Int) + 1) = (k : Int) + 1 := IntWalk.i64_in _ (by omega)
  rename_i K_ hK
  refine Draws.wp_region_tabG (w := w) rfl (by kernel_rfl) (by kernel_rfl) State.FxGDep (by kernel_rfl) [Law.boxG w.heap.size 31 #[.int .i64 R, .slice (some ⟨g1, 0, none⟩) n2 c1, .slice (some ⟨g2, o2, none⟩) n2 c2, .slice a3 n3 c3, .slice a4 n4 c4]] [] (fun _ => Law.emptyG) (State.FxG R g1 g2 o2 a3 a4 n2 n3 n4 c1 c2 c3 c4 k w.heap.size s t ma mb la lb F) ?start ?step ?last
  case start => exact HE.out.on (Mesh.gr_drew (Cell.grown_refl _))
  case step =>
    clear hK
    intro L a W val G i o hI ho hL hd
    have hi : i < 35 := by have := (Array.getElem?_eq_some_iff.1 ho).1; simpa using this
    have hloc := State.FxG_local R g1 g2 o2 a3 a4 n2 n3 n4 c1 c2 c3 c4 k w.heap.size s t ma mb la lb F
    obtain ⟨z0, z1, z2, z3, z4⟩ := Law.box5 (hI.hd.nth 0 rfl)
    obtain ⟨x0, x1, x2, x3⟩ := HCel.out W hI.hd.gr
    rcases (show i = 0 ∨ i = 1 ∨ i = 2 ∨ i = 3 ∨ i = 4 ∨ i = 5 ∨ i = 6 ∨ i = 7 ∨ i = 8 ∨ i = 9 ∨ i = 10 ∨ i = 11 ∨ i = 12 ∨ i = 13 ∨ i = 14 ∨ i = 15 ∨ i = 16 ∨ i = 17 ∨ i = 18 ∨ i = 19 ∨ i = 20 ∨ i = 21 ∨ i = 22 ∨ i = 23 ∨ i = 24 ∨ i = 25 ∨ i = 26 ∨ i = 27 ∨ i = 28 ∨ i = 29 ∨ i = 30 ∨ i = 31 ∨ i = 32 ∨ i = 33 ∨ i = 34 by omega) with rfl | rfl | rfl | rfl | rfl | rfl | rfl | rfl | rfl | rfl | rfl | rfl | rfl | rfl | rfl | rfl | rfl | rfl | rfl | rfl | rfl | rfl | rfl | rfl | rfl | rfl | rfl | rfl | rfl | rfl | rfl | rfl | rfl | rfl | rfl
    · obtain rfl := Option.some.inj ho
      have p2 := (hI.old 2 (by kernel_rfl) rfl).get
      refine Draws.wpOp_of (by rfl) rfl (State.wp_value (v := .agg #[.int .i64 R, .slice (some ⟨g1, 0, none⟩) n2 c1, .slice (some ⟨g2, o2, none⟩) n2 c2, .slice a3 n3 c3, .slice a4 n4 c4]) (w' := W) ?_ (hI.same hloc hL _ _ (Cell.grown_refl _) (Draws.upd_at _ _ _)))
      simp only [execOp]
      go_simp
    · obtain rfl := Option.some.inj ho
      have p1 := (hI.old 1 (by kernel_rfl) rfl).get
      refine Draws.wpOp_of (by rfl) rfl (State.wp_value (v := .int .i64 (k : Int)) (w' := W) ?_ (hI.same hloc hL _ _ (Cell.grown_refl _) (Draws.upd_at _ _ _)))
      simp only [execOp]
      go_simp
    · obtain rfl := Option.some.inj ho
      have l0 := hd 0 (by simp [State.FxGDep])
      have e0 := (hI.at_ 0 5 rfl l0).get
      have l1 := hd 1 (by simp [State.FxGDep])
      have e1 := (hI.at_ 1 6 rfl l1).get
      rw [show val 0 = _ from hI.gd 0 l0] at e0
      rw [show val 1 = _ from hI.gd 1 l1] at e1
      refine Draws.wpOp_of (by rfl) rfl ?_
      unfold Oper.wp
      simp only [execOp]
      go_simp
      refine Calls.mono (P := Try.prog) (HA.out W hI.hd.gr) ?_
      rintro e w1 ⟨rfl, hg⟩
      exact hI.same hloc hL _ (.int .i64 s) hg (Draws.upd_at _ _ _)
    · obtain rfl := Option.some.inj ho
      have p2 := (hI.old 2 (by kernel_rfl) rfl).get
      refine Draws.wpOp_of (by rfl) rfl (State.wp_value (v := .agg #[.int .i64 R, .slice (some ⟨g1, 0, none⟩) n2 c1, .slice (some ⟨g2, o2, none⟩) n2 c2, .slice a3 n3 c3, .slice a4 n4 c4]) (w' := W) ?_ (hI.same hloc hL _ _ (Cell.grown_refl _) (Draws.upd_at _ _ _)))
      simp only [execOp]
      go_simp
    · obtain rfl := Option.some.inj ho
      have p1 := (hI.old 1 (by kernel_rfl) rfl).get
      refine Draws.wpOp_of (by rfl) rfl (State.wp_value (v := .int .i64 (k : Int)) (w' := W) ?_ (hI.same hloc hL _ _ (Cell.grown_refl _) (Draws.upd_at _ _ _)))
      simp only [execOp]
      go_simp
    · obtain rfl := Option.some.inj ho
      have l4 := hd 4 (by simp [State.FxGDep])
      have e4 := (hI.at_ 4 9 rfl l4).get
      rw [show val 4 = _ from hI.gd 4 l4] at e4
      refine Draws.wpOp_of (by rfl) rfl (State.wp_value (v := .int .i64 ((k : Int) + 1)) (w' := W) ?_ (hI.same hloc hL _ _ (Cell.grown_refl _) (Draws.upd_at _ _ _)))
      simp only [execOp]
      go_simp
    · obtain rfl := Option.some.inj ho
      have l3 := hd 3 (by simp [State.FxGDep])
      have e3 := (hI.at_ 3 8 rfl l3).get
      have l5 := hd 5 (by simp [State.FxGDep])
      have e5 := (hI.at_ 5 10 rfl l5).get
      rw [show val 3 = _ from hI.gd 3 l3] at e3
      rw [show val 5 = _ from hI.gd 5 l5] at e5
      refine Draws.wpOp_of (by rfl) rfl ?_
      unfold Oper.wp
      simp only [execOp]
      go_simp
      refine Calls.mono (P := Try.prog) (HB.out W hI.hd.gr) ?_
      rintro e w1 ⟨rfl, hg⟩
      exact hI.same hloc hL _ (.int .i64 t) hg (Draws.upd_at _ _ _)
    · obtain rfl := Option.some.inj ho
      have p2 := (hI.old 2 (by kernel_rfl) rfl).get
      refine Draws.wpOp_of (by rfl) rfl (State.wp_value (v := .pointer (some ⟨w.heap.size, 2, none⟩)) (w' := W) ?_ (hI.same hloc hL _ _ (Cell.grown_refl _) (Draws.upd_at _ _ _)))
      simp only [execOp]
      go_simp
    · obtain rfl := Option.some.inj ho
      have l7 := hd 7 (by simp [State.FxGDep])
      have e7 := (hI.at_ 7 12 rfl l7).get
      rw [show val 7 = _ from hI.gd 7 l7] at e7
      refine Draws.wpOp_of (by rfl) rfl (State.wp_value (v := .slice (some ⟨g2, o2, none⟩) n2 c2) (w' := W) ?_ (hI.same hloc hL _ _ (Cell.grown_refl _) (Draws.upd_at _ _ _)))
      simp only [execOp]
      go_simp
    · obtain rfl := Option.some.inj ho
      have p1 := (hI.old 1 (by kernel_rfl) rfl).get
      refine Draws.wpOp_of (by rfl) rfl (State.wp_value (v := .int .i64 (k : Int)) (w' := W) ?_ (hI.same hloc hL _ _ (Cell.grown_refl _) (Draws.upd_at _ _ _)))
      simp only [execOp]
      go_simp
    · obtain rfl := Option.some.inj ho
      have l8 := hd 8 (by simp [State.FxGDep])
      have e8 := (hI.at_ 8 13 rfl l8).get
      have l9 := hd 9 (by simp [State.FxGDep])
      have e9 := (hI.at_ 9 14 rfl l9).get
      rw [show val 8 = _ from hI.gd 8 l8] at e8
      rw [show val 9 = _ from hI.gd 9 l9] at e9
      refine Draws.wpOp_of (by rfl) rfl (State.wp_value (v := .pointer (some ⟨g2, (o2 + k), none⟩)) (w' := W) ?_ (hI.same hloc hL _ _ (Cell.grown_refl _) (Draws.upd_at _ _ _)))
      simp only [execOp]
      go_simp
      intro hh
      exfalso
      omega
    · obtain rfl := Option.some.inj ho
      have l10 := hd 10 (by simp [State.FxGDep])
      have e10 := (hI.at_ 10 15 rfl l10).get
      rw [show val 10 = _ from hI.gd 10 l10] at e10
      refine Draws.wpOp_of (by rfl) rfl (State.wp_value (v := .int .i64 ma) (w' := W) ?_ (hI.same hloc hL _ _ (Cell.grown_refl _) (Draws.upd_at _ _ _)))
      simp only [execOp]
      go_simp
    · obtain rfl := Option.some.inj ho
      have p2 := (hI.old 2 (by kernel_rfl) rfl).get
      refine Draws.wpOp_of (by rfl) rfl (State.wp_value (v := .pointer (some ⟨w.heap.size, 2, none⟩)) (w' := W) ?_ (hI.same hloc hL _ _ (Cell.grown_refl _) (Draws.upd_at _ _ _)))
      simp only [execOp]
      go_simp
    · obtain rfl := Option.some.inj ho
      have l12 := hd 12 (by simp [State.FxGDep])
      have e12 := (hI.at_ 12 17 rfl l12).get
      rw [show val 12 = _ from hI.gd 12 l12] at e12
      refine Draws.wpOp_of (by rfl) rfl (State.wp_value (v := .slice (some ⟨g2, o2, none⟩) n2 c2) (w' := W) ?_ (hI.same hloc hL _ _ (Cell.grown_refl _) (Draws.upd_at _ _ _)))
      simp only [execOp]
      go_simp
    · obtain rfl := Option.some.inj ho
      have p1 := (hI.old 1 (by kernel_rfl) rfl).get
      refine Draws.wpOp_of (by rfl) rfl (State.wp_value (v := .int .i64 (k : Int)) (w' := W) ?_ (hI.same hloc hL _ _ (Cell.grown_refl _) (Draws.upd_at _ _ _)))
      simp only [execOp]
      go_simp
    · obtain rfl := Option.some.inj ho
      have l14 := hd 14 (by simp [State.FxGDep])
      have e14 := (hI.at_ 14 19 rfl l14).get
      rw [show val 14 = _ from hI.gd 14 l14] at e14
      refine Draws.wpOp_of (by rfl) rfl (State.wp_value (v := .int .i64 ((k : Int) + 1)) (w' := W) ?_ (hI.same hloc hL _ _ (Cell.grown_refl _) (Draws.upd_at _ _ _)))
      simp only [execOp]
      go_simp
    · obtain rfl := Option.some.inj ho
      have l13 := hd 13 (by simp [State.FxGDep])
      have e13 := (hI.at_ 13 18 rfl l13).get
      have l15 := hd 15 (by simp [State.FxGDep])
      have e15 := (hI.at_ 15 20 rfl l15).get
      rw [show val 13 = _ from hI.gd 13 l13] at e13
      rw [show val 15 = _ from hI.gd 15 l15] at e15
      refine Draws.wpOp_of (by rfl) rfl (State.wp_value (v := .pointer (some ⟨g2, (o2 + (k + 1)), none⟩)) (w' := W) ?_ (hI.same hloc hL _ _ (Cell.grown_refl _) (Draws.upd_at _ _ _)))
      simp only [execOp]
      go_simp
      intro hh
      exfalso
      omega
    · obtain rfl := Option.some.inj ho
      have l16 := hd 16 (by simp [State.FxGDep])
      have e16 := (hI.at_ 16 21 rfl l16).get
      rw [show val 16 = _ from hI.gd 16 l16] at e16
      refine Draws.wpOp_of (by rfl) rfl (State.wp_value (v := .int .i64 mb) (w' := W) ?_ (hI.same hloc hL _ _ (Cell.grown_refl _) (Draws.upd_at _ _ _)))
      simp only [execOp]
      go_simp
    · obtain rfl := Option.some.inj ho
      have p2 := (hI.old 2 (by kernel_rfl) rfl).get
      refine Draws.wpOp_of (by rfl) rfl (State.wp_value (v := .pointer (some ⟨w.heap.size, 0, none⟩)) (w' := W) ?_ (hI.same hloc hL _ _ (Cell.grown_refl _) (Draws.upd_at _ _ _)))
      simp only [execOp]
      go_simp
    · obtain rfl := Option.some.inj ho
      have l18 := hd 18 (by simp [State.FxGDep])
      have e18 := (hI.at_ 18 23 rfl l18).get
      rw [show val 18 = _ from hI.gd 18 l18] at e18
      refine Draws.wpOp_of (by rfl) rfl (State.wp_value (v := .pointer (some ⟨w.heap.size, 1, none⟩)) (w' := W) ?_ (hI.same hloc hL _ _ (Cell.grown_refl _) (Draws.upd_at _ _ _)))
      simp only [execOp]
      go_simp
    · obtain rfl := Option.some.inj ho
      have l19 := hd 19 (by simp [State.FxGDep])
      have e19 := (hI.at_ 19 24 rfl l19).get
      rw [show val 19 = _ from hI.gd 19 l19] at e19
      refine Draws.wpOp_of (by rfl) rfl (State.wp_value (v := .slice (some ⟨g1, 0, none⟩) n2 c1) (w' := W) ?_ (hI.same hloc hL _ _ (Cell.grown_refl _) (Draws.upd_at _ _ _)))
      simp only [execOp]
      go_simp
    · obtain rfl := Option.some.inj ho
      have p1 := (hI.old 1 (by kernel_rfl) rfl).get
      refine Draws.wpOp_of (by rfl) rfl (State.wp_value (v := .int .i64 (k : Int)) (w' := W) ?_ (hI.same hloc hL _ _ (Cell.grown_refl _) (Draws.upd_at _ _ _)))
      simp only [execOp]
      go_simp
    · obtain rfl := Option.some.inj ho
      have l20 := hd 20 (by simp [State.FxGDep])
      have e20 := (hI.at_ 20 25 rfl l20).get
      have l21 := hd 21 (by simp [State.FxGDep])
      have e21 := (hI.at_ 21 26 rfl l21).get
      rw [show val 20 = _ from hI.gd 20 l20] at e20
      rw [show val 21 = _ from hI.gd 21 l21] at e21
      refine Draws.wpOp_of (by rfl) rfl (State.wp_value (v := .pointer (some ⟨g1, (k * 3), none⟩)) (w' := W) ?_ (hI.same hloc hL _ _ (Cell.grown_refl _) (Draws.upd_at _ _ _)))
      simp only [execOp]
      go_simp
      intro hh
      exfalso
      omega
    · obtain rfl := Option.some.inj ho
      have l22 := hd 22 (by simp [State.FxGDep])
      have e22 := (hI.at_ 22 27 rfl l22).get
      rw [show val 22 = _ from hI.gd 22 l22] at e22
      refine Draws.wpOp_of (by rfl) rfl (State.wp_value (v := .pointer (some ⟨g1, (k * 3 + 1), none⟩)) (w' := W) ?_ (hI.same hloc hL _ _ (Cell.grown_refl _) (Draws.upd_at _ _ _)))
      simp only [execOp]
      go_simp
    · obtain rfl := Option.some.inj ho
      have l23 := hd 23 (by simp [State.FxGDep])
      have e23 := (hI.at_ 23 28 rfl l23).get
      rw [show val 23 = _ from hI.gd 23 l23] at e23
      refine Draws.wpOp_of (by rfl) rfl (State.wp_value (v := .int .i64 la) (w' := W) ?_ (hI.same hloc hL _ _ (Cell.grown_refl _) (Draws.upd_at _ _ _)))
      simp only [execOp]
      go_simp
    · obtain rfl := Option.some.inj ho
      have p2 := (hI.old 2 (by kernel_rfl) rfl).get
      refine Draws.wpOp_of (by rfl) rfl (State.wp_value (v := .pointer (some ⟨w.heap.size, 0, none⟩)) (w' := W) ?_ (hI.same hloc hL _ _ (Cell.grown_refl _) (Draws.upd_at _ _ _)))
      simp only [execOp]
      go_simp
    · obtain rfl := Option.some.inj ho
      have l25 := hd 25 (by simp [State.FxGDep])
      have e25 := (hI.at_ 25 30 rfl l25).get
      rw [show val 25 = _ from hI.gd 25 l25] at e25
      refine Draws.wpOp_of (by rfl) rfl (State.wp_value (v := .pointer (some ⟨w.heap.size, 1, none⟩)) (w' := W) ?_ (hI.same hloc hL _ _ (Cell.grown_refl _) (Draws.upd_at _ _ _)))
      simp only [execOp]
      go_simp
    · obtain rfl := Option.some.inj ho
      have l26 := hd 26 (by simp [State.FxGDep])
      have e26 := (hI.at_ 26 31 rfl l26).get
      rw [show val 26 = _ from hI.gd 26 l26] at e26
      refine Draws.wpOp_of (by rfl) rfl (State.wp_value (v := .slice (some ⟨g1, 0, none⟩) n2 c1) (w' := W) ?_ (hI.same hloc hL _ _ (Cell.grown_refl _) (Draws.upd_at _ _ _)))
      simp only [execOp]
      go_simp
    · obtain rfl := Option.some.inj ho
      have p1 := (hI.old 1 (by kernel_rfl) rfl).get
      refine Draws.wpOp_of (by rfl) rfl (State.wp_value (v := .int .i64 (k : Int)) (w' := W) ?_ (hI.same hloc hL _ _ (Cell.grown_refl _) (Draws.upd_at _ _ _)))
      simp only [execOp]
      go_simp
    · obtain rfl := Option.some.inj ho
      have l28 := hd 28 (by simp [State.FxGDep])
      have e28 := (hI.at_ 28 33 rfl l28).get
      rw [show val 28 = _ from hI.gd 28 l28] at e28
      refine Draws.wpOp_of (by rfl) rfl (State.wp_value (v := .int .i64 ((k : Int) + 1)) (w' := W) ?_ (hI.same hloc hL _ _ (Cell.grown_refl _) (Draws.upd_at _ _ _)))
      simp only [execOp]
      go_simp
    · obtain rfl := Option.some.inj ho
      have l27 := hd 27 (by simp [State.FxGDep])
      have e27 := (hI.at_ 27 32 rfl l27).get
      have l29 := hd 29 (by simp [State.FxGDep])
      have e29 := (hI.at_ 29 34 rfl l29).get
      rw [show val 27 = _ from hI.gd 27 l27] at e27
      rw [show val 29 = _ from hI.gd 29 l29] at e29
      refine Draws.wpOp_of (by rfl) rfl (State.wp_value (v := .pointer (some ⟨g1, ((k + 1) * 3), none⟩)) (w' := W) ?_ (hI.same hloc hL _ _ (Cell.grown_refl _) (Draws.upd_at _ _ _)))
      simp only [execOp]
      go_simp
      intro hh
      exfalso
      omega
    · obtain rfl := Option.some.inj ho
      have l30 := hd 30 (by simp [State.FxGDep])
      have e30 := (hI.at_ 30 35 rfl l30).get
      rw [show val 30 = _ from hI.gd 30 l30] at e30
      refine Draws.wpOp_of (by rfl) rfl (State.wp_value (v := .pointer (some ⟨g1, ((k + 1) * 3 + 1), none⟩)) (w' := W) ?_ (hI.same hloc hL _ _ (Cell.grown_refl _) (Draws.upd_at _ _ _)))
      simp only [execOp]
      go_simp
    · obtain rfl := Option.some.inj ho
      have l31 := hd 31 (by simp [State.FxGDep])
      have e31 := (hI.at_ 31 36 rfl l31).get
      rw [show val 31 = _ from hI.gd 31 l31] at e31
      refine Draws.wpOp_of (by rfl) rfl (State.wp_value (v := .int .i64 lb) (w' := W) ?_ (hI.same hloc hL _ _ (Cell.grown_refl _) (Draws.upd_at _ _ _)))
      simp only [execOp]
      go_simp
    · obtain rfl := Option.some.inj ho
      have l2 := hd 2 (by simp [State.FxGDep])
      have e2 := (hI.at_ 2 7 rfl l2).get
      have l6 := hd 6 (by simp [State.FxGDep])
      have e6 := (hI.at_ 6 11 rfl l6).get
      have l11 := hd 11 (by simp [State.FxGDep])
      have e11 := (hI.at_ 11 16 rfl l11).get
      have l17 := hd 17 (by simp [State.FxGDep])
      have e17 := (hI.at_ 17 22 rfl l17).get
      have l24 := hd 24 (by simp [State.FxGDep])
      have e24 := (hI.at_ 24 29 rfl l24).get
      have l32 := hd 32 (by simp [State.FxGDep])
      have e32 := (hI.at_ 32 37 rfl l32).get
      rw [show val 2 = _ from hI.gd 2 l2] at e2
      rw [show val 6 = _ from hI.gd 6 l6] at e6
      rw [show val 11 = _ from hI.gd 11 l11] at e11
      rw [show val 17 = _ from hI.gd 17 l17] at e17
      rw [show val 24 = _ from hI.gd 24 l24] at e24
      rw [show val 32 = _ from hI.gd 32 l32] at e32
      refine Draws.wpOp_of (by rfl) rfl ?_
      unfold Oper.wp
      simp only [execOp]
      go_simp
      refine Calls.mono (P := Try.prog) (HP.out W) ?_
      rintro e w1 ⟨rfl, hg⟩
      exact hI.same hloc hL _ (.int .i64 F) hg (Draws.upd_at _ _ _)
    · obtain rfl := Option.some.inj ho
      have l33 := hd 33 (by simp [State.FxGDep])
      have e33 := (hI.at_ 33 38 rfl l33).get
      rw [show val 33 = _ from hI.gd 33 l33] at e33
      refine Draws.wpOp_of (by rfl) rfl (State.wp_value (v := .int .i64 F) (w' := W) ?_ (hI.same hloc hL _ _ (Cell.grown_refl _) (Draws.upd_at _ _ _)))
      simp only [execOp]
      go_simp
  case last =>
    intro L a_ W val G hI hall
    have v34 : val 34 = .int .i64 F := hI.gd 34 (hall 34 (by simp))
    have HG := Lib.hid hI.hd.gr
    have ha := hI.frame (by kernel_rfl) hall
    refine hK _ _ ?_
    clear hK hI hall HE HA HB HP HCel
    simp [Draws.frameOf, Draws.slotOf, Act.put, List.range, List.range.loop] at ha
    subst ha
    rw [v34]
    clear v34
    go_wp2_with fail
    go_ret
    exact ⟨rfl, HG.out⟩
end Go.Proofs.Ytnelgnfahkljmaa.State
