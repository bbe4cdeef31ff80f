/- Ledgers: LedgerHolds of both, as contracts: what each answers; nothing that was there is written (written by wip/tools/stledh.py).
   Conditions: at most 2^20 leaves and numbers. -/
import Derived.Test.YtcboogodphpjbaaStLedT
set_option maxRecDepth 100000
namespace Go.Proofs.Ytcboogodphpjbaa.State
open Go.ChangeShapes Go.WideShapes Go.ChangeAt Go.RowKit Go.Joins Go.Proofs.Ytcboogodphpjbaa.Cell Go.Proofs.Ytcboogodphpjbaa.Mesh Go.Proofs.Ytcboogodphpjbaa.Law Go.Proofs.Ytcboogodphpjbaa.Ints Go.Proofs.Ytcboogodphpjbaa.Draws Go.Deep
set_option linter.unusedVariables false

set_option maxHeartbeats 16000000 in
theorem specLedgerHolds_is (R R' : Int) (a1 a2 a3 a4 b1 b2 b3 b4 : Option Addr) (n1 n2 n3 n4 c1 c2 c3 c4 m1 m2 m3 m4 d1 d2 d3 d4 : Nat) (xs xs' : List C3) (ms ts bs ms' ts' bs' : List Int) (p q r s : Int) (w : World) (h : ReadsS w a1 a2 a3 a4 n1 n2 n3 n4 xs ms ts bs) (h1 : n1 ≤ 1048576) (h2 : n2 ≤ 1048576) (h3 : n3 ≤ 1048576) (h4 : n4 ≤ 1048576) (k : ReadsS w b1 b2 b3 b4 m1 m2 m3 m4 xs' ms' ts' bs') (k1 : m1 ≤ 1048576) (k2 : m2 ≤ 1048576) (k3 : m3 ≤ 1048576) (k4 : m4 ≤ 1048576) :
    Calls Try.prog 13 #[.agg #[.int .i64 R, .slice a1 n1 c1, .slice a2 n2 c2, .slice a3 n3 c3, .slice a4 n4 c4], .agg #[.int .i64 R', .slice b1 m1 d1, .slice b2 m2 d2, .slice b3 m3 d3, .slice b4 m4 d4], .agg #[.int .i64 p, .int .i64 q, .int .i64 r, .int .i64 s]] w fun e w' => e = .returned (.bool (holdB (stOk R xs ms ts bs) (stOk R' xs' ms' ts' bs') (if stOk R xs ms ts bs = true then ms.sum else 0) (if stOk R' xs' ms' ts' bs' = true then ms'.sum else 0) (if stOk R xs ms ts bs = true then ts.sum else 0) (if stOk R' xs' ms' ts' bs' = true then ts'.sum else 0) p q r s)) ∧ w.grownBy w' none := by
  have HSA := Lib.hid (show ∀ u, w.grownBy u none → Calls Try.prog 35 #[.agg #[.int .i64 R, .slice a1 n1 c1, .slice a2 n2 c2, .slice a3 n3 c3, .slice a4 n4 c4]] u fun e w' => e = .returned (.bool (stOk R xs ms ts bs)) ∧ u.grownBy w' none from fun u hu => specStateOk_is R _ _ _ _ n1 n2 n3 n4 c1 c2 c3 c4 xs ms ts bs u (h.on hu) h1 h2 h3 h4)
  have HSB := Lib.hid (show ∀ u, w.grownBy u none → Calls Try.prog 35 #[.agg #[.int .i64 R', .slice b1 m1 d1, .slice b2 m2 d2, .slice b3 m3 d3, .slice b4 m4 d4]] u fun e w' => e = .returned (.bool (stOk R' xs' ms' ts' bs')) ∧ u.grownBy w' none from fun u hu => specStateOk_is R' _ _ _ _ m1 m2 m3 m4 d1 d2 d3 d4 xs' ms' ts' bs' u (k.on hu) k1 k2 k3 k4)
  have HMA := Lib.hid (show ∀ u, w.grownBy u none → Calls Try.prog 36 #[.agg #[.int .i64 R, .slice a1 n1 c1, .slice a2 n2 c2, .slice a3 n3 c3, .slice a4 n4 c4]] u fun e w' => e = .returned (.int .i64 (if stOk R xs ms ts bs = true then ms.sum else 0)) ∧ u.grownBy w' none from fun u hu => specTotalMass_is R _ _ _ _ n1 n2 n3 n4 c1 c2 c3 c4 xs ms ts bs u (h.on hu) h1 h2 h3 h4)
  have HMB := Lib.hid (show ∀ u, w.grownBy u none → Calls Try.prog 36 #[.agg #[.int .i64 R', .slice b1 m1 d1, .slice b2 m2 d2, .slice b3 m3 d3, .slice b4 m4 d4]] u fun e w' => e = .returned (.int .i64 (if stOk R' xs' ms' ts' bs' = true then ms'.sum else 0)) ∧ u.grownBy w' none from fun u hu => specTotalMass_is R' _ _ _ _ m1 m2 m3 m4 d1 d2 d3 d4 xs' ms' ts' bs' u (k.on hu) k1 k2 k3 k4)
  have HTA := Lib.hid (show ∀ u, w.grownBy u none → Calls Try.prog 37 #[.agg #[.int .i64 R, .slice a1 n1 c1, .slice a2 n2 c2, .slice a3 n3 c3, .slice a4 n4 c4]] u fun e w' => e = .returned (.int .i64 (if stOk R xs ms ts bs = true then ts.sum else 0)) ∧ u.grownBy w' none from fun u hu => specTotalTracer_is R _ _ _ _ n1 n2 n3 n4 c1 c2 c3 c4 xs ms ts bs u (h.on hu) h1 h2 h3 h4)
  have HTB := Lib.hid (show ∀ u, w.grownBy u none → Calls Try.prog 37 #[.agg #[.int .i64 R', .slice b1 m1 d1, .slice b2 m2 d2, .slice b3 m3 d3, .slice b4 m4 d4]] u fun e w' => e = .returned (.int .i64 (if stOk R' xs' ms' ts' bs' = true then ts'.sum else 0)) ∧ u.grownBy w' none from fun u hu => specTotalTracer_is R' _ _ _ _ m1 m2 m3 m4 d1 d2 d3 d4 xs' ms' ts' bs' u (k.on hu) k1 k2 k3 k4)
  clear h h1 h2 h3 h4 k k1 k2 k3 k4
  generalize (if stOk R xs ms ts bs = true then ms.sum else 0) = U at *
  generalize (if stOk R' xs' ms' ts' bs' = true then ms'.sum else 0) = V at *
  generalize (if stOk R xs ms ts bs = true then ts.sum else 0) = Y at *
  generalize (if stOk R' xs' ms' ts' bs' = true then ts'.sum else 0) = Z at *
  generalize stOk R xs ms ts bs = sA at *
  generalize stOk R' xs' ms' ts' bs' = sB at *
  unfold holdB
  obtain ⟨U1, hU1⟩ : ∃ z, IntKind.i64.wrap (U + p) = z := ⟨_, rfl⟩
  rw [hU1]
  obtain ⟨U2, hU2⟩ : ∃ z, IntKind.i64.wrap (U1 - q) = z := ⟨_, rfl⟩
  rw [hU2]
  obtain ⟨Y1, hY1⟩ : ∃ z, IntKind.i64.wrap (Y + r) = z := ⟨_, rfl⟩
  rw [hY1]
  obtain ⟨Y2, hY2⟩ : ∃ z, IntKind.i64.wrap (Y1 - s) = z := ⟨_, rfl⟩
  rw [hY2]
  obtain ⟨eM, heM⟩ : ∃ b, (V == U2) = b := ⟨_, rfl⟩
  obtain ⟨eT, heT⟩ : ∃ b, (Z == Y2) = b := ⟨_, rfl⟩
  rw [heM, heT]
  have he := (((Held.nil w).box 29 #[.int .i64 R, .slice a1 n1 c1, .slice a2 n2 c2, .slice a3 n3 c3, .slice a4 n4 c4]).box 29 #[.int .i64 R', .slice b1 m1 d1, .slice b2 m2 d2, .slice b3 m3 d3, .slice b4 m4 d4]).box 33 #[.int .i64 p, .int .i64 q, .int .i64 r, .int .i64 s]
  simp only [World.size_alloc] at he
  have HE := Lib.hid he; clear he
  obtain ⟨K, hK⟩ : ∃ K, K = w.heap.size := ⟨_, rfl⟩
  rw [← hK] at HE
  have HKS := Lib.hid hK
  clear hK
  cases sA with
  | false =>
    clear heM heT
    go_enter Try.func13, Try.ntmps13
    go_upto_region 1 with fail
    generalize ((w.alloc (.cells #[.int .i64 R, .slice a1 n1 c1, .slice a2 n2 c2, .slice a3 n3 c3, .slice a4 n4 c4] 29)).alloc (.cells #[.int .i64 R', .slice b1 m1 d1, .slice b2 m2 d2, .slice b3 m3 d3, .slice b4 m4 d4] 29)).alloc (.cells #[.int .i64 p, .int .i64 q, .int .i64 r, .int .i64 s] 33) = W0 at *
    rw [show w.heap.size = K from HKS.out.symm]
    rename_i Kk hKk
    refine Draws.wp_region_tabG (w := w) rfl (by kernel_rfl) (by kernel_rfl) State.HoldADep (by kernel_rfl) [Law.boxG K 29 #[.int .i64 R, .slice a1 n1 c1, .slice a2 n2 c2, .slice a3 n3 c3, .slice a4 n4 c4], Law.boxG (K + 1) 29 #[.int .i64 R', .slice b1 m1 d1, .slice b2 m2 d2, .slice b3 m3 d3, .slice b4 m4 d4], Law.boxG (K + 1 + 1) 33 #[.int .i64 p, .int .i64 q, .int .i64 r, .int .i64 s]] [] (fun _ => Law.emptyG) (State.HoldA R R' a1 a2 a3 a4 b1 b2 b3 b4 n1 n2 n3 n4 c1 c2 c3 c4 m1 m2 m3 m4 d1 d2 d3 d4 K p q r s U V Y Z U1 U2 Y1 Y2) ?start ?step ?last
    case start => exact HE.out.on (Mesh.gr_drew (Cell.grown_refl _))
    case step =>
      clear hKk
      intro L a W val G i o hI ho hL hd
      have hi : i < 33 := by have := (Array.getElem?_eq_some_iff.1 ho).1; simpa using this
      have hloc := State.HoldA_local R R' a1 a2 a3 a4 b1 b2 b3 b4 n1 n2 n3 n4 c1 c2 c3 c4 m1 m2 m3 m4 d1 d2 d3 d4 K p q r s U V Y Z U1 U2 Y1 Y2
      obtain ⟨z0, z1, z2, z3, z4⟩ := Law.box5 (hI.hd.nth 0 rfl)
      obtain ⟨y0, y1, y2, y3, y4⟩ := Law.box5 (hI.hd.nth 1 rfl)
      obtain ⟨x0, x1, x2, x3⟩ := Law.cells4 (hI.hd.nth 2 rfl)
      rcases (show i = 0 ∨ i = 1 ∨ i = 2 ∨ i = 3 ∨ i = 4 ∨ i = 5 ∨ i = 6 ∨ i = 7 ∨ i = 8 ∨ i = 9 ∨ i = 10 ∨ i = 11 ∨ i = 12 ∨ i = 13 ∨ i = 14 ∨ i = 15 ∨ i = 16 ∨ i = 17 ∨ i = 18 ∨ i = 19 ∨ i = 20 ∨ i = 21 ∨ i = 22 ∨ i = 23 ∨ i = 24 ∨ i = 25 ∨ i = 26 ∨ i = 27 ∨ i = 28 ∨ i = 29 ∨ i = 30 ∨ i = 31 ∨ i = 32 by omega) with rfl | rfl | rfl | rfl | rfl | rfl | rfl | rfl | rfl | rfl | rfl | rfl | rfl | rfl | rfl | rfl | rfl | rfl | rfl | rfl | rfl | rfl | rfl | rfl | rfl | rfl | rfl | rfl | rfl | rfl | rfl | rfl | rfl
      · obtain rfl := Option.some.inj ho
        have p3 := (hI.old 3 (by kernel_rfl) rfl).get
        refine Draws.wpOp_of (by rfl) rfl (State.wp_value (v := .agg #[.int .i64 R, .slice a1 n1 c1, .slice a2 n2 c2, .slice a3 n3 c3, .slice a4 n4 c4]) (w' := W) ?_ (hI.same hloc hL _ _ (Cell.grown_refl _) (Draws.upd_at _ _ _)))
        simp only [execOp]
        go_simp
      · obtain rfl := Option.some.inj ho
        have l0 := hd 0 (by simp [State.HoldADep])
        have e0 := (hI.at_ 0 7 rfl l0).get
        rw [show val 0 = _ from hI.gd 0 l0] at e0
        refine Draws.wpOp_of (by rfl) rfl ?_
        unfold Oper.wp
        simp only [execOp]
        go_simp
        refine Calls.mono (P := Try.prog) (HSA.out W hI.hd.gr) ?_
        rintro e w1 ⟨rfl, hg⟩
        exact hI.same hloc hL _ (.bool false) hg (Draws.upd_at _ _ _)
      · obtain rfl := Option.some.inj ho
        have l1 := hd 1 (by simp [State.HoldADep])
        have e1 := (hI.at_ 1 8 rfl l1).get
        rw [show val 1 = _ from hI.gd 1 l1] at e1
        refine Draws.wpOp_of (by rfl) rfl (State.wp_value (v := .bool false) (w' := W) ?_ (hI.same hloc hL _ _ (Cell.grown_refl _) (Draws.upd_at _ _ _)))
        simp only [execOp]
        go_simp
      · obtain rfl := Option.some.inj ho
        have l2 := hd 2 (by simp [State.HoldADep])
        have e2 := (hI.at_ 2 9 rfl l2).get
        rw [show val 2 = _ from hI.gd 2 l2] at e2
        have ag := hI.at_ 2 9 rfl l2
        rw [show val 2 = _ from hI.gd 2 l2] at ag
        have p4 := (hI.old 4 (by kernel_rfl) rfl).get
        exact Draws.wpOp_not (by rfl) (Draws.want_off 2 9 rfl rfl ag (by decide)) (hI.same hloc hL _ undef (Cell.grown_refl _) (Draws.upd_at _ _ _))
      · obtain rfl := Option.some.inj ho
        have l3 := hd 3 (by simp [State.HoldADep])
        have e3 := (hI.at_ 3 10 rfl l3).get
        have l2 := hd 2 (by simp [State.HoldADep])
        have e2 := (hI.at_ 2 9 rfl l2).get
        rw [show val 3 = _ from hI.gd 3 l3] at e3
        rw [show val 2 = _ from hI.gd 2 l2] at e2
        have ag := hI.at_ 2 9 rfl l2
        rw [show val 2 = _ from hI.gd 2 l2] at ag
        exact Draws.wpOp_not (by rfl) (Draws.want_off 2 9 rfl rfl ag (by decide)) (hI.same hloc hL _ undef (Cell.grown_refl _) (Draws.upd_at _ _ _))
      · obtain rfl := Option.some.inj ho
        have l2 := hd 2 (by simp [State.HoldADep])
        have e2 := (hI.at_ 2 9 rfl l2).get
        have l4 := hd 4 (by simp [State.HoldADep])
        have e4 := (hI.at_ 4 11 rfl l4).get
        rw [show val 2 = _ from hI.gd 2 l2] at e2
        rw [show val 4 = _ from hI.gd 4 l4] at e4
        refine Draws.wpOp_of (by rfl) rfl (State.wp_value (v := .bool false) (w' := W) ?_ (hI.same hloc hL _ _ (Cell.grown_refl _) (Draws.upd_at _ _ _)))
        simp only [execOp]
        go_simp
      · obtain rfl := Option.some.inj ho
        have l5 := hd 5 (by simp [State.HoldADep])
        have e5 := (hI.at_ 5 12 rfl l5).get
        rw [show val 5 = _ from hI.gd 5 l5] at e5
        refine Draws.wpOp_of (by rfl) rfl (State.wp_value (v := .bool false) (w' := W) ?_ (hI.same hloc hL _ _ (Cell.grown_refl _) (Draws.upd_at _ _ _)))
        simp only [execOp]
        go_simp
      · obtain rfl := Option.some.inj ho
        have l6 := hd 6 (by simp [State.HoldADep])
        have e6 := (hI.at_ 6 13 rfl l6).get
        rw [show val 6 = _ from hI.gd 6 l6] at e6
        have ag := hI.at_ 6 13 rfl l6
        rw [show val 6 = _ from hI.gd 6 l6] at ag
        have p4 := (hI.old 4 (by kernel_rfl) rfl).get
        exact Draws.wpOp_not (by rfl) (Draws.want_off 6 13 rfl rfl ag (by decide)) (hI.same hloc hL _ undef (Cell.grown_refl _) (Draws.upd_at _ _ _))
      · obtain rfl := Option.some.inj ho
        have l7 := hd 7 (by simp [State.HoldADep])
        have e7 := (hI.at_ 7 14 rfl l7).get
        have l6 := hd 6 (by simp [State.HoldADep])
        have e6 := (hI.at_ 6 13 rfl l6).get
        rw [show val 7 = _ from hI.gd 7 l7] at e7
        rw [show val 6 = _ from hI.gd 6 l6] at e6
        have ag := hI.at_ 6 13 rfl l6
        rw [show val 6 = _ from hI.gd 6 l6] at ag
        exact Draws.wpOp_not (by rfl) (Draws.want_off 6 13 rfl rfl ag (by decide)) (hI.same hloc hL _ undef (Cell.grown_refl _) (Draws.upd_at _ _ _))
      · obtain rfl := Option.some.inj ho
        have l6 := hd 6 (by simp [State.HoldADep])
        have e6 := (hI.at_ 6 13 rfl l6).get
        rw [show val 6 = _ from hI.gd 6 l6] at e6
        have ag := hI.at_ 6 13 rfl l6
        rw [show val 6 = _ from hI.gd 6 l6] at ag
        have p3 := (hI.old 3 (by kernel_rfl) rfl).get
        exact Draws.wpOp_not (by rfl) (Draws.want_off 6 13 rfl rfl ag (by decide)) (hI.same hloc hL _ undef (Cell.grown_refl _) (Draws.upd_at _ _ _))
      · obtain rfl := Option.some.inj ho
        have l9 := hd 9 (by simp [State.HoldADep])
        have e9 := (hI.at_ 9 16 rfl l9).get
        have l6 := hd 6 (by simp [State.HoldADep])
        have e6 := (hI.at_ 6 13 rfl l6).get
        rw [show val 9 = _ from hI.gd 9 l9] at e9
        rw [show val 6 = _ from hI.gd 6 l6] at e6
        have ag := hI.at_ 6 13 rfl l6
        rw [show val 6 = _ from hI.gd 6 l6] at ag
        exact Draws.wpOp_not (by rfl) (Draws.want_off 6 13 rfl rfl ag (by decide)) (hI.same hloc hL _ undef (Cell.grown_refl _) (Draws.upd_at _ _ _))
      · obtain rfl := Option.some.inj ho
        have l6 := hd 6 (by simp [State.HoldADep])
        have e6 := (hI.at_ 6 13 rfl l6).get
        rw [show val 6 = _ from hI.gd 6 l6] at e6
        have ag := hI.at_ 6 13 rfl l6
        rw [show val 6 = _ from hI.gd 6 l6] at ag
        have p5 := (hI.old 5 (by kernel_rfl) rfl).get
        exact Draws.wpOp_not (by rfl) (Draws.want_off 6 13 rfl rfl ag (by decide)) (hI.same hloc hL _ undef (Cell.grown_refl _) (Draws.upd_at _ _ _))
      · obtain rfl := Option.some.inj ho
        have l11 := hd 11 (by simp [State.HoldADep])
        have e11 := (hI.at_ 11 18 rfl l11).get
        have l6 := hd 6 (by simp [State.HoldADep])
        have e6 := (hI.at_ 6 13 rfl l6).get
        rw [show val 11 = _ from hI.gd 11 l11] at e11
        rw [show val 6 = _ from hI.gd 6 l6] at e6
        have ag := hI.at_ 6 13 rfl l6
        rw [show val 6 = _ from hI.gd 6 l6] at ag
        exact Draws.wpOp_not (by rfl) (Draws.want_off 6 13 rfl rfl ag (by decide)) (hI.same hloc hL _ undef (Cell.grown_refl _) (Draws.upd_at _ _ _))
      · obtain rfl := Option.some.inj ho
        have l10 := hd 10 (by simp [State.HoldADep])
        have e10 := (hI.at_ 10 17 rfl l10).get
        have l12 := hd 12 (by simp [State.HoldADep])
        have e12 := (hI.at_ 12 19 rfl l12).get
        have l6 := hd 6 (by simp [State.HoldADep])
        have e6 := (hI.at_ 6 13 rfl l6).get
        rw [show val 10 = _ from hI.gd 10 l10] at e10
        rw [show val 12 = _ from hI.gd 12 l12] at e12
        rw [show val 6 = _ from hI.gd 6 l6] at e6
        have ag := hI.at_ 6 13 rfl l6
        rw [show val 6 = _ from hI.gd 6 l6] at ag
        exact Draws.wpOp_not (by rfl) (Draws.want_off 6 13 rfl rfl ag (by decide)) (hI.same hloc hL _ undef (Cell.grown_refl _) (Draws.upd_at _ _ _))
      · obtain rfl := Option.some.inj ho
        have l6 := hd 6 (by simp [State.HoldADep])
        have e6 := (hI.at_ 6 13 rfl l6).get
        rw [show val 6 = _ from hI.gd 6 l6] at e6
        have ag := hI.at_ 6 13 rfl l6
        rw [show val 6 = _ from hI.gd 6 l6] at ag
        have p5 := (hI.old 5 (by kernel_rfl) rfl).get
        exact Draws.wpOp_not (by rfl) (Draws.want_off 6 13 rfl rfl ag (by decide)) (hI.same hloc hL _ undef (Cell.grown_refl _) (Draws.upd_at _ _ _))
      · obtain rfl := Option.some.inj ho
        have l14 := hd 14 (by simp [State.HoldADep])
        have e14 := (hI.at_ 14 21 rfl l14).get
        have l6 := hd 6 (by simp [State.HoldADep])
        have e6 := (hI.at_ 6 13 rfl l6).get
        rw [show val 14 = _ from hI.gd 14 l14] at e14
        rw [show val 6 = _ from hI.gd 6 l6] at e6
        have ag := hI.at_ 6 13 rfl l6
        rw [show val 6 = _ from hI.gd 6 l6] at ag
        exact Draws.wpOp_not (by rfl) (Draws.want_off 6 13 rfl rfl ag (by decide)) (hI.same hloc hL _ undef (Cell.grown_refl _) (Draws.upd_at _ _ _))
      · obtain rfl := Option.some.inj ho
        have l13 := hd 13 (by simp [State.HoldADep])
        have e13 := (hI.at_ 13 20 rfl l13).get
        have l15 := hd 15 (by simp [State.HoldADep])
        have e15 := (hI.at_ 15 22 rfl l15).get
        have l6 := hd 6 (by simp [State.HoldADep])
        have e6 := (hI.at_ 6 13 rfl l6).get
        rw [show val 13 = _ from hI.gd 13 l13] at e13
        rw [show val 15 = _ from hI.gd 15 l15] at e15
        rw [show val 6 = _ from hI.gd 6 l6] at e6
        have ag := hI.at_ 6 13 rfl l6
        rw [show val 6 = _ from hI.gd 6 l6] at ag
        exact Draws.wpOp_not (by rfl) (Draws.want_off 6 13 rfl rfl ag (by decide)) (hI.same hloc hL _ undef (Cell.grown_refl _) (Draws.upd_at _ _ _))
      · obtain rfl := Option.some.inj ho
        have l8 := hd 8 (by simp [State.HoldADep])
        have e8 := (hI.at_ 8 15 rfl l8).get
        have l16 := hd 16 (by simp [State.HoldADep])
        have e16 := (hI.at_ 16 23 rfl l16).get
        have l6 := hd 6 (by simp [State.HoldADep])
        have e6 := (hI.at_ 6 13 rfl l6).get
        rw [show val 8 = _ from hI.gd 8 l8] at e8
        rw [show val 16 = _ from hI.gd 16 l16] at e16
        rw [show val 6 = _ from hI.gd 6 l6] at e6
        have ag := hI.at_ 6 13 rfl l6
        rw [show val 6 = _ from hI.gd 6 l6] at ag
        exact Draws.wpOp_not (by rfl) (Draws.want_off 6 13 rfl rfl ag (by decide)) (hI.same hloc hL _ undef (Cell.grown_refl _) (Draws.upd_at _ _ _))
      · obtain rfl := Option.some.inj ho
        have l6 := hd 6 (by simp [State.HoldADep])
        have e6 := (hI.at_ 6 13 rfl l6).get
        have l17 := hd 17 (by simp [State.HoldADep])
        have e17 := (hI.at_ 17 24 rfl l17).get
        rw [show val 6 = _ from hI.gd 6 l6] at e6
        rw [show val 17 = _ from hI.gd 17 l17] at e17
        refine Draws.wpOp_of (by rfl) rfl (State.wp_value (v := .bool false) (w' := W) ?_ (hI.same hloc hL _ _ (Cell.grown_refl _) (Draws.upd_at _ _ _)))
        simp only [execOp]
        go_simp
      · obtain rfl := Option.some.inj ho
        have l18 := hd 18 (by simp [State.HoldADep])
        have e18 := (hI.at_ 18 25 rfl l18).get
        rw [show val 18 = _ from hI.gd 18 l18] at e18
        refine Draws.wpOp_of (by rfl) rfl (State.wp_value (v := .bool false) (w' := W) ?_ (hI.same hloc hL _ _ (Cell.grown_refl _) (Draws.upd_at _ _ _)))
        simp only [execOp]
        go_simp
      · obtain rfl := Option.some.inj ho
        have l19 := hd 19 (by simp [State.HoldADep])
        have e19 := (hI.at_ 19 26 rfl l19).get
        rw [show val 19 = _ from hI.gd 19 l19] at e19
        have ag := hI.at_ 19 26 rfl l19
        rw [show val 19 = _ from hI.gd 19 l19] at ag
        have p4 := (hI.old 4 (by kernel_rfl) rfl).get
        exact Draws.wpOp_not (by rfl) (Draws.want_off 19 26 rfl rfl ag (by decide)) (hI.same hloc hL _ undef (Cell.grown_refl _) (Draws.upd_at _ _ _))
      · obtain rfl := Option.some.inj ho
        have l20 := hd 20 (by simp [State.HoldADep])
        have e20 := (hI.at_ 20 27 rfl l20).get
        have l19 := hd 19 (by simp [State.HoldADep])
        have e19 := (hI.at_ 19 26 rfl l19).get
        rw [show val 20 = _ from hI.gd 20 l20] at e20
        rw [show val 19 = _ from hI.gd 19 l19] at e19
        have ag := hI.at_ 19 26 rfl l19
        rw [show val 19 = _ from hI.gd 19 l19] at ag
        exact Draws.wpOp_not (by rfl) (Draws.want_off 19 26 rfl rfl ag (by decide)) (hI.same hloc hL _ undef (Cell.grown_refl _) (Draws.upd_at _ _ _))
      · obtain rfl := Option.some.inj ho
        have l19 := hd 19 (by simp [State.HoldADep])
        have e19 := (hI.at_ 19 26 rfl l19).get
        rw [show val 19 = _ from hI.gd 19 l19] at e19
        have ag := hI.at_ 19 26 rfl l19
        rw [show val 19 = _ from hI.gd 19 l19] at ag
        have p3 := (hI.old 3 (by kernel_rfl) rfl).get
        exact Draws.wpOp_not (by rfl) (Draws.want_off 19 26 rfl rfl ag (by decide)) (hI.same hloc hL _ undef (Cell.grown_refl _) (Draws.upd_at _ _ _))
      · obtain rfl := Option.some.inj ho
        have l22 := hd 22 (by simp [State.HoldADep])
        have e22 := (hI.at_ 22 29 rfl l22).get
        have l19 := hd 19 (by simp [State.HoldADep])
        have e19 := (hI.at_ 19 26 rfl l19).get
        rw [show val 22 = _ from hI.gd 22 l22] at e22
        rw [show val 19 = _ from hI.gd 19 l19] at e19
        have ag := hI.at_ 19 26 rfl l19
        rw [show val 19 = _ from hI.gd 19 l19] at ag
        exact Draws.wpOp_not (by rfl) (Draws.want_off 19 26 rfl rfl ag (by decide)) (hI.same hloc hL _ undef (Cell.grown_refl _) (Draws.upd_at _ _ _))
      · obtain rfl := Option.some.inj ho
        have l19 := hd 19 (by simp [State.HoldADep])
        have e19 := (hI.at_ 19 26 rfl l19).get
        rw [show val 19 = _ from hI.gd 19 l19] at e19
        have ag := hI.at_ 19 26 rfl l19
        rw [show val 19 = _ from hI.gd 19 l19] at ag
        have p5 := (hI.old 5 (by kernel_rfl) rfl).get
        exact Draws.wpOp_not (by rfl) (Draws.want_off 19 26 rfl rfl ag (by decide)) (hI.same hloc hL _ undef (Cell.grown_refl _) (Draws.upd_at _ _ _))
      · obtain rfl := Option.some.inj ho
        have l24 := hd 24 (by simp [State.HoldADep])
        have e24 := (hI.at_ 24 31 rfl l24).get
        have l19 := hd 19 (by simp [State.HoldADep])
        have e19 := (hI.at_ 19 26 rfl l19).get
        rw [show val 24 = _ from hI.gd 24 l24] at e24
        rw [show val 19 = _ from hI.gd 19 l19] at e19
        have ag := hI.at_ 19 26 rfl l19
        rw [show val 19 = _ from hI.gd 19 l19] at ag
        exact Draws.wpOp_not (by rfl) (Draws.want_off 19 26 rfl rfl ag (by decide)) (hI.same hloc hL _ undef (Cell.grown_refl _) (Draws.upd_at _ _ _))
      · obtain rfl := Option.some.inj ho
        have l23 := hd 23 (by simp [State.HoldADep])
        have e23 := (hI.at_ 23 30 rfl l23).get
        have l25 := hd 25 (by simp [State.HoldADep])
        have e25 := (hI.at_ 25 32 rfl l25).get
        have l19 := hd 19 (by simp [State.HoldADep])
        have e19 := (hI.at_ 19 26 rfl l19).get
        rw [show val 23 = _ from hI.gd 23 l23] at e23
        rw [show val 25 = _ from hI.gd 25 l25] at e25
        rw [show val 19 = _ from hI.gd 19 l19] at e19
        have ag := hI.at_ 19 26 rfl l19
        rw [show val 19 = _ from hI.gd 19 l19] at ag
        exact Draws.wpOp_not (by rfl) (Draws.want_off 19 26 rfl rfl ag (by decide)) (hI.same hloc hL _ undef (Cell.grown_refl _) (Draws.upd_at _ _ _))
      · obtain rfl := Option.some.inj ho
        have l19 := hd 19 (by simp [State.HoldADep])
        have e19 := (hI.at_ 19 26 rfl l19).get
        rw [show val 19 = _ from hI.gd 19 l19] at e19
        have ag := hI.at_ 19 26 rfl l19
        rw [show val 19 = _ from hI.gd 19 l19] at ag
        have p5 := (hI.old 5 (by kernel_rfl) rfl).get
        exact Draws.wpOp_not (by rfl) (Draws.want_off 19 26 rfl rfl ag (by decide)) (hI.same hloc hL _ undef (Cell.grown_refl _) (Draws.upd_at _ _ _))
      · obtain rfl := Option.some.inj ho
        have l27 := hd 27 (by simp [State.HoldADep])
        have e27 := (hI.at_ 27 34 rfl l27).get
        have l19 := hd 19 (by simp [State.HoldADep])
        have e19 := (hI.at_ 19 26 rfl l19).get
        rw [show val 27 = _ from hI.gd 27 l27] at e27
        rw [show val 19 = _ from hI.gd 19 l19] at e19
        have ag := hI.at_ 19 26 rfl l19
        rw [show val 19 = _ from hI.gd 19 l19] at ag
        exact Draws.wpOp_not (by rfl) (Draws.want_off 19 26 rfl rfl ag (by decide)) (hI.same hloc hL _ undef (Cell.grown_refl _) (Draws.upd_at _ _ _))
      · obtain rfl := Option.some.inj ho
        have l26 := hd 26 (by simp [State.HoldADep])
        have e26 := (hI.at_ 26 33 rfl l26).get
        have l28 := hd 28 (by simp [State.HoldADep])
        have e28 := (hI.at_ 28 35 rfl l28).get
        have l19 := hd 19 (by simp [State.HoldADep])
        have e19 := (hI.at_ 19 26 rfl l19).get
        rw [show val 26 = _ from hI.gd 26 l26] at e26
        rw [show val 28 = _ from hI.gd 28 l28] at e28
        rw [show val 19 = _ from hI.gd 19 l19] at e19
        have ag := hI.at_ 19 26 rfl l19
        rw [show val 19 = _ from hI.gd 19 l19] at ag
        exact Draws.wpOp_not (by rfl) (Draws.want_off 19 26 rfl rfl ag (by decide)) (hI.same hloc hL _ undef (Cell.grown_refl _) (Draws.upd_at _ _ _))
      · obtain rfl := Option.some.inj ho
        have l21 := hd 21 (by simp [State.HoldADep])
        have e21 := (hI.at_ 21 28 rfl l21).get
        have l29 := hd 29 (by simp [State.HoldADep])
        have e29 := (hI.at_ 29 36 rfl l29).get
        have l19 := hd 19 (by simp [State.HoldADep])
        have e19 := (hI.at_ 19 26 rfl l19).get
        rw [show val 21 = _ from hI.gd 21 l21] at e21
        rw [show val 29 = _ from hI.gd 29 l29] at e29
        rw [show val 19 = _ from hI.gd 19 l19] at e19
        have ag := hI.at_ 19 26 rfl l19
        rw [show val 19 = _ from hI.gd 19 l19] at ag
        exact Draws.wpOp_not (by rfl) (Draws.want_off 19 26 rfl rfl ag (by decide)) (hI.same hloc hL _ undef (Cell.grown_refl _) (Draws.upd_at _ _ _))
      · obtain rfl := Option.some.inj ho
        have l19 := hd 19 (by simp [State.HoldADep])
        have e19 := (hI.at_ 19 26 rfl l19).get
        have l30 := hd 30 (by simp [State.HoldADep])
        have e30 := (hI.at_ 30 37 rfl l30).get
        rw [show val 19 = _ from hI.gd 19 l19] at e19
        rw [show val 30 = _ from hI.gd 30 l30] at e30
        refine Draws.wpOp_of (by rfl) rfl (State.wp_value (v := .bool false) (w' := W) ?_ (hI.same hloc hL _ _ (Cell.grown_refl _) (Draws.upd_at _ _ _)))
        simp only [execOp]
        go_simp
      · obtain rfl := Option.some.inj ho
        have l31 := hd 31 (by simp [State.HoldADep])
        have e31 := (hI.at_ 31 38 rfl l31).get
        rw [show val 31 = _ from hI.gd 31 l31] at e31
        refine Draws.wpOp_of (by rfl) rfl (State.wp_value (v := .bool false) (w' := W) ?_ (hI.same hloc hL _ _ (Cell.grown_refl _) (Draws.upd_at _ _ _)))
        simp only [execOp]
        go_simp
    case last =>
      intro L a W val G hI hall
      have v32 : val 32 = .bool false := hI.gd 32 (hall 32 (by simp))
      have hgr : w.grownBy W none := hI.hd.gr
      have ha := hI.frame (by kernel_rfl) hall
      refine hKk _ _ ?_
      clear hKk hI hall HSA HSB HMA HMB HTA HTB HE
      simp [Draws.frameOf, Draws.slotOf, Act.put, List.range, List.range.loop] at ha
      subst ha
      rw [v32]
      clear v32
      go_wp2_with fail
      go_ret
      exact ⟨rfl, hgr⟩
  | true =>
  cases sB with
  | false =>
    clear heM heT
    go_enter Try.func13, Try.ntmps13
    go_upto_region 1 with fail
    generalize ((w.alloc (.cells #[.int .i64 R, .slice a1 n1 c1, .slice a2 n2 c2, .slice a3 n3 c3, .slice a4 n4 c4] 29)).alloc (.cells #[.int .i64 R', .slice b1 m1 d1, .slice b2 m2 d2, .slice b3 m3 d3, .slice b4 m4 d4] 29)).alloc (.cells #[.int .i64 p, .int .i64 q, .int .i64 r, .int .i64 s] 33) = W0 at *
    rw [show w.heap.size = K from HKS.out.symm]
    rename_i Kk hKk
    refine Draws.wp_region_tabG (w := w) rfl (by kernel_rfl) (by kernel_rfl) State.HoldBDep (by kernel_rfl) [Law.boxG K 29 #[.int .i64 R, .slice a1 n1 c1, .slice a2 n2 c2, .slice a3 n3 c3, .slice a4 n4 c4], Law.boxG (K + 1) 29 #[.int .i64 R', .slice b1 m1 d1, .slice b2 m2 d2, .slice b3 m3 d3, .slice b4 m4 d4], Law.boxG (K + 1 + 1) 33 #[.int .i64 p, .int .i64 q, .int .i64 r, .int .i64 s]] [] (fun _ => Law.emptyG) (State.HoldB R R' a1 a2 a3 a4 b1 b2 b3 b4 n1 n2 n3 n4 c1 c2 c3 c4 m1 m2 m3 m4 d1 d2 d3 d4 K p q r s U V Y Z U1 U2 Y1 Y2) ?start ?step ?last
    case start => exact HE.out.on (Mesh.gr_drew (Cell.grown_refl _))
    case step =>
      clear hKk
      intro L a W val G i o hI ho hL hd
      have hi : i < 33 := by have := (Array.getElem?_eq_some_iff.1 ho).1; simpa using this
      have hloc := State.HoldB_local R R' a1 a2 a3 a4 b1 b2 b3 b4 n1 n2 n3 n4 c1 c2 c3 c4 m1 m2 m3 m4 d1 d2 d3 d4 K p q r s U V Y Z U1 U2 Y1 Y2
      obtain ⟨z0, z1, z2, z3, z4⟩ := Law.box5 (hI.hd.nth 0 rfl)
      obtain ⟨y0, y1, y2, y3, y4⟩ := Law.box5 (hI.hd.nth 1 rfl)
      obtain ⟨x0, x1, x2, x3⟩ := Law.cells4 (hI.hd.nth 2 rfl)
      rcases (show i = 0 ∨ i = 1 ∨ i = 2 ∨ i = 3 ∨ i = 4 ∨ i = 5 ∨ i = 6 ∨ i = 7 ∨ i = 8 ∨ i = 9 ∨ i = 10 ∨ i = 11 ∨ i = 12 ∨ i = 13 ∨ i = 14 ∨ i = 15 ∨ i = 16 ∨ i = 17 ∨ i = 18 ∨ i = 19 ∨ i = 20 ∨ i = 21 ∨ i = 22 ∨ i = 23 ∨ i = 24 ∨ i = 25 ∨ i = 26 ∨ i = 27 ∨ i = 28 ∨ i = 29 ∨ i = 30 ∨ i = 31 ∨ i = 32 by omega) with rfl | rfl | rfl | rfl | rfl | rfl | rfl | rfl | rfl | rfl | rfl | rfl | rfl | rfl | rfl | rfl | rfl | rfl | rfl | rfl | rfl | rfl | rfl | rfl | rfl | rfl | rfl | rfl | rfl | rfl | rfl | rfl | rfl
      · obtain rfl := Option.some.inj ho
        have p3 := (hI.old 3 (by kernel_rfl) rfl).get
        refine Draws.wpOp_of (by rfl) rfl (State.wp_value (v := .agg #[.int .i64 R, .slice a1 n1 c1, .slice a2 n2 c2, .slice a3 n3 c3, .slice a4 n4 c4]) (w' := W) ?_ (hI.same hloc hL _ _ (Cell.grown_refl _) (Draws.upd_at _ _ _)))
        simp only [execOp]
        go_simp
      · obtain rfl := Option.some.inj ho
        have l0 := hd 0 (by simp [State.HoldBDep])
        have e0 := (hI.at_ 0 7 rfl l0).get
        rw [show val 0 = _ from hI.gd 0 l0] at e0
        refine Draws.wpOp_of (by rfl) rfl ?_
        unfold Oper.wp
        simp only [execOp]
        go_simp
        refine Calls.mono (P := Try.prog) (HSA.out W hI.hd.gr) ?_
        rintro e w1 ⟨rfl, hg⟩
        exact hI.same hloc hL _ (.bool true) hg (Draws.upd_at _ _ _)
      · obtain rfl := Option.some.inj ho
        have l1 := hd 1 (by simp [State.HoldBDep])
        have e1 := (hI.at_ 1 8 rfl l1).get
        rw [show val 1 = _ from hI.gd 1 l1] at e1
        refine Draws.wpOp_of (by rfl) rfl (State.wp_value (v := .bool true) (w' := W) ?_ (hI.same hloc hL _ _ (Cell.grown_refl _) (Draws.upd_at _ _ _)))
        simp only [execOp]
        go_simp
      · obtain rfl := Option.some.inj ho
        have l2 := hd 2 (by simp [State.HoldBDep])
        have e2 := (hI.at_ 2 9 rfl l2).get
        rw [show val 2 = _ from hI.gd 2 l2] at e2
        have ag := hI.at_ 2 9 rfl l2
        rw [show val 2 = _ from hI.gd 2 l2] at ag
        have p4 := (hI.old 4 (by kernel_rfl) rfl).get
        refine Draws.wpOp_want (by rfl) (Draws.want_at 2 9 rfl rfl ag) (State.wp_value (v := .agg #[.int .i64 R', .slice b1 m1 d1, .slice b2 m2 d2, .slice b3 m3 d3, .slice b4 m4 d4]) (w' := W) ?_ (hI.same hloc hL _ _ (Cell.grown_refl _) (Draws.upd_at _ _ _)))
        simp only [execOp]
        go_simp
      · obtain rfl := Option.some.inj ho
        have l3 := hd 3 (by simp [State.HoldBDep])
        have e3 := (hI.at_ 3 10 rfl l3).get
        have l2 := hd 2 (by simp [State.HoldBDep])
        have e2 := (hI.at_ 2 9 rfl l2).get
        rw [show val 3 = _ from hI.gd 3 l3] at e3
        rw [show val 2 = _ from hI.gd 2 l2] at e2
        have ag := hI.at_ 2 9 rfl l2
        rw [show val 2 = _ from hI.gd 2 l2] at ag
        refine Draws.wpOp_want (by rfl) (Draws.want_at 2 9 rfl rfl ag) ?_
        unfold Oper.wp
        simp only [execOp]
        go_simp
        refine Calls.mono (P := Try.prog) (HSB.out W hI.hd.gr) ?_
        rintro e w1 ⟨rfl, hg⟩
        exact hI.same hloc hL _ (.bool false) hg (Draws.upd_at _ _ _)
      · obtain rfl := Option.some.inj ho
        have l2 := hd 2 (by simp [State.HoldBDep])
        have e2 := (hI.at_ 2 9 rfl l2).get
        have l4 := hd 4 (by simp [State.HoldBDep])
        have e4 := (hI.at_ 4 11 rfl l4).get
        rw [show val 2 = _ from hI.gd 2 l2] at e2
        rw [show val 4 = _ from hI.gd 4 l4] at e4
        refine Draws.wpOp_of (by rfl) rfl (State.wp_value (v := .bool false) (w' := W) ?_ (hI.same hloc hL _ _ (Cell.grown_refl _) (Draws.upd_at _ _ _)))
        simp only [execOp]
        go_simp
      · obtain rfl := Option.some.inj ho
        have l5 := hd 5 (by simp [State.HoldBDep])
        have e5 := (hI.at_ 5 12 rfl l5).get
        rw [show val 5 = _ from hI.gd 5 l5] at e5
        refine Draws.wpOp_of (by rfl) rfl (State.wp_value (v := .bool false) (w' := W) ?_ (hI.same hloc hL _ _ (Cell.grown_refl _) (Draws.upd_at _ _ _)))
        simp only [execOp]
        go_simp
      · obtain rfl := Option.some.inj ho
        have l6 := hd 6 (by simp [State.HoldBDep])
        have e6 := (hI.at_ 6 13 rfl l6).get
        rw [show val 6 = _ from hI.gd 6 l6] at e6
        have ag := hI.at_ 6 13 rfl l6
        rw [show val 6 = _ from hI.gd 6 l6] at ag
        have p4 := (hI.old 4 (by kernel_rfl) rfl).get
        exact Draws.wpOp_not (by rfl) (Draws.want_off 6 13 rfl rfl ag (by decide)) (hI.same hloc hL _ undef (Cell.grown_refl _) (Draws.upd_at _ _ _))
      · obtain rfl := Option.some.inj ho
        have l7 := hd 7 (by simp [State.HoldBDep])
        have e7 := (hI.at_ 7 14 rfl l7).get
        have l6 := hd 6 (by simp [State.HoldBDep])
        have e6 := (hI.at_ 6 13 rfl l6).get
        rw [show val 7 = _ from hI.gd 7 l7] at e7
        rw [show val 6 = _ from hI.gd 6 l6] at e6
        have ag := hI.at_ 6 13 rfl l6
        rw [show val 6 = _ from hI.gd 6 l6] at ag
        exact Draws.wpOp_not (by rfl) (Draws.want_off 6 13 rfl rfl ag (by decide)) (hI.same hloc hL _ undef (Cell.grown_refl _) (Draws.upd_at _ _ _))
      · obtain rfl := Option.some.inj ho
        have l6 := hd 6 (by simp [State.HoldBDep])
        have e6 := (hI.at_ 6 13 rfl l6).get
        rw [show val 6 = _ from hI.gd 6 l6] at e6
        have ag := hI.at_ 6 13 rfl l6
        rw [show val 6 = _ from hI.gd 6 l6] at ag
        have p3 := (hI.old 3 (by kernel_rfl) rfl).get
        exact Draws.wpOp_not (by rfl) (Draws.want_off 6 13 rfl rfl ag (by decide)) (hI.same hloc hL _ undef (Cell.grown_refl _) (Draws.upd_at _ _ _))
      · obtain rfl := Option.some.inj ho
        have l9 := hd 9 (by simp [State.HoldBDep])
        have e9 := (hI.at_ 9 16 rfl l9).get
        have l6 := hd 6 (by simp [State.HoldBDep])
        have e6 := (hI.at_ 6 13 rfl l6).get
        rw [show val 9 = _ from hI.gd 9 l9] at e9
        rw [show val 6 = _ from hI.gd 6 l6] at e6
        have ag := hI.at_ 6 13 rfl l6
        rw [show val 6 = _ from hI.gd 6 l6] at ag
        exact Draws.wpOp_not (by rfl) (Draws.want_off 6 13 rfl rfl ag (by decide)) (hI.same hloc hL _ undef (Cell.grown_refl _) (Draws.upd_at _ _ _))
      · obtain rfl := Option.some.inj ho
        have l6 := hd 6 (by simp [State.HoldBDep])
        have e6 := (hI.at_ 6 13 rfl l6).get
        rw [show val 6 = _ from hI.gd 6 l6] at e6
        have ag := hI.at_ 6 13 rfl l6
        rw [show val 6 = _ from hI.gd 6 l6] at ag
        have p5 := (hI.old 5 (by kernel_rfl) rfl).get
        exact Draws.wpOp_not (by rfl) (Draws.want_off 6 13 rfl rfl ag (by decide)) (hI.same hloc hL _ undef (Cell.grown_refl _) (Draws.upd_at _ _ _))
      · obtain rfl := Option.some.inj ho
        have l11 := hd 11 (by simp [State.HoldBDep])
        have e11 := (hI.at_ 11 18 rfl l11).get
        have l6 := hd 6 (by simp [State.HoldBDep])
        have e6 := (hI.at_ 6 13 rfl l6).get
        rw [show val 11 = _ from hI.gd 11 l11] at e11
        rw [show val 6 = _ from hI.gd 6 l6] at e6
        have ag := hI.at_ 6 13 rfl l6
        rw [show val 6 = _ from hI.gd 6 l6] at ag
        exact Draws.wpOp_not (by rfl) (Draws.want_off 6 13 rfl rfl ag (by decide)) (hI.same hloc hL _ undef (Cell.grown_refl _) (Draws.upd_at _ _ _))
      · obtain rfl := Option.some.inj ho
        have l10 := hd 10 (by simp [State.HoldBDep])
        have e10 := (hI.at_ 10 17 rfl l10).get
        have l12 := hd 12 (by simp [State.HoldBDep])
        have e12 := (hI.at_ 12 19 rfl l12).get
        have l6 := hd 6 (by simp [State.HoldBDep])
        have e6 := (hI.at_ 6 13 rfl l6).get
        rw [show val 10 = _ from hI.gd 10 l10] at e10
        rw [show val 12 = _ from hI.gd 12 l12] at e12
        rw [show val 6 = _ from hI.gd 6 l6] at e6
        have ag := hI.at_ 6 13 rfl l6
        rw [show val 6 = _ from hI.gd 6 l6] at ag
        exact Draws.wpOp_not (by rfl) (Draws.want_off 6 13 rfl rfl ag (by decide)) (hI.same hloc hL _ undef (Cell.grown_refl _) (Draws.upd_at _ _ _))
      · obtain rfl := Option.some.inj ho
        have l6 := hd 6 (by simp [State.HoldBDep])
        have e6 := (hI.at_ 6 13 rfl l6).get
        rw [show val 6 = _ from hI.gd 6 l6] at e6
        have ag := hI.at_ 6 13 rfl l6
        rw [show val 6 = _ from hI.gd 6 l6] at ag
        have p5 := (hI.old 5 (by kernel_rfl) rfl).get
        exact Draws.wpOp_not (by rfl) (Draws.want_off 6 13 rfl rfl ag (by decide)) (hI.same hloc hL _ undef (Cell.grown_refl _) (Draws.upd_at _ _ _))
      · obtain rfl := Option.some.inj ho
        have l14 := hd 14 (by simp [State.HoldBDep])
        have e14 := (hI.at_ 14 21 rfl l14).get
        have l6 := hd 6 (by simp [State.HoldBDep])
        have e6 := (hI.at_ 6 13 rfl l6).get
        rw [show val 14 = _ from hI.gd 14 l14] at e14
        rw [show val 6 = _ from hI.gd 6 l6] at e6
        have ag := hI.at_ 6 13 rfl l6
        rw [show val 6 = _ from hI.gd 6 l6] at ag
        exact Draws.wpOp_not (by rfl) (Draws.want_off 6 13 rfl rfl ag (by decide)) (hI.same hloc hL _ undef (Cell.grown_refl _) (Draws.upd_at _ _ _))
      · obtain rfl := Option.some.inj ho
        have l13 := hd 13 (by simp [State.HoldBDep])
        have e13 := (hI.at_ 13 20 rfl l13).get
        have l15 := hd 15 (by simp [State.HoldBDep])
        have e15 := (hI.at_ 15 22 rfl l15).get
        have l6 := hd 6 (by simp [State.HoldBDep])
        have e6 := (hI.at_ 6 13 rfl l6).get
        rw [show val 13 = _ from hI.gd 13 l13] at e13
        rw [show val 15 = _ from hI.gd 15 l15] at e15
        rw [show val 6 = _ from hI.gd 6 l6] at e6
        have ag := hI.at_ 6 13 rfl l6
        rw [show val 6 = _ from hI.gd 6 l6] at ag
        exact Draws.wpOp_not (by rfl) (Draws.want_off 6 13 rfl rfl ag (by decide)) (hI.same hloc hL _ undef (Cell.grown_refl _) (Draws.upd_at _ _ _))
      · obtain rfl := Option.some.inj ho
        have l8 := hd 8 (by simp [State.HoldBDep])
        have e8 := (hI.at_ 8 15 rfl l8).get
        have l16 := hd 16 (by simp [State.HoldBDep])
        have e16 := (hI.at_ 16 23 rfl l16).get
        have l6 := hd 6 (by simp [State.HoldBDep])
        have e6 := (hI.at_ 6 13 rfl l6).get
        rw [show val 8 = _ from hI.gd 8 l8] at e8
        rw [show val 16 = _ from hI.gd 16 l16] at e16
        rw [show val 6 = _ from hI.gd 6 l6] at e6
        have ag := hI.at_ 6 13 rfl l6
        rw [show val 6 = _ from hI.gd 6 l6] at ag
        exact Draws.wpOp_not (by rfl) (Draws.want_off 6 13 rfl rfl ag (by decide)) (hI.same hloc hL _ undef (Cell.grown_refl _) (Draws.upd_at _ _ _))
      · obtain rfl := Option.some.inj ho
        have l6 := hd 6 (by simp [State.HoldBDep])
        have e6 := (hI.at_ 6 13 rfl l6).get
        have l17 := hd 17 (by simp [State.HoldBDep])
        have e17 := (hI.at_ 17 24 rfl l17).get
        rw [show val 6 = _ from hI.gd 6 l6] at e6
        rw [show val 17 = _ from hI.gd 17 l17] at e17
        refine Draws.wpOp_of (by rfl) rfl (State.wp_value (v := .bool false) (w' := W) ?_ (hI.same hloc hL _ _ (Cell.grown_refl _) (Draws.upd_at _ _ _)))
        simp only [execOp]
        go_simp
      · obtain rfl := Option.some.inj ho
        have l18 := hd 18 (by simp [State.HoldBDep])
        have e18 := (hI.at_ 18 25 rfl l18).get
        rw [show val 18 = _ from hI.gd 18 l18] at e18
        refine Draws.wpOp_of (by rfl) rfl (State.wp_value (v := .bool false) (w' := W) ?_ (hI.same hloc hL _ _ (Cell.grown_refl _) (Draws.upd_at _ _ _)))
        simp only [execOp]
        go_simp
      · obtain rfl := Option.some.inj ho
        have l19 := hd 19 (by simp [State.HoldBDep])
        have e19 := (hI.at_ 19 26 rfl l19).get
        rw [show val 19 = _ from hI.gd 19 l19] at e19
        have ag := hI.at_ 19 26 rfl l19
        rw [show val 19 = _ from hI.gd 19 l19] at ag
        have p4 := (hI.old 4 (by kernel_rfl) rfl).get
        exact Draws.wpOp_not (by rfl) (Draws.want_off 19 26 rfl rfl ag (by decide)) (hI.same hloc hL _ undef (Cell.grown_refl _) (Draws.upd_at _ _ _))
      · obtain rfl := Option.some.inj ho
        have l20 := hd 20 (by simp [State.HoldBDep])
        have e20 := (hI.at_ 20 27 rfl l20).get
        have l19 := hd 19 (by simp [State.HoldBDep])
        have e19 := (hI.at_ 19 26 rfl l19).get
        rw [show val 20 = _ from hI.gd 20 l20] at e20
        rw [show val 19 = _ from hI.gd 19 l19] at e19
        have ag := hI.at_ 19 26 rfl l19
        rw [show val 19 = _ from hI.gd 19 l19] at ag
        exact Draws.wpOp_not (by rfl) (Draws.want_off 19 26 rfl rfl ag (by decide)) (hI.same hloc hL _ undef (Cell.grown_refl _) (Draws.upd_at _ _ _))
      · obtain rfl := Option.some.inj ho
        have l19 := hd 19 (by simp [State.HoldBDep])
        have e19 := (hI.at_ 19 26 rfl l19).get
        rw [show val 19 = _ from hI.gd 19 l19] at e19
        have ag := hI.at_ 19 26 rfl l19
        rw [show val 19 = _ from hI.gd 19 l19] at ag
        have p3 := (hI.old 3 (by kernel_rfl) rfl).get
        exact Draws.wpOp_not (by rfl) (Draws.want_off 19 26 rfl rfl ag (by decide)) (hI.same hloc hL _ undef (Cell.grown_refl _) (Draws.upd_at _ _ _))
      · obtain rfl := Option.some.inj ho
        have l22 := hd 22 (by simp [State.HoldBDep])
        have e22 := (hI.at_ 22 29 rfl l22).get
        have l19 := hd 19 (by simp [State.HoldBDep])
        have e19 := (hI.at_ 19 26 rfl l19).get
        rw [show val 22 = _ from hI.gd 22 l22] at e22
        rw [show val 19 = _ from hI.gd 19 l19] at e19
        have ag := hI.at_ 19 26 rfl l19
        rw [show val 19 = _ from hI.gd 19 l19] at ag
        exact Draws.wpOp_not (by rfl) (Draws.want_off 19 26 rfl rfl ag (by decide)) (hI.same hloc hL _ undef (Cell.grown_refl _) (Draws.upd_at _ _ _))
      · obtain rfl := Option.some.inj ho
        have l19 := hd 19 (by simp [State.HoldBDep])
        have e19 := (hI.at_ 19 26 rfl l19).get
        rw [show val 19 = _ from hI.gd 19 l19] at e19
        have ag := hI.at_ 19 26 rfl l19
        rw [show val 19 = _ from hI.gd 19 l19] at ag
        have p5 := (hI.old 5 (by kernel_rfl) rfl).get
        exact Draws.wpOp_not (by rfl) (Draws.want_off 19 26 rfl rfl ag (by decide)) (hI.same hloc hL _ undef (Cell.grown_refl _) (Draws.upd_at _ _ _))
      · obtain rfl := Option.some.inj ho
        have l24 := hd 24 (by simp [State.HoldBDep])
        have e24 := (hI.at_ 24 31 rfl l24).get
        have l19 := hd 19 (by simp [State.HoldBDep])
        have e19 := (hI.at_ 19 26 rfl l19).get
        rw [show val 24 = _ from hI.gd 24 l24] at e24
        rw [show val 19 = _ from hI.gd 19 l19] at e19
        have ag := hI.at_ 19 26 rfl l19
        rw [show val 19 = _ from hI.gd 19 l19] at ag
        exact Draws.wpOp_not (by rfl) (Draws.want_off 19 26 rfl rfl ag (by decide)) (hI.same hloc hL _ undef (Cell.grown_refl _) (Draws.upd_at _ _ _))
      · obtain rfl := Option.some.inj ho
        have l23 := hd 23 (by simp [State.HoldBDep])
        have e23 := (hI.at_ 23 30 rfl l23).get
        have l25 := hd 25 (by simp [State.HoldBDep])
        have e25 := (hI.at_ 25 32 rfl l25).get
        have l19 := hd 19 (by simp [State.HoldBDep])
        have e19 := (hI.at_ 19 26 rfl l19).get
        rw [show val 23 = _ from hI.gd 23 l23] at e23
        rw [show val 25 = _ from hI.gd 25 l25] at e25
        rw [show val 19 = _ from hI.gd 19 l19] at e19
        have ag := hI.at_ 19 26 rfl l19
        rw [show val 19 = _ from hI.gd 19 l19] at ag
        exact Draws.wpOp_not (by rfl) (Draws.want_off 19 26 rfl rfl ag (by decide)) (hI.same hloc hL _ undef (Cell.grown_refl _) (Draws.upd_at _ _ _))
      · obtain rfl := Option.some.inj ho
        have l19 := hd 19 (by simp [State.HoldBDep])
        have e19 := (hI.at_ 19 26 rfl l19).get
        rw [show val 19 = _ from hI.gd 19 l19] at e19
        have ag := hI.at_ 19 26 rfl l19
        rw [show val 19 = _ from hI.gd 19 l19] at ag
        have p5 := (hI.old 5 (by kernel_rfl) rfl).get
        exact Draws.wpOp_not (by rfl) (Draws.want_off 19 26 rfl rfl ag (by decide)) (hI.same hloc hL _ undef (Cell.grown_refl _) (Draws.upd_at _ _ _))
      · obtain rfl := Option.some.inj ho
        have l27 := hd 27 (by simp [State.HoldBDep])
        have e27 := (hI.at_ 27 34 rfl l27).get
        have l19 := hd 19 (by simp [State.HoldBDep])
        have e19 := (hI.at_ 19 26 rfl l19).get
        rw [show val 27 = _ from hI.gd 27 l27] at e27
        rw [show val 19 = _ from hI.gd 19 l19] at e19
        have ag := hI.at_ 19 26 rfl l19
        rw [show val 19 = _ from hI.gd 19 l19] at ag
        exact Draws.wpOp_not (by rfl) (Draws.want_off 19 26 rfl rfl ag (by decide)) (hI.same hloc hL _ undef (Cell.grown_refl _) (Draws.upd_at _ _ _))
      · obtain rfl := Option.some.inj ho
        have l26 := hd 26 (by simp [State.HoldBDep])
        have e26 := (hI.at_ 26 33 rfl l26).get
        have l28 := hd 28 (by simp [State.HoldBDep])
        have e28 := (hI.at_ 28 35 rfl l28).get
        have l19 := hd 19 (by simp [State.HoldBDep])
        have e19 := (hI.at_ 19 26 rfl l19).get
        rw [show val 26 = _ from hI.gd 26 l26] at e26
        rw [show val 28 = _ from hI.gd 28 l28] at e28
        rw [show val 19 = _ from hI.gd 19 l19] at e19
        have ag := hI.at_ 19 26 rfl l19
        rw [show val 19 = _ from hI.gd 19 l19] at ag
        exact Draws.wpOp_not (by rfl) (Draws.want_off 19 26 rfl rfl ag (by decide)) (hI.same hloc hL _ undef (Cell.grown_refl _) (Draws.upd_at _ _ _))
      · obtain rfl := Option.some.inj ho
        have l21 := hd 21 (by simp [State.HoldBDep])
        have e21 := (hI.at_ 21 28 rfl l21).get
        have l29 := hd 29 (by simp [State.HoldBDep])
        have e29 := (hI.at_ 29 36 rfl l29).get
        have l19 := hd 19 (by simp [State.HoldBDep])
        have e19 := (hI.at_ 19 26 rfl l19).get
        rw [show val 21 = _ from hI.gd 21 l21] at e21
        rw [show val 29 = _ from hI.gd 29 l29] at e29
        rw [show val 19 = _ from hI.gd 19 l19] at e19
        have ag := hI.at_ 19 26 rfl l19
        rw [show val 19 = _ from hI.gd 19 l19] at ag
        exact Draws.wpOp_not (by rfl) (Draws.want_off 19 26 rfl rfl ag (by decide)) (hI.same hloc hL _ undef (Cell.grown_refl _) (Draws.upd_at _ _ _))
      · obtain rfl := Option.some.inj ho
        have l19 := hd 19 (by simp [State.HoldBDep])
        have e19 := (hI.at_ 19 26 rfl l19).get
        have l30 := hd 30 (by simp [State.HoldBDep])
        have e30 := (hI.at_ 30 37 rfl l30).get
        rw [show val 19 = _ from hI.gd 19 l19] at e19
        rw [show val 30 = _ from hI.gd 30 l30] at e30
        refine Draws.wpOp_of (by rfl) rfl (State.wp_value (v := .bool false) (w' := W) ?_ (hI.same hloc hL _ _ (Cell.grown_refl _) (Draws.upd_at _ _ _)))
        simp only [execOp]
        go_simp
      · obtain rfl := Option.some.inj ho
        have l31 := hd 31 (by simp [State.HoldBDep])
        have e31 := (hI.at_ 31 38 rfl l31).get
        rw [show val 31 = _ from hI.gd 31 l31] at e31
        refine Draws.wpOp_of (by rfl) rfl (State.wp_value (v := .bool false) (w' := W) ?_ (hI.same hloc hL _ _ (Cell.grown_refl _) (Draws.upd_at _ _ _)))
        simp only [execOp]
        go_simp
    case last =>
      intro L a W val G hI hall
      have v32 : val 32 = .bool false := hI.gd 32 (hall 32 (by simp))
      have hgr : w.grownBy W none := hI.hd.gr
      have ha := hI.frame (by kernel_rfl) hall
      refine hKk _ _ ?_
      clear hKk hI hall HSA HSB HMA HMB HTA HTB HE
      simp [Draws.frameOf, Draws.slotOf, Act.put, List.range, List.range.loop] at ha
      subst ha
      rw [v32]
      clear v32
      go_wp2_with fail
      go_ret
      exact ⟨rfl, hgr⟩
  | true =>
  cases eM with
  | false =>
    go_enter Try.func13, Try.ntmps13
    go_upto_region 1 with fail
    generalize ((w.alloc (.cells #[.int .i64 R, .slice a1 n1 c1, .slice a2 n2 c2, .slice a3 n3 c3, .slice a4 n4 c4] 29)).alloc (.cells #[.int .i64 R', .slice b1 m1 d1, .slice b2 m2 d2, .slice b3 m3 d3, .slice b4 m4 d4] 29)).alloc (.cells #[.int .i64 p, .int .i64 q, .int .i64 r, .int .i64 s] 33) = W0 at *
    rw [show w.heap.size = K from HKS.out.symm]
    rename_i Kk hKk
    refine Draws.wp_region_tabG (w := w) rfl (by kernel_rfl) (by kernel_rfl) State.HoldCDep (by kernel_rfl) [Law.boxG K 29 #[.int .i64 R, .slice a1 n1 c1, .slice a2 n2 c2, .slice a3 n3 c3, .slice a4 n4 c4], Law.boxG (K + 1) 29 #[.int .i64 R', .slice b1 m1 d1, .slice b2 m2 d2, .slice b3 m3 d3, .slice b4 m4 d4], Law.boxG (K + 1 + 1) 33 #[.int .i64 p, .int .i64 q, .int .i64 r, .int .i64 s]] [] (fun _ => Law.emptyG) (State.HoldC R R' a1 a2 a3 a4 b1 b2 b3 b4 n1 n2 n3 n4 c1 c2 c3 c4 m1 m2 m3 m4 d1 d2 d3 d4 K p q r s U V Y Z U1 U2 Y1 Y2) ?start ?step ?last
    case start => exact HE.out.on (Mesh.gr_drew (Cell.grown_refl _))
    case step =>
      clear hKk
      intro L a W val G i o hI ho hL hd
      have hi : i < 33 := by have := (Array.getElem?_eq_some_iff.1 ho).1; simpa using this
      have hloc := State.HoldC_local R R' a1 a2 a3 a4 b1 b2 b3 b4 n1 n2 n3 n4 c1 c2 c3 c4 m1 m2 m3 m4 d1 d2 d3 d4 K p q r s U V Y Z U1 U2 Y1 Y2
      obtain ⟨z0, z1, z2, z3, z4⟩ := Law.box5 (hI.hd.nth 0 rfl)
      obtain ⟨y0, y1, y2, y3, y4⟩ := Law.box5 (hI.hd.nth 1 rfl)
      obtain ⟨x0, x1, x2, x3⟩ := Law.cells4 (hI.hd.nth 2 rfl)
      rcases (show i = 0 ∨ i = 1 ∨ i = 2 ∨ i = 3 ∨ i = 4 ∨ i = 5 ∨ i = 6 ∨ i = 7 ∨ i = 8 ∨ i = 9 ∨ i = 10 ∨ i = 11 ∨ i = 12 ∨ i = 13 ∨ i = 14 ∨ i = 15 ∨ i = 16 ∨ i = 17 ∨ i = 18 ∨ i = 19 ∨ i = 20 ∨ i = 21 ∨ i = 22 ∨ i = 23 ∨ i = 24 ∨ i = 25 ∨ i = 26 ∨ i = 27 ∨ i = 28 ∨ i = 29 ∨ i = 30 ∨ i = 31 ∨ i = 32 by omega) with rfl | rfl | rfl | rfl | rfl | rfl | rfl | rfl | rfl | rfl | rfl | rfl | rfl | rfl | rfl | rfl | rfl | rfl | rfl | rfl | rfl | rfl | rfl | rfl | rfl | rfl | rfl | rfl | rfl | rfl | rfl | rfl | rfl
      · obtain rfl := Option.some.inj ho
        have p3 := (hI.old 3 (by kernel_rfl) rfl).get
        refine Draws.wpOp_of (by rfl) rfl (State.wp_value (v := .agg #[.int .i64 R, .slice a1 n1 c1, .slice a2 n2 c2, .slice a3 n3 c3, .slice a4 n4 c4]) (w' := W) ?_ (hI.same hloc hL _ _ (Cell.grown_refl _) (Draws.upd_at _ _ _)))
        simp only [execOp]
        go_simp
      · obtain rfl := Option.some.inj ho
        have l0 := hd 0 (by simp [State.HoldCDep])
        have e0 := (hI.at_ 0 7 rfl l0).get
        rw [show val 0 = _ from hI.gd 0 l0] at e0
        refine Draws.wpOp_of (by rfl) rfl ?_
        unfold Oper.wp
        simp only [execOp]
        go_simp
        refine Calls.mono (P := Try.prog) (HSA.out W hI.hd.gr) ?_
        rintro e w1 ⟨rfl, hg⟩
        exact hI.same hloc hL _ (.bool true) hg (Draws.upd_at _ _ _)
      · obtain rfl := Option.some.inj ho
        have l1 := hd 1 (by simp [State.HoldCDep])
        have e1 := (hI.at_ 1 8 rfl l1).get
        rw [show val 1 = _ from hI.gd 1 l1] at e1
        refine Draws.wpOp_of (by rfl) rfl (State.wp_value (v := .bool true) (w' := W) ?_ (hI.same hloc hL _ _ (Cell.grown_refl _) (Draws.upd_at _ _ _)))
        simp only [execOp]
        go_simp
      · obtain rfl := Option.some.inj ho
        have l2 := hd 2 (by simp [State.HoldCDep])
        have e2 := (hI.at_ 2 9 rfl l2).get
        rw [show val 2 = _ from hI.gd 2 l2] at e2
        have ag := hI.at_ 2 9 rfl l2
        rw [show val 2 = _ from hI.gd 2 l2] at ag
        have p4 := (hI.old 4 (by kernel_rfl) rfl).get
        refine Draws.wpOp_want (by rfl) (Draws.want_at 2 9 rfl rfl ag) (State.wp_value (v := .agg #[.int .i64 R', .slice b1 m1 d1, .slice b2 m2 d2, .slice b3 m3 d3, .slice b4 m4 d4]) (w' := W) ?_ (hI.same hloc hL _ _ (Cell.grown_refl _) (Draws.upd_at _ _ _)))
        simp only [execOp]
        go_simp
      · obtain rfl := Option.some.inj ho
        have l3 := hd 3 (by simp [State.HoldCDep])
        have e3 := (hI.at_ 3 10 rfl l3).get
        have l2 := hd 2 (by simp [State.HoldCDep])
        have e2 := (hI.at_ 2 9 rfl l2).get
        rw [show val 3 = _ from hI.gd 3 l3] at e3
        rw [show val 2 = _ from hI.gd 2 l2] at e2
        have ag := hI.at_ 2 9 rfl l2
        rw [show val 2 = _ from hI.gd 2 l2] at ag
        refine Draws.wpOp_want (by rfl) (Draws.want_at 2 9 rfl rfl ag) ?_
        unfold Oper.wp
        simp only [execOp]
        go_simp
        refine Calls.mono (P := Try.prog) (HSB.out W hI.hd.gr) ?_
        rintro e w1 ⟨rfl, hg⟩
        exact hI.same hloc hL _ (.bool true) hg (Draws.upd_at _ _ _)
      · obtain rfl := Option.some.inj ho
        have l2 := hd 2 (by simp [State.HoldCDep])
        have e2 := (hI.at_ 2 9 rfl l2).get
        have l4 := hd 4 (by simp [State.HoldCDep])
        have e4 := (hI.at_ 4 11 rfl l4).get
        rw [show val 2 = _ from hI.gd 2 l2] at e2
        rw [show val 4 = _ from hI.gd 4 l4] at e4
        refine Draws.wpOp_of (by rfl) rfl (State.wp_value (v := .bool true) (w' := W) ?_ (hI.same hloc hL _ _ (Cell.grown_refl _) (Draws.upd_at _ _ _)))
        simp only [execOp]
        go_simp
      · obtain rfl := Option.some.inj ho
        have l5 := hd 5 (by simp [State.HoldCDep])
        have e5 := (hI.at_ 5 12 rfl l5).get
        rw [show val 5 = _ from hI.gd 5 l5] at e5
        refine Draws.wpOp_of (by rfl) rfl (State.wp_value (v := .bool true) (w' := W) ?_ (hI.same hloc hL _ _ (Cell.grown_refl _) (Draws.upd_at _ _ _)))
        simp only [execOp]
        go_simp
      · obtain rfl := Option.some.inj ho
        have l6 := hd 6 (by simp [State.HoldCDep])
        have e6 := (hI.at_ 6 13 rfl l6).get
        rw [show val 6 = _ from hI.gd 6 l6] at e6
        have ag := hI.at_ 6 13 rfl l6
        rw [show val 6 = _ from hI.gd 6 l6] at ag
        have p4 := (hI.old 4 (by kernel_rfl) rfl).get
        refine Draws.wpOp_want (by rfl) (Draws.want_at 6 13 rfl rfl ag) (State.wp_value (v := .agg #[.int .i64 R', .slice b1 m1 d1, .slice b2 m2 d2, .slice b3 m3 d3, .slice b4 m4 d4]) (w' := W) ?_ (hI.same hloc hL _ _ (Cell.grown_refl _) (Draws.upd_at _ _ _)))
        simp only [execOp]
        go_simp
      · obtain rfl := Option.some.inj ho
        have l7 := hd 7 (by simp [State.HoldCDep])
        have e7 := (hI.at_ 7 14 rfl l7).get
        have l6 := hd 6 (by simp [State.HoldCDep])
        have e6 := (hI.at_ 6 13 rfl l6).get
        rw [show val 7 = _ from hI.gd 7 l7] at e7
        rw [show val 6 = _ from hI.gd 6 l6] at e6
        have ag := hI.at_ 6 13 rfl l6
        rw [show val 6 = _ from hI.gd 6 l6] at ag
        refine Draws.wpOp_want (by rfl) (Draws.want_at 6 13 rfl rfl ag) ?_
        unfold Oper.wp
        simp only [execOp]
        go_simp
        refine Calls.mono (P := Try.prog) (HMB.out W hI.hd.gr) ?_
        rintro e w1 ⟨rfl, hg⟩
        exact hI.same hloc hL _ (.int .i64 V) hg (Draws.upd_at _ _ _)
      · obtain rfl := Option.some.inj ho
        have l6 := hd 6 (by simp [State.HoldCDep])
        have e6 := (hI.at_ 6 13 rfl l6).get
        rw [show val 6 = _ from hI.gd 6 l6] at e6
        have ag := hI.at_ 6 13 rfl l6
        rw [show val 6 = _ from hI.gd 6 l6] at ag
        have p3 := (hI.old 3 (by kernel_rfl) rfl).get
        refine Draws.wpOp_want (by rfl) (Draws.want_at 6 13 rfl rfl ag) (State.wp_value (v := .agg #[.int .i64 R, .slice a1 n1 c1, .slice a2 n2 c2, .slice a3 n3 c3, .slice a4 n4 c4]) (w' := W) ?_ (hI.same hloc hL _ _ (Cell.grown_refl _) (Draws.upd_at _ _ _)))
        simp only [execOp]
        go_simp
      · obtain rfl := Option.some.inj ho
        have l9 := hd 9 (by simp [State.HoldCDep])
        have e9 := (hI.at_ 9 16 rfl l9).get
        have l6 := hd 6 (by simp [State.HoldCDep])
        have e6 := (hI.at_ 6 13 rfl l6).get
        rw [show val 9 = _ from hI.gd 9 l9] at e9
        rw [show val 6 = _ from hI.gd 6 l6] at e6
        have ag := hI.at_ 6 13 rfl l6
        rw [show val 6 = _ from hI.gd 6 l6] at ag
        refine Draws.wpOp_want (by rfl) (Draws.want_at 6 13 rfl rfl ag) ?_
        unfold Oper.wp
        simp only [execOp]
        go_simp
        refine Calls.mono (P := Try.prog) (HMA.out W hI.hd.gr) ?_
        rintro e w1 ⟨rfl, hg⟩
        exact hI.same hloc hL _ (.int .i64 U) hg (Draws.upd_at _ _ _)
      · obtain rfl := Option.some.inj ho
        have l6 := hd 6 (by simp [State.HoldCDep])
        have e6 := (hI.at_ 6 13 rfl l6).get
        rw [show val 6 = _ from hI.gd 6 l6] at e6
        have ag := hI.at_ 6 13 rfl l6
        rw [show val 6 = _ from hI.gd 6 l6] at ag
        have p5 := (hI.old 5 (by kernel_rfl) rfl).get
        refine Draws.wpOp_want (by rfl) (Draws.want_at 6 13 rfl rfl ag) (State.wp_value (v := .pointer (some ⟨(K + 1 + 1), 0, none⟩)) (w' := W) ?_ (hI.same hloc hL _ _ (Cell.grown_refl _) (Draws.upd_at _ _ _)))
        simp only [execOp]
        go_simp
      · obtain rfl := Option.some.inj ho
        have l11 := hd 11 (by simp [State.HoldCDep])
        have e11 := (hI.at_ 11 18 rfl l11).get
        have l6 := hd 6 (by simp [State.HoldCDep])
        have e6 := (hI.at_ 6 13 rfl l6).get
        rw [show val 11 = _ from hI.gd 11 l11] at e11
        rw [show val 6 = _ from hI.gd 6 l6] at e6
        have ag := hI.at_ 6 13 rfl l6
        rw [show val 6 = _ from hI.gd 6 l6] at ag
        refine Draws.wpOp_want (by rfl) (Draws.want_at 6 13 rfl rfl ag) (State.wp_value (v := .int .i64 p) (w' := W) ?_ (hI.same hloc hL _ _ (Cell.grown_refl _) (Draws.upd_at _ _ _)))
        simp only [execOp]
        go_simp
      · obtain rfl := Option.some.inj ho
        have l10 := hd 10 (by simp [State.HoldCDep])
        have e10 := (hI.at_ 10 17 rfl l10).get
        have l12 := hd 12 (by simp [State.HoldCDep])
        have e12 := (hI.at_ 12 19 rfl l12).get
        have l6 := hd 6 (by simp [State.HoldCDep])
        have e6 := (hI.at_ 6 13 rfl l6).get
        rw [show val 10 = _ from hI.gd 10 l10] at e10
        rw [show val 12 = _ from hI.gd 12 l12] at e12
        rw [show val 6 = _ from hI.gd 6 l6] at e6
        have ag := hI.at_ 6 13 rfl l6
        rw [show val 6 = _ from hI.gd 6 l6] at ag
        refine Draws.wpOp_want (by rfl) (Draws.want_at 6 13 rfl rfl ag) (State.wp_value (v := .int .i64 U1) (w' := W) ?_ (hI.same hloc hL _ _ (Cell.grown_refl _) (Draws.upd_at _ _ _)))
        simp only [execOp]
        go_simp
      · obtain rfl := Option.some.inj ho
        have l6 := hd 6 (by simp [State.HoldCDep])
        have e6 := (hI.at_ 6 13 rfl l6).get
        rw [show val 6 = _ from hI.gd 6 l6] at e6
        have ag := hI.at_ 6 13 rfl l6
        rw [show val 6 = _ from hI.gd 6 l6] at ag
        have p5 := (hI.old 5 (by kernel_rfl) rfl).get
        refine Draws.wpOp_want (by rfl) (Draws.want_at 6 13 rfl rfl ag) (State.wp_value (v := .pointer (some ⟨(K + 1 + 1), 1, none⟩)) (w' := W) ?_ (hI.same hloc hL _ _ (Cell.grown_refl _) (Draws.upd_at _ _ _)))
        simp only [execOp]
        go_simp
      · obtain rfl := Option.some.inj ho
        have l14 := hd 14 (by simp [State.HoldCDep])
        have e14 := (hI.at_ 14 21 rfl l14).get
        have l6 := hd 6 (by simp [State.HoldCDep])
        have e6 := (hI.at_ 6 13 rfl l6).get
        rw [show val 14 = _ from hI.gd 14 l14] at e14
        rw [show val 6 = _ from hI.gd 6 l6] at e6
        have ag := hI.at_ 6 13 rfl l6
        rw [show val 6 = _ from hI.gd 6 l6] at ag
        refine Draws.wpOp_want (by rfl) (Draws.want_at 6 13 rfl rfl ag) (State.wp_value (v := .int .i64 q) (w' := W) ?_ (hI.same hloc hL _ _ (Cell.grown_refl _) (Draws.upd_at _ _ _)))
        simp only [execOp]
        go_simp
      · obtain rfl := Option.some.inj ho
        have l13 := hd 13 (by simp [State.HoldCDep])
        have e13 := (hI.at_ 13 20 rfl l13).get
        have l15 := hd 15 (by simp [State.HoldCDep])
        have e15 := (hI.at_ 15 22 rfl l15).get
        have l6 := hd 6 (by simp [State.HoldCDep])
        have e6 := (hI.at_ 6 13 rfl l6).get
        rw [show val 13 = _ from hI.gd 13 l13] at e13
        rw [show val 15 = _ from hI.gd 15 l15] at e15
        rw [show val 6 = _ from hI.gd 6 l6] at e6
        have ag := hI.at_ 6 13 rfl l6
        rw [show val 6 = _ from hI.gd 6 l6] at ag
        refine Draws.wpOp_want (by rfl) (Draws.want_at 6 13 rfl rfl ag) (State.wp_value (v := .int .i64 U2) (w' := W) ?_ (hI.same hloc hL _ _ (Cell.grown_refl _) (Draws.upd_at _ _ _)))
        simp only [execOp]
        go_simp
      · obtain rfl := Option.some.inj ho
        have l8 := hd 8 (by simp [State.HoldCDep])
        have e8 := (hI.at_ 8 15 rfl l8).get
        have l16 := hd 16 (by simp [State.HoldCDep])
        have e16 := (hI.at_ 16 23 rfl l16).get
        have l6 := hd 6 (by simp [State.HoldCDep])
        have e6 := (hI.at_ 6 13 rfl l6).get
        rw [show val 8 = _ from hI.gd 8 l8] at e8
        rw [show val 16 = _ from hI.gd 16 l16] at e16
        rw [show val 6 = _ from hI.gd 6 l6] at e6
        have ag := hI.at_ 6 13 rfl l6
        rw [show val 6 = _ from hI.gd 6 l6] at ag
        refine Draws.wpOp_want (by rfl) (Draws.want_at 6 13 rfl rfl ag) (State.wp_value (v := .bool false) (w' := W) ?_ (hI.same hloc hL _ _ (Cell.grown_refl _) (Draws.upd_at _ _ _)))
        simp only [execOp]
        go_simp
      · obtain rfl := Option.some.inj ho
        have l6 := hd 6 (by simp [State.HoldCDep])
        have e6 := (hI.at_ 6 13 rfl l6).get
        have l17 := hd 17 (by simp [State.HoldCDep])
        have e17 := (hI.at_ 17 24 rfl l17).get
        rw [show val 6 = _ from hI.gd 6 l6] at e6
        rw [show val 17 = _ from hI.gd 17 l17] at e17
        refine Draws.wpOp_of (by rfl) rfl (State.wp_value (v := .bool false) (w' := W) ?_ (hI.same hloc hL _ _ (Cell.grown_refl _) (Draws.upd_at _ _ _)))
        simp only [execOp]
        go_simp
      · obtain rfl := Option.some.inj ho
        have l18 := hd 18 (by simp [State.HoldCDep])
        have e18 := (hI.at_ 18 25 rfl l18).get
        rw [show val 18 = _ from hI.gd 18 l18] at e18
        refine Draws.wpOp_of (by rfl) rfl (State.wp_value (v := .bool false) (w' := W) ?_ (hI.same hloc hL _ _ (Cell.grown_refl _) (Draws.upd_at _ _ _)))
        simp only [execOp]
        go_simp
      · obtain rfl := Option.some.inj ho
        have l19 := hd 19 (by simp [State.HoldCDep])
        have e19 := (hI.at_ 19 26 rfl l19).get
        rw [show val 19 = _ from hI.gd 19 l19] at e19
        have ag := hI.at_ 19 26 rfl l19
        rw [show val 19 = _ from hI.gd 19 l19] at ag
        have p4 := (hI.old 4 (by kernel_rfl) rfl).get
        exact Draws.wpOp_not (by rfl) (Draws.want_off 19 26 rfl rfl ag (by decide)) (hI.same hloc hL _ undef (Cell.grown_refl _) (Draws.upd_at _ _ _))
      · obtain rfl := Option.some.inj ho
        have l20 := hd 20 (by simp [State.HoldCDep])
        have e20 := (hI.at_ 20 27 rfl l20).get
        have l19 := hd 19 (by simp [State.HoldCDep])
        have e19 := (hI.at_ 19 26 rfl l19).get
        rw [show val 20 = _ from hI.gd 20 l20] at e20
        rw [show val 19 = _ from hI.gd 19 l19] at e19
        have ag := hI.at_ 19 26 rfl l19
        rw [show val 19 = _ from hI.gd 19 l19] at ag
        exact Draws.wpOp_not (by rfl) (Draws.want_off 19 26 rfl rfl ag (by decide)) (hI.same hloc hL _ undef (Cell.grown_refl _) (Draws.upd_at _ _ _))
      · obtain rfl := Option.some.inj ho
        have l19 := hd 19 (by simp [State.HoldCDep])
        have e19 := (hI.at_ 19 26 rfl l19).get
        rw [show val 19 = _ from hI.gd 19 l19] at e19
        have ag := hI.at_ 19 26 rfl l19
        rw [show val 19 = _ from hI.gd 19 l19] at ag
        have p3 := (hI.old 3 (by kernel_rfl) rfl).get
        exact Draws.wpOp_not (by rfl) (Draws.want_off 19 26 rfl rfl ag (by decide)) (hI.same hloc hL _ undef (Cell.grown_refl _) (Draws.upd_at _ _ _))
      · obtain rfl := Option.some.inj ho
        have l22 := hd 22 (by simp [State.HoldCDep])
        have e22 := (hI.at_ 22 29 rfl l22).get
        have l19 := hd 19 (by simp [State.HoldCDep])
        have e19 := (hI.at_ 19 26 rfl l19).get
        rw [show val 22 = _ from hI.gd 22 l22] at e22
        rw [show val 19 = _ from hI.gd 19 l19] at e19
        have ag := hI.at_ 19 26 rfl l19
        rw [show val 19 = _ from hI.gd 19 l19] at ag
        exact Draws.wpOp_not (by rfl) (Draws.want_off 19 26 rfl rfl ag (by decide)) (hI.same hloc hL _ undef (Cell.grown_refl _) (Draws.upd_at _ _ _))
      · obtain rfl := Option.some.inj ho
        have l19 := hd 19 (by simp [State.HoldCDep])
        have e19 := (hI.at_ 19 26 rfl l19).get
        rw [show val 19 = _ from hI.gd 19 l19] at e19
        have ag := hI.at_ 19 26 rfl l19
        rw [show val 19 = _ from hI.gd 19 l19] at ag
        have p5 := (hI.old 5 (by kernel_rfl) rfl).get
        exact Draws.wpOp_not (by rfl) (Draws.want_off 19 26 rfl rfl ag (by decide)) (hI.same hloc hL _ undef (Cell.grown_refl _) (Draws.upd_at _ _ _))
      · obtain rfl := Option.some.inj ho
        have l24 := hd 24 (by simp [State.HoldCDep])
        have e24 := (hI.at_ 24 31 rfl l24).get
        have l19 := hd 19 (by simp [State.HoldCDep])
        have e19 := (hI.at_ 19 26 rfl l19).get
        rw [show val 24 = _ from hI.gd 24 l24] at e24
        rw [show val 19 = _ from hI.gd 19 l19] at e19
        have ag := hI.at_ 19 26 rfl l19
        rw [show val 19 = _ from hI.gd 19 l19] at ag
        exact Draws.wpOp_not (by rfl) (Draws.want_off 19 26 rfl rfl ag (by decide)) (hI.same hloc hL _ undef (Cell.grown_refl _) (Draws.upd_at _ _ _))
      · obtain rfl := Option.some.inj ho
        have l23 := hd 23 (by simp [State.HoldCDep])
        have e23 := (hI.at_ 23 30 rfl l23).get
        have l25 := hd 25 (by simp [State.HoldCDep])
        have e25 := (hI.at_ 25 32 rfl l25).get
        have l19 := hd 19 (by simp [State.HoldCDep])
        have e19 := (hI.at_ 19 26 rfl l19).get
        rw [show val 23 = _ from hI.gd 23 l23] at e23
        rw [show val 25 = _ from hI.gd 25 l25] at e25
        rw [show val 19 = _ from hI.gd 19 l19] at e19
        have ag := hI.at_ 19 26 rfl l19
        rw [show val 19 = _ from hI.gd 19 l19] at ag
        exact Draws.wpOp_not (by rfl) (Draws.want_off 19 26 rfl rfl ag (by decide)) (hI.same hloc hL _ undef (Cell.grown_refl _) (Draws.upd_at _ _ _))
      · obtain rfl := Option.some.inj ho
        have l19 := hd 19 (by simp [State.HoldCDep])
        have e19 := (hI.at_ 19 26 rfl l19).get
        rw [show val 19 = _ from hI.gd 19 l19] at e19
        have ag := hI.at_ 19 26 rfl l19
        rw [show val 19 = _ from hI.gd 19 l19] at ag
        have p5 := (hI.old 5 (by kernel_rfl) rfl).get
        exact Draws.wpOp_not (by rfl) (Draws.want_off 19 26 rfl rfl ag (by decide)) (hI.same hloc hL _ undef (Cell.grown_refl _) (Draws.upd_at _ _ _))
      · obtain rfl := Option.some.inj ho
        have l27 := hd 27 (by simp [State.HoldCDep])
        have e27 := (hI.at_ 27 34 rfl l27).get
        have l19 := hd 19 (by simp [State.HoldCDep])
        have e19 := (hI.at_ 19 26 rfl l19).get
        rw [show val 27 = _ from hI.gd 27 l27] at e27
        rw [show val 19 = _ from hI.gd 19 l19] at e19
        have ag := hI.at_ 19 26 rfl l19
        rw [show val 19 = _ from hI.gd 19 l19] at ag
        exact Draws.wpOp_not (by rfl) (Draws.want_off 19 26 rfl rfl ag (by decide)) (hI.same hloc hL _ undef (Cell.grown_refl _) (Draws.upd_at _ _ _))
      · obtain rfl := Option.some.inj ho
        have l26 := hd 26 (by simp [State.HoldCDep])
        have e26 := (hI.at_ 26 33 rfl l26).get
        have l28 := hd 28 (by simp [State.HoldCDep])
        have e28 := (hI.at_ 28 35 rfl l28).get
        have l19 := hd 19 (by simp [State.HoldCDep])
        have e19 := (hI.at_ 19 26 rfl l19).get
        rw [show val 26 = _ from hI.gd 26 l26] at e26
        rw [show val 28 = _ from hI.gd 28 l28] at e28
        rw [show val 19 = _ from hI.gd 19 l19] at e19
        have ag := hI.at_ 19 26 rfl l19
        rw [show val 19 = _ from hI.gd 19 l19] at ag
        exact Draws.wpOp_not (by rfl) (Draws.want_off 19 26 rfl rfl ag (by decide)) (hI.same hloc hL _ undef (Cell.grown_refl _) (Draws.upd_at _ _ _))
      · obtain rfl := Option.some.inj ho
        have l21 := hd 21 (by simp [State.HoldCDep])
        have e21 := (hI.at_ 21 28 rfl l21).get
        have l29 := hd 29 (by simp [State.HoldCDep])
        have e29 := (hI.at_ 29 36 rfl l29).get
        have l19 := hd 19 (by simp [State.HoldCDep])
        have e19 := (hI.at_ 19 26 rfl l19).get
        rw [show val 21 = _ from hI.gd 21 l21] at e21
        rw [show val 29 = _ from hI.gd 29 l29] at e29
        rw [show val 19 = _ from hI.gd 19 l19] at e19
        have ag := hI.at_ 19 26 rfl l19
        rw [show val 19 = _ from hI.gd 19 l19] at ag
        exact Draws.wpOp_not (by rfl) (Draws.want_off 19 26 rfl rfl ag (by decide)) (hI.same hloc hL _ undef (Cell.grown_refl _) (Draws.upd_at _ _ _))
      · obtain rfl := Option.some.inj ho
        have l19 := hd 19 (by simp [State.HoldCDep])
        have e19 := (hI.at_ 19 26 rfl l19).get
        have l30 := hd 30 (by simp [State.HoldCDep])
        have e30 := (hI.at_ 30 37 rfl l30).get
        rw [show val 19 = _ from hI.gd 19 l19] at e19
        rw [show val 30 = _ from hI.gd 30 l30] at e30
        refine Draws.wpOp_of (by rfl) rfl (State.wp_value (v := .bool false) (w' := W) ?_ (hI.same hloc hL _ _ (Cell.grown_refl _) (Draws.upd_at _ _ _)))
        simp only [execOp]
        go_simp
      · obtain rfl := Option.some.inj ho
        have l31 := hd 31 (by simp [State.HoldCDep])
        have e31 := (hI.at_ 31 38 rfl l31).get
        rw [show val 31 = _ from hI.gd 31 l31] at e31
        refine Draws.wpOp_of (by rfl) rfl (State.wp_value (v := .bool false) (w' := W) ?_ (hI.same hloc hL _ _ (Cell.grown_refl _) (Draws.upd_at _ _ _)))
        simp only [execOp]
        go_simp
    case last =>
      intro L a W val G hI hall
      have v32 : val 32 = .bool false := hI.gd 32 (hall 32 (by simp))
      have hgr : w.grownBy W none := hI.hd.gr
      have ha := hI.frame (by kernel_rfl) hall
      refine hKk _ _ ?_
      clear hKk hI hall HSA HSB HMA HMB HTA HTB HE
      simp [Draws.frameOf, Draws.slotOf, Act.put, List.range, List.range.loop] at ha
      subst ha
      rw [v32]
      clear v32
      go_wp2_with fail
      go_ret
      exact ⟨rfl, hgr⟩
  | true =>
    go_enter Try.func13, Try.ntmps13
    go_upto_region 1 with fail
    generalize ((w.alloc (.cells #[.int .i64 R, .slice a1 n1 c1, .slice a2 n2 c2, .slice a3 n3 c3, .slice a4 n4 c4] 29)).alloc (.cells #[.int .i64 R', .slice b1 m1 d1, .slice b2 m2 d2, .slice b3 m3 d3, .slice b4 m4 d4] 29)).alloc (.cells #[.int .i64 p, .int .i64 q, .int .i64 r, .int .i64 s] 33) = W0 at *
    rw [show w.heap.size = K from HKS.out.symm]
    rename_i Kk hKk
    refine Draws.wp_region_tabG (w := w) rfl (by kernel_rfl) (by kernel_rfl) State.HoldDDep (by kernel_rfl) [Law.boxG K 29 #[.int .i64 R, .slice a1 n1 c1, .slice a2 n2 c2, .slice a3 n3 c3, .slice a4 n4 c4], Law.boxG (K + 1) 29 #[.int .i64 R', .slice b1 m1 d1, .slice b2 m2 d2, .slice b3 m3 d3, .slice b4 m4 d4], Law.boxG (K + 1 + 1) 33 #[.int .i64 p, .int .i64 q, .int .i64 r, .int .i64 s]] [] (fun _ => Law.emptyG) (State.HoldD R R' a1 a2 a3 a4 b1 b2 b3 b4 n1 n2 n3 n4 c1 c2 c3 c4 m1 m2 m3 m4 d1 d2 d3 d4 K p q r s U V Y Z U1 U2 Y1 Y2 eT) ?start ?step ?last
    case start => exact HE.out.on (Mesh.gr_drew (Cell.grown_refl _))
    case step =>
      clear hKk
      intro L a W val G i o hI ho hL hd
      have hi : i < 33 := by have := (Array.getElem?_eq_some_iff.1 ho).1; simpa using this
      have hloc := State.HoldD_local R R' a1 a2 a3 a4 b1 b2 b3 b4 n1 n2 n3 n4 c1 c2 c3 c4 m1 m2 m3 m4 d1 d2 d3 d4 K p q r s U V Y Z U1 U2 Y1 Y2 eT
      obtain ⟨z0, z1, z2, z3, z4⟩ := Law.box5 (hI.hd.nth 0 rfl)
      obtain ⟨y0, y1, y2, y3, y4⟩ := Law.box5 (hI.hd.nth 1 rfl)
      obtain ⟨x0, x1, x2, x3⟩ := Law.cells4 (hI.hd.nth 2 rfl)
      rcases (show i = 0 ∨ i = 1 ∨ i = 2 ∨ i = 3 ∨ i = 4 ∨ i = 5 ∨ i = 6 ∨ i = 7 ∨ i = 8 ∨ i = 9 ∨ i = 10 ∨ i = 11 ∨ i = 12 ∨ i = 13 ∨ i = 14 ∨ i = 15 ∨ i = 16 ∨ i = 17 ∨ i = 18 ∨ i = 19 ∨ i = 20 ∨ i = 21 ∨ i = 22 ∨ i = 23 ∨ i = 24 ∨ i = 25 ∨ i = 26 ∨ i = 27 ∨ i = 28 ∨ i = 29 ∨ i = 30 ∨ i = 31 ∨ i = 32 by omega) with rfl | rfl | rfl | rfl | rfl | rfl | rfl | rfl | rfl | rfl | rfl | rfl | rfl | rfl | rfl | rfl | rfl | rfl | rfl | rfl | rfl | rfl | rfl | rfl | rfl | rfl | rfl | rfl | rfl | rfl | rfl | rfl | rfl
      · obtain rfl := Option.some.inj ho
        have p3 := (hI.old 3 (by kernel_rfl) rfl).get
        refine Draws.wpOp_of (by rfl) rfl (State.wp_value (v := .agg #[.int .i64 R, .slice a1 n1 c1, .slice a2 n2 c2, .slice a3 n3 c3, .slice a4 n4 c4]) (w' := W) ?_ (hI.same hloc hL _ _ (Cell.grown_refl _) (Draws.upd_at _ _ _)))
        simp only [execOp]
        go_simp
      · obtain rfl := Option.some.inj ho
        have l0 := hd 0 (by simp [State.HoldDDep])
        have e0 := (hI.at_ 0 7 rfl l0).get
        rw [show val 0 = _ from hI.gd 0 l0] at e0
        refine Draws.wpOp_of (by rfl) rfl ?_
        unfold Oper.wp
        simp only [execOp]
        go_simp
        refine Calls.mono (P := Try.prog) (HSA.out W hI.hd.gr) ?_
        rintro e w1 ⟨rfl, hg⟩
        exact hI.same hloc hL _ (.bool true) hg (Draws.upd_at _ _ _)
      · obtain rfl := Option.some.inj ho
        have l1 := hd 1 (by simp [State.HoldDDep])
        have e1 := (hI.at_ 1 8 rfl l1).get
        rw [show val 1 = _ from hI.gd 1 l1] at e1
        refine Draws.wpOp_of (by rfl) rfl (State.wp_value (v := .bool true) (w' := W) ?_ (hI.same hloc hL _ _ (Cell.grown_refl _) (Draws.upd_at _ _ _)))
        simp only [execOp]
        go_simp
      · obtain rfl := Option.some.inj ho
        have l2 := hd 2 (by simp [State.HoldDDep])
        have e2 := (hI.at_ 2 9 rfl l2).get
        rw [show val 2 = _ from hI.gd 2 l2] at e2
        have ag := hI.at_ 2 9 rfl l2
        rw [show val 2 = _ from hI.gd 2 l2] at ag
        have p4 := (hI.old 4 (by kernel_rfl) rfl).get
        refine Draws.wpOp_want (by rfl) (Draws.want_at 2 9 rfl rfl ag) (State.wp_value (v := .agg #[.int .i64 R', .slice b1 m1 d1, .slice b2 m2 d2, .slice b3 m3 d3, .slice b4 m4 d4]) (w' := W) ?_ (hI.same hloc hL _ _ (Cell.grown_refl _) (Draws.upd_at _ _ _)))
        simp only [execOp]
        go_simp
      · obtain rfl := Option.some.inj ho
        have l3 := hd 3 (by simp [State.HoldDDep])
        have e3 := (hI.at_ 3 10 rfl l3).get
        have l2 := hd 2 (by simp [State.HoldDDep])
        have e2 := (hI.at_ 2 9 rfl l2).get
        rw [show val 3 = _ from hI.gd 3 l3] at e3
        rw [show val 2 = _ from hI.gd 2 l2] at e2
        have ag := hI.at_ 2 9 rfl l2
        rw [show val 2 = _ from hI.gd 2 l2] at ag
        refine Draws.wpOp_want (by rfl) (Draws.want_at 2 9 rfl rfl ag) ?_
        unfold Oper.wp
        simp only [execOp]
        go_simp
        refine Calls.mono (P := Try.prog) (HSB.out W hI.hd.gr) ?_
        rintro e w1 ⟨rfl, hg⟩
        exact hI.same hloc hL _ (.bool true) hg (Draws.upd_at _ _ _)
      · obtain rfl := Option.some.inj ho
        have l2 := hd 2 (by simp [State.HoldDDep])
        have e2 := (hI.at_ 2 9 rfl l2).get
        have l4 := hd 4 (by simp [State.HoldDDep])
        have e4 := (hI.at_ 4 11 rfl l4).get
        rw [show val 2 = _ from hI.gd 2 l2] at e2
        rw [show val 4 = _ from hI.gd 4 l4] at e4
        refine Draws.wpOp_of (by rfl) rfl (State.wp_value (v := .bool true) (w' := W) ?_ (hI.same hloc hL _ _ (Cell.grown_refl _) (Draws.upd_at _ _ _)))
        simp only [execOp]
        go_simp
      · obtain rfl := Option.some.inj ho
        have l5 := hd 5 (by simp [State.HoldDDep])
        have e5 := (hI.at_ 5 12 rfl l5).get
        rw [show val 5 = _ from hI.gd 5 l5] at e5
        refine Draws.wpOp_of (by rfl) rfl (State.wp_value (v := .bool true) (w' := W) ?_ (hI.same hloc hL _ _ (Cell.grown_refl _) (Draws.upd_at _ _ _)))
        simp only [execOp]
        go_simp
      · obtain rfl := Option.some.inj ho
        have l6 := hd 6 (by simp [State.HoldDDep])
        have e6 := (hI.at_ 6 13 rfl l6).get
        rw [show val 6 = _ from hI.gd 6 l6] at e6
        have ag := hI.at_ 6 13 rfl l6
        rw [show val 6 = _ from hI.gd 6 l6] at ag
        have p4 := (hI.old 4 (by kernel_rfl) rfl).get
        refine Draws.wpOp_want (by rfl) (Draws.want_at 6 13 rfl rfl ag) (State.wp_value (v := .agg #[.int .i64 R', .slice b1 m1 d1, .slice b2 m2 d2, .slice b3 m3 d3, .slice b4 m4 d4]) (w' := W) ?_ (hI.same hloc hL _ _ (Cell.grown_refl _) (Draws.upd_at _ _ _)))
        simp only [execOp]
        go_simp
      · obtain rfl := Option.some.inj ho
        have l7 := hd 7 (by simp [State.HoldDDep])
        have e7 := (hI.at_ 7 14 rfl l7).get
        have l6 := hd 6 (by simp [State.HoldDDep])
        have e6 := (hI.at_ 6 13 rfl l6).get
        rw [show val 7 = _ from hI.gd 7 l7] at e7
        rw [show val 6 = _ from hI.gd 6 l6] at e6
        have ag := hI.at_ 6 13 rfl l6
        rw [show val 6 = _ from hI.gd 6 l6] at ag
        refine Draws.wpOp_want (by rfl) (Draws.want_at 6 13 rfl rfl ag) ?_
        unfold Oper.wp
        simp only [execOp]
        go_simp
        refine Calls.mono (P := Try.prog) (HMB.out W hI.hd.gr) ?_
        rintro e w1 ⟨rfl, hg⟩
        exact hI.same hloc hL _ (.int .i64 V) hg (Draws.upd_at _ _ _)
      · obtain rfl := Option.some.inj ho
        have l6 := hd 6 (by simp [State.HoldDDep])
        have e6 := (hI.at_ 6 13 rfl l6).get
        rw [show val 6 = _ from hI.gd 6 l6] at e6
        have ag := hI.at_ 6 13 rfl l6
        rw [show val 6 = _ from hI.gd 6 l6] at ag
        have p3 := (hI.old 3 (by kernel_rfl) rfl).get
        refine Draws.wpOp_want (by rfl) (Draws.want_at 6 13 rfl rfl ag) (State.wp_value (v := .agg #[.int .i64 R, .slice a1 n1 c1, .slice a2 n2 c2, .slice a3 n3 c3, .slice a4 n4 c4]) (w' := W) ?_ (hI.same hloc hL _ _ (Cell.grown_refl _) (Draws.upd_at _ _ _)))
        simp only [execOp]
        go_simp
      · obtain rfl := Option.some.inj ho
        have l9 := hd 9 (by simp [State.HoldDDep])
        have e9 := (hI.at_ 9 16 rfl l9).get
        have l6 := hd 6 (by simp [State.HoldDDep])
        have e6 := (hI.at_ 6 13 rfl l6).get
        rw [show val 9 = _ from hI.gd 9 l9] at e9
        rw [show val 6 = _ from hI.gd 6 l6] at e6
        have ag := hI.at_ 6 13 rfl l6
        rw [show val 6 = _ from hI.gd 6 l6] at ag
        refine Draws.wpOp_want (by rfl) (Draws.want_at 6 13 rfl rfl ag) ?_
        unfold Oper.wp
        simp only [execOp]
        go_simp
        refine Calls.mono (P := Try.prog) (HMA.out W hI.hd.gr) ?_
        rintro e w1 ⟨rfl, hg⟩
        exact hI.same hloc hL _ (.int .i64 U) hg (Draws.upd_at _ _ _)
      · obtain rfl := Option.some.inj ho
        have l6 := hd 6 (by simp [State.HoldDDep])
        have e6 := (hI.at_ 6 13 rfl l6).get
        rw [show val 6 = _ from hI.gd 6 l6] at e6
        have ag := hI.at_ 6 13 rfl l6
        rw [show val 6 = _ from hI.gd 6 l6] at ag
        have p5 := (hI.old 5 (by kernel_rfl) rfl).get
        refine Draws.wpOp_want (by rfl) (Draws.want_at 6 13 rfl rfl ag) (State.wp_value (v := .pointer (some ⟨(K + 1 + 1), 0, none⟩)) (w' := W) ?_ (hI.same hloc hL _ _ (Cell.grown_refl _) (Draws.upd_at _ _ _)))
        simp only [execOp]
        go_simp
      · obtain rfl := Option.some.inj ho
        have l11 := hd 11 (by simp [State.HoldDDep])
        have e11 := (hI.at_ 11 18 rfl l11).get
        have l6 := hd 6 (by simp [State.HoldDDep])
        have e6 := (hI.at_ 6 13 rfl l6).get
        rw [show val 11 = _ from hI.gd 11 l11] at e11
        rw [show val 6 = _ from hI.gd 6 l6] at e6
        have ag := hI.at_ 6 13 rfl l6
        rw [show val 6 = _ from hI.gd 6 l6] at ag
        refine Draws.wpOp_want (by rfl) (Draws.want_at 6 13 rfl rfl ag) (State.wp_value (v := .int .i64 p) (w' := W) ?_ (hI.same hloc hL _ _ (Cell.grown_refl _) (Draws.upd_at _ _ _)))
        simp only [execOp]
        go_simp
      · obtain rfl := Option.some.inj ho
        have l10 := hd 10 (by simp [State.HoldDDep])
        have e10 := (hI.at_ 10 17 rfl l10).get
        have l12 := hd 12 (by simp [State.HoldDDep])
        have e12 := (hI.at_ 12 19 rfl l12).get
        have l6 := hd 6 (by simp [State.HoldDDep])
        have e6 := (hI.at_ 6 13 rfl l6).get
        rw [show val 10 = _ from hI.gd 10 l10] at e10
        rw [show val 12 = _ from hI.gd 12 l12] at e12
        rw [show val 6 = _ from hI.gd 6 l6] at e6
        have ag := hI.at_ 6 13 rfl l6
        rw [show val 6 = _ from hI.gd 6 l6] at ag
        refine Draws.wpOp_want (by rfl) (Draws.want_at 6 13 rfl rfl ag) (State.wp_value (v := .int .i64 U1) (w' := W) ?_ (hI.same hloc hL _ _ (Cell.grown_refl _) (Draws.upd_at _ _ _)))
        simp only [execOp]
        go_simp
      · obtain rfl := Option.some.inj ho
        have l6 := hd 6 (by simp [State.HoldDDep])
        have e6 := (hI.at_ 6 13 rfl l6).get
        rw [show val 6 = _ from hI.gd 6 l6] at e6
        have ag := hI.at_ 6 13 rfl l6
        rw [show val 6 = _ from hI.gd 6 l6] at ag
        have p5 := (hI.old 5 (by kernel_rfl) rfl).get
        refine Draws.wpOp_want (by rfl) (Draws.want_at 6 13 rfl rfl ag) (State.wp_value (v := .pointer (some ⟨(K + 1 + 1), 1, none⟩)) (w' := W) ?_ (hI.same hloc hL _ _ (Cell.grown_refl _) (Draws.upd_at _ _ _)))
        simp only [execOp]
        go_simp
      · obtain rfl := Option.some.inj ho
        have l14 := hd 14 (by simp [State.HoldDDep])
        have e14 := (hI.at_ 14 21 rfl l14).get
        have l6 := hd 6 (by simp [State.HoldDDep])
        have e6 := (hI.at_ 6 13 rfl l6).get
        rw [show val 14 = _ from hI.gd 14 l14] at e14
        rw [show val 6 = _ from hI.gd 6 l6] at e6
        have ag := hI.at_ 6 13 rfl l6
        rw [show val 6 = _ from hI.gd 6 l6] at ag
        refine Draws.wpOp_want (by rfl) (Draws.want_at 6 13 rfl rfl ag) (State.wp_value (v := .int .i64 q) (w' := W) ?_ (hI.same hloc hL _ _ (Cell.grown_refl _) (Draws.upd_at _ _ _)))
        simp only [execOp]
        go_simp
      · obtain rfl := Option.some.inj ho
        have l13 := hd 13 (by simp [State.HoldDDep])
        have e13 := (hI.at_ 13 20 rfl l13).get
        have l15 := hd 15 (by simp [State.HoldDDep])
        have e15 := (hI.at_ 15 22 rfl l15).get
        have l6 := hd 6 (by simp [State.HoldDDep])
        have e6 := (hI.at_ 6 13 rfl l6).get
        rw [show val 13 = _ from hI.gd 13 l13] at e13
        rw [show val 15 = _ from hI.gd 15 l15] at e15
        rw [show val 6 = _ from hI.gd 6 l6] at e6
        have ag := hI.at_ 6 13 rfl l6
        rw [show val 6 = _ from hI.gd 6 l6] at ag
        refine Draws.wpOp_want (by rfl) (Draws.want_at 6 13 rfl rfl ag) (State.wp_value (v := .int .i64 U2) (w' := W) ?_ (hI.same hloc hL _ _ (Cell.grown_refl _) (Draws.upd_at _ _ _)))
        simp only [execOp]
        go_simp
      · obtain rfl := Option.some.inj ho
        have l8 := hd 8 (by simp [State.HoldDDep])
        have e8 := (hI.at_ 8 15 rfl l8).get
        have l16 := hd 16 (by simp [State.HoldDDep])
        have e16 := (hI.at_ 16 23 rfl l16).get
        have l6 := hd 6 (by simp [State.HoldDDep])
        have e6 := (hI.at_ 6 13 rfl l6).get
        rw [show val 8 = _ from hI.gd 8 l8] at e8
        rw [show val 16 = _ from hI.gd 16 l16] at e16
        rw [show val 6 = _ from hI.gd 6 l6] at e6
        have ag := hI.at_ 6 13 rfl l6
        rw [show val 6 = _ from hI.gd 6 l6] at ag
        refine Draws.wpOp_want (by rfl) (Draws.want_at 6 13 rfl rfl ag) (State.wp_value (v := .bool true) (w' := W) ?_ (hI.same hloc hL _ _ (Cell.grown_refl _) (Draws.upd_at _ _ _)))
        simp only [execOp]
        go_simp
      · obtain rfl := Option.some.inj ho
        have l6 := hd 6 (by simp [State.HoldDDep])
        have e6 := (hI.at_ 6 13 rfl l6).get
        have l17 := hd 17 (by simp [State.HoldDDep])
        have e17 := (hI.at_ 17 24 rfl l17).get
        rw [show val 6 = _ from hI.gd 6 l6] at e6
        rw [show val 17 = _ from hI.gd 17 l17] at e17
        refine Draws.wpOp_of (by rfl) rfl (State.wp_value (v := .bool true) (w' := W) ?_ (hI.same hloc hL _ _ (Cell.grown_refl _) (Draws.upd_at _ _ _)))
        simp only [execOp]
        go_simp
      · obtain rfl := Option.some.inj ho
        have l18 := hd 18 (by simp [State.HoldDDep])
        have e18 := (hI.at_ 18 25 rfl l18).get
        rw [show val 18 = _ from hI.gd 18 l18] at e18
        refine Draws.wpOp_of (by rfl) rfl (State.wp_value (v := .bool true) (w' := W) ?_ (hI.same hloc hL _ _ (Cell.grown_refl _) (Draws.upd_at _ _ _)))
        simp only [execOp]
        go_simp
      · obtain rfl := Option.some.inj ho
        have l19 := hd 19 (by simp [State.HoldDDep])
        have e19 := (hI.at_ 19 26 rfl l19).get
        rw [show val 19 = _ from hI.gd 19 l19] at e19
        have ag := hI.at_ 19 26 rfl l19
        rw [show val 19 = _ from hI.gd 19 l19] at ag
        have p4 := (hI.old 4 (by kernel_rfl) rfl).get
        refine Draws.wpOp_want (by rfl) (Draws.want_at 19 26 rfl rfl ag) (State.wp_value (v := .agg #[.int .i64 R', .slice b1 m1 d1, .slice b2 m2 d2, .slice b3 m3 d3, .slice b4 m4 d4]) (w' := W) ?_ (hI.same hloc hL _ _ (Cell.grown_refl _) (Draws.upd_at _ _ _)))
        simp only [execOp]
        go_simp
      · obtain rfl := Option.some.inj ho
        have l20 := hd 20 (by simp [State.HoldDDep])
        have e20 := (hI.at_ 20 27 rfl l20).get
        have l19 := hd 19 (by simp [State.HoldDDep])
        have e19 := (hI.at_ 19 26 rfl l19).get
        rw [show val 20 = _ from hI.gd 20 l20] at e20
        rw [show val 19 = _ from hI.gd 19 l19] at e19
        have ag := hI.at_ 19 26 rfl l19
        rw [show val 19 = _ from hI.gd 19 l19] at ag
        refine Draws.wpOp_want (by rfl) (Draws.want_at 19 26 rfl rfl ag) ?_
        unfold Oper.wp
        simp only [execOp]
        go_simp
        refine Calls.mono (P := Try.prog) (HTB.out W hI.hd.gr) ?_
        rintro e w1 ⟨rfl, hg⟩
        exact hI.same hloc hL _ (.int .i64 Z) hg (Draws.upd_at _ _ _)
      · obtain rfl := Option.some.inj ho
        have l19 := hd 19 (by simp [State.HoldDDep])
        have e19 := (hI.at_ 19 26 rfl l19).get
        rw [show val 19 = _ from hI.gd 19 l19] at e19
        have ag := hI.at_ 19 26 rfl l19
        rw [show val 19 = _ from hI.gd 19 l19] at ag
        have p3 := (hI.old 3 (by kernel_rfl) rfl).get
        refine Draws.wpOp_want (by rfl) (Draws.want_at 19 26 rfl rfl ag) (State.wp_value (v := .agg #[.int .i64 R, .slice a1 n1 c1, .slice a2 n2 c2, .slice a3 n3 c3, .slice a4 n4 c4]) (w' := W) ?_ (hI.same hloc hL _ _ (Cell.grown_refl _) (Draws.upd_at _ _ _)))
        simp only [execOp]
        go_simp
      · obtain rfl := Option.some.inj ho
        have l22 := hd 22 (by simp [State.HoldDDep])
        have e22 := (hI.at_ 22 29 rfl l22).get
        have l19 := hd 19 (by simp [State.HoldDDep])
        have e19 := (hI.at_ 19 26 rfl l19).get
        rw [show val 22 = _ from hI.gd 22 l22] at e22
        rw [show val 19 = _ from hI.gd 19 l19] at e19
        have ag := hI.at_ 19 26 rfl l19
        rw [show val 19 = _ from hI.gd 19 l19] at ag
        refine Draws.wpOp_want (by rfl) (Draws.want_at 19 26 rfl rfl ag) ?_
        unfold Oper.wp
        simp only [execOp]
        go_simp
        refine Calls.mono (P := Try.prog) (HTA.out W hI.hd.gr) ?_
        rintro e w1 ⟨rfl, hg⟩
        exact hI.same hloc hL _ (.int .i64 Y) hg (Draws.upd_at _ _ _)
      · obtain rfl := Option.some.inj ho
        have l19 := hd 19 (by simp [State.HoldDDep])
        have e19 := (hI.at_ 19 26 rfl l19).get
        rw [show val 19 = _ from hI.gd 19 l19] at e19
        have ag := hI.at_ 19 26 rfl l19
        rw [show val 19 = _ from hI.gd 19 l19] at ag
        have p5 := (hI.old 5 (by kernel_rfl) rfl).get
        refine Draws.wpOp_want (by rfl) (Draws.want_at 19 26 rfl rfl ag) (State.wp_value (v := .pointer (some ⟨(K + 1 + 1), 2, none⟩)) (w' := W) ?_ (hI.same hloc hL _ _ (Cell.grown_refl _) (Draws.upd_at _ _ _)))
        simp only [execOp]
        go_simp
      · obtain rfl := Option.some.inj ho
        have l24 := hd 24 (by simp [State.HoldDDep])
        have e24 := (hI.at_ 24 31 rfl l24).get
        have l19 := hd 19 (by simp [State.HoldDDep])
        have e19 := (hI.at_ 19 26 rfl l19).get
        rw [show val 24 = _ from hI.gd 24 l24] at e24
        rw [show val 19 = _ from hI.gd 19 l19] at e19
        have ag := hI.at_ 19 26 rfl l19
        rw [show val 19 = _ from hI.gd 19 l19] at ag
        refine Draws.wpOp_want (by rfl) (Draws.want_at 19 26 rfl rfl ag) (State.wp_value (v := .int .i64 r) (w' := W) ?_ (hI.same hloc hL _ _ (Cell.grown_refl _) (Draws.upd_at _ _ _)))
        simp only [execOp]
        go_simp
      · obtain rfl := Option.some.inj ho
        have l23 := hd 23 (by simp [State.HoldDDep])
        have e23 := (hI.at_ 23 30 rfl l23).get
        have l25 := hd 25 (by simp [State.HoldDDep])
        have e25 := (hI.at_ 25 32 rfl l25).get
        have l19 := hd 19 (by simp [State.HoldDDep])
        have e19 := (hI.at_ 19 26 rfl l19).get
        rw [show val 23 = _ from hI.gd 23 l23] at e23
        rw [show val 25 = _ from hI.gd 25 l25] at e25
        rw [show val 19 = _ from hI.gd 19 l19] at e19
        have ag := hI.at_ 19 26 rfl l19
        rw [show val 19 = _ from hI.gd 19 l19] at ag
        refine Draws.wpOp_want (by rfl) (Draws.want_at 19 26 rfl rfl ag) (State.wp_value (v := .int .i64 Y1) (w' := W) ?_ (hI.same hloc hL _ _ (Cell.grown_refl _) (Draws.upd_at _ _ _)))
        simp only [execOp]
        go_simp
      · obtain rfl := Option.some.inj ho
        have l19 := hd 19 (by simp [State.HoldDDep])
        have e19 := (hI.at_ 19 26 rfl l19).get
        rw [show val 19 = _ from hI.gd 19 l19] at e19
        have ag := hI.at_ 19 26 rfl l19
        rw [show val 19 = _ from hI.gd 19 l19] at ag
        have p5 := (hI.old 5 (by kernel_rfl) rfl).get
        refine Draws.wpOp_want (by rfl) (Draws.want_at 19 26 rfl rfl ag) (State.wp_value (v := .pointer (some ⟨(K + 1 + 1), 3, none⟩)) (w' := W) ?_ (hI.same hloc hL _ _ (Cell.grown_refl _) (Draws.upd_at _ _ _)))
        simp only [execOp]
        go_simp
      · obtain rfl := Option.some.inj ho
        have l27 := hd 27 (by simp [State.HoldDDep])
        have e27 := (hI.at_ 27 34 rfl l27).get
        have l19 := hd 19 (by simp [State.HoldDDep])
        have e19 := (hI.at_ 19 26 rfl l19).get
        rw [show val 27 = _ from hI.gd 27 l27] at e27
        rw [show val 19 = _ from hI.gd 19 l19] at e19
        have ag := hI.at_ 19 26 rfl l19
        rw [show val 19 = _ from hI.gd 19 l19] at ag
        refine Draws.wpOp_want (by rfl) (Draws.want_at 19 26 rfl rfl ag) (State.wp_value (v := .int .i64 s) (w' := W) ?_ (hI.same hloc hL _ _ (Cell.grown_refl _) (Draws.upd_at _ _ _)))
        simp only [execOp]
        go_simp
      · obtain rfl := Option.some.inj ho
        have l26 := hd 26 (by simp [State.HoldDDep])
        have e26 := (hI.at_ 26 33 rfl l26).get
        have l28 := hd 28 (by simp [State.HoldDDep])
        have e28 := (hI.at_ 28 35 rfl l28).get
        have l19 := hd 19 (by simp [State.HoldDDep])
        have e19 := (hI.at_ 19 26 rfl l19).get
        rw [show val 26 = _ from hI.gd 26 l26] at e26
        rw [show val 28 = _ from hI.gd 28 l28] at e28
        rw [show val 19 = _ from hI.gd 19 l19] at e19
        have ag := hI.at_ 19 26 rfl l19
        rw [show val 19 = _ from hI.gd 19 l19] at ag
        refine Draws.wpOp_want (by rfl) (Draws.want_at 19 26 rfl rfl ag) (State.wp_value (v := .int .i64 Y2) (w' := W) ?_ (hI.same hloc hL _ _ (Cell.grown_refl _) (Draws.upd_at _ _ _)))
        simp only [execOp]
        go_simp
      · obtain rfl := Option.some.inj ho
        have l21 := hd 21 (by simp [State.HoldDDep])
        have e21 := (hI.at_ 21 28 rfl l21).get
        have l29 := hd 29 (by simp [State.HoldDDep])
        have e29 := (hI.at_ 29 36 rfl l29).get
        have l19 := hd 19 (by simp [State.HoldDDep])
        have e19 := (hI.at_ 19 26 rfl l19).get
        rw [show val 21 = _ from hI.gd 21 l21] at e21
        rw [show val 29 = _ from hI.gd 29 l29] at e29
        rw [show val 19 = _ from hI.gd 19 l19] at e19
        have ag := hI.at_ 19 26 rfl l19
        rw [show val 19 = _ from hI.gd 19 l19] at ag
        refine Draws.wpOp_want (by rfl) (Draws.want_at 19 26 rfl rfl ag) (State.wp_value (v := .bool eT) (w' := W) ?_ (hI.same hloc hL _ _ (Cell.grown_refl _) (Draws.upd_at _ _ _)))
        simp only [execOp]
        go_simp
      · obtain rfl := Option.some.inj ho
        have l19 := hd 19 (by simp [State.HoldDDep])
        have e19 := (hI.at_ 19 26 rfl l19).get
        have l30 := hd 30 (by simp [State.HoldDDep])
        have e30 := (hI.at_ 30 37 rfl l30).get
        rw [show val 19 = _ from hI.gd 19 l19] at e19
        rw [show val 30 = _ from hI.gd 30 l30] at e30
        refine Draws.wpOp_of (by rfl) rfl (State.wp_value (v := .bool eT) (w' := W) ?_ (hI.same hloc hL _ _ (Cell.grown_refl _) (Draws.upd_at _ _ _)))
        simp only [execOp]
        go_simp
      · obtain rfl := Option.some.inj ho
        have l31 := hd 31 (by simp [State.HoldDDep])
        have e31 := (hI.at_ 31 38 rfl l31).get
        rw [show val 31 = _ from hI.gd 31 l31] at e31
        refine Draws.wpOp_of (by rfl) rfl (State.wp_value (v := .bool eT) (w' := W) ?_ (hI.same hloc hL _ _ (Cell.grown_refl _) (Draws.upd_at _ _ _)))
        simp only [execOp]
        go_simp
    case last =>
      intro L a W val G hI hall
      have v32 : val 32 = .bool eT := hI.gd 32 (hall 32 (by simp))
      have hgr : w.grownBy W none := hI.hd.gr
      have ha := hI.frame (by kernel_rfl) hall
      refine hKk _ _ ?_
      clear hKk hI hall HSA HSB HMA HMB HTA HTB HE
      simp [Draws.frameOf, Draws.slotOf, Act.put, List.range, List.range.loop] at ha
      subst ha
      rw [v32]
      clear v32
      go_wp2_with fail
      go_ret
      exact ⟨rfl, hgr⟩
end Go.Proofs.Ytcboogodphpjbaa.State
