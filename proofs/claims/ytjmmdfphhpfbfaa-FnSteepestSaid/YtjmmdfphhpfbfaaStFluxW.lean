/- States: SteepestFace of the reference model, as a contract: what it answers; nothing that was there is written (written by wip/tools/stflux.py).
   Conditions: at most 2^20 leaves and numbers. -/
import Derived.Test.YtjmmdfphhpfbfaaStFluxT
import Derived.Test.YtjmmdfphhpfbfaaStFluxA
set_option maxRecDepth 100000
namespace Go.Proofs.Ytjmmdfphhpfbfaa.State
open Go.ChangeShapes Go.WideShapes Go.ChangeAt Go.RowKit Go.Joins Go.Proofs.Ytjmmdfphhpfbfaa.Cell Go.Proofs.Ytjmmdfphhpfbfaa.Mesh Go.Proofs.Ytjmmdfphhpfbfaa.Law Go.Proofs.Ytjmmdfphhpfbfaa.Ints Go.Proofs.Ytjmmdfphhpfbfaa.Draws Go.Deep
set_option linter.unusedVariables false

set_option maxHeartbeats 8000000 in
theorem specSteepest_is (R : Int) (a1 a2 a3 a4 : Option Addr) (n1 n2 n3 n4 c1 c2 c3 c4 : Nat) (xs : List C3) (ms ts bs : List Int) (w : World) (h : ReadsS w a1 a2 a3 a4 n1 n2 n3 n4 xs ms ts bs) (h1 : n1 ≤ 1048576) (h2 : n2 ≤ 1048576) (h3 : n3 ≤ 1048576) (h4 : n4 ≤ 1048576) :
    Calls Try.prog 25 #[.agg #[.int .i64 R, .slice a1 n1 c1, .slice a2 n2 c2, .slice a3 n3 c3, .slice a4 n4 c4]] w fun e w' => e = .returned (.int .i64 (steepG R xs ms ts bs)) ∧ w.grownBy w' none := by
  have hok : ∀ u, w.grownBy u none → Calls Try.prog 33 #[.agg #[.int .i64 R, .slice a1 n1 c1, .slice a2 n2 c2, .slice a3 n3 c3, .slice a4 n4 c4]] u fun e w' => e = .returned (.bool (stOk R xs ms ts bs)) ∧ u.grownBy w' none := fun u hu => specStateOk_is R a1 a2 a3 a4 n1 n2 n3 n4 c1 c2 c3 c4 xs ms ts bs u (h.on hu) h1 h2 h3 h4
  have HOK := Lib.hid hok
  have HE := Lib.hid ((Held.nil w).box 29 #[.int .i64 R, .slice a1 n1 c1, .slice a2 n2 c2, .slice a3 n3 c3, .slice a4 n4 c4])
  clear hok
  unfold steepG
  cases hs : stOk R xs ms ts bs with
  | false =>
    rw [hs] at HOK
    clear hs
    go_enter Try.func25, Try.ntmps25
    go_upto_region 1 with fail
    generalize w.alloc (.cells #[.int .i64 R, .slice a1 n1 c1, .slice a2 n2 c2, .slice a3 n3 c3, .slice a4 n4 c4] 29) = W0 at *
    obtain ⟨p0, p1, p2, p3, p4⟩ := box5 (HE.out.nth 0 rfl)
    go_wp2_with (go_at_call 33; ((with_reducible refine (HOK.out _ HE.out.gr).mono ?_); rintro e w1 ⟨rfl, hg⟩; have HE1 := Lib.hid (HE.out.on hg); clear hg))
    go_ret
    exact ⟨rfl, HE1.out.gr⟩
  | true =>
    rw [hs] at HOK
    rw [if_pos rfl]
    obtain ⟨-, hx0, hx1⟩ := mesh_parts (show meshOk R xs = true by
      obtain ⟨p1, -⟩ := stOk_parts hs
      unfold balanced at p1; simp only [Bool.and_eq_true] at p1; exact p1.1)
    have hl := h.l.len
    obtain rfl : n2 = n1 := by rw [← h.m.len, (stOk_parts hs).2.1.1, hl]
    obtain ⟨p, rfl⟩ : ∃ p, n2 = p + 1 := ⟨n2 - 1, by omega⟩
    have hpi : (p : Int) ≤ 128 := by omega
    rw [hl, Nat.add_sub_cancel]
    have HSX := Lib.hid fun (k : Nat) (hk : k < p + 1) (u : World) (hu : w.grownBy u none) => specSurf_is R a1 a2 a3 a4 (p + 1) (p + 1) n3 n4 c1 c2 c3 c4 k xs ms ts bs u (h.on hu) h1 hs hk
    have HBD := Lib.hid fun (k : Nat) (hk : k < p + 1) => leaf_bounds hs (k := k) (by omega)
    have HSB := Lib.hid fun (k : Nat) (hk : k + 1 ≤ p + 1) => steep_bounds hs k (by omega)
    clear hs h h1 h2 h3 h4 hx0 hx1 hl
    go_enter Try.func25, Try.ntmps25
    go_upto_region 1 with fail
    generalize w.alloc (.cells #[.int .i64 R, .slice a1 (p + 1) c1, .slice a2 (p + 1) c2, .slice a3 n3 c3, .slice a4 n4 c4] 29) = W0 at *
    obtain ⟨p0, p1, p2, p3, p4⟩ := box5 (HE.out.nth 0 rfl)
    go_wp2_with (go_at_call 33; ((with_reducible refine (HOK.out _ HE.out.gr).mono ?_); rintro e w1 ⟨rfl, hg⟩; have HE1 := Lib.hid (HE.out.on hg); clear hg))
    clear p0 p1 p2 p3 p4 HE HOK
    go_loopw [3, 4, 5] (fun a b i wr => ∃ (k : Nat) (u v : Int), (k : Int) ≤ p ∧ i = .int .i64 k ∧ a = .int .i64 u ∧ b = .int .i64 v ∧ Hid (u = (steep xs ms bs k).1 ∧ v = (steep xs ms bs k).2) ∧ Hid (Held w wr [boxG w.heap.size 29 #[.int .i64 R, .slice a1 (p + 1) c1, .slice a2 (p + 1) c2, .slice a3 n3 c3, .slice a4 n4 c4]])) (fun _ _ i _ => p - (intOf i).toNat)
    case atStart => exact ⟨0, -1, -1, by omega, rfl, rfl, rfl, Lib.hid ⟨rfl, rfl⟩, HE1⟩
    case round =>
      clear HE1
      obtain ⟨k, u, v, hk, rfl, rfl, rfl, HS, HF⟩ := hrel
      obtain ⟨z0, z1, z2, z3⟩ := HSB.out k (by omega)
      rw [← HS.out.1] at z0 z1
      rw [← HS.out.2] at z2 z3
      obtain ⟨p0, p1, p2, p3, p4⟩ := box5 (HF.out.nth 0 rfl)
      by_cases hlt : (k : Int) < p
      · have HA := Lib.hid (HSX.out k (by omega))
        have hB : ∀ u, w.grownBy u none → Calls Try.prog 35 #[.agg #[.int .i64 R, .slice a1 (p + 1) c1, .slice a2 (p + 1) c2, .slice a3 n3 c3, .slice a4 n4 c4], .int .i64 ((k : Int) + 1)] u fun e w' => e = .returned (.int .i64 (surf xs ms bs (k + 1))) ∧ u.grownBy w' none := fun u hu => HSX.out (k + 1) (by omega) u hu
        have HB := Lib.hid hB
        clear hB
        obtain ⟨s0, s1, -⟩ := HBD.out k (by omega)
        obtain ⟨r0, r1, -⟩ := HBD.out (k + 1) (by omega)
        have HP := Lib.hid fun (u : World) => (specGap_is _ _ s0 s1 r0 r1 u).mono fun e w' hh => (⟨hh.1, hh.2 ▸ grown_refl _⟩ : e = .returned (.int .i64 (gapN (surf xs ms bs k) (surf xs ms bs (k + 1)))) ∧ u.grownBy w' none)
        obtain ⟨F, hgp⟩ : ∃ F, gapF xs ms bs k = F := ⟨_, rfl⟩
        have hF : gapN (surf xs ms bs k) (surf xs ms bs (k + 1)) = F := hgp
        obtain ⟨n1, n2⟩ := steep_next xs ms bs k
        rw [hgp, ← HS.out.2] at n1 n2
        rw [hF] at HP
        clear hgp hF
        generalize surf xs ms bs k = s at *
        generalize surf xs ms bs (k + 1) = t at *
        have e1 : IntKind.i64.wrap ((k : Int) + 1) = (k : Int) + 1 := IntWalk.i64_in _ (by omega)
        go_upto_region 8 with fail
        rename_i K_ hK
        refine Draws.wp_region_tabG (w := w) rfl (by kernel_rfl) (by kernel_rfl) State.StpGDep (by kernel_rfl) [Law.boxG w.heap.size 29 #[.int .i64 R, .slice a1 (p + 1) c1, .slice a2 (p + 1) c2, .slice a3 n3 c3, .slice a4 n4 c4]] [] (fun _ => Law.emptyG) (State.StpG R a1 a2 a3 a4 (p + 1) (p + 1) n3 n4 c1 c2 c3 c4 k w.heap.size s t F) ?start ?step ?last
        case start => exact HF.out.on (Mesh.gr_drew (Cell.grown_refl _))
        case step =>
          clear hK
          intro L a W val G i o hI ho hL hd
          have hi : i < 9 := by have := (Array.getElem?_eq_some_iff.1 ho).1; simpa using this
          have hloc := State.StpG_local R a1 a2 a3 a4 (p + 1) (p + 1) n3 n4 c1 c2 c3 c4 k w.heap.size s t F
          obtain ⟨z0, z1, z2, z3, z4⟩ := Law.box5 (hI.hd.nth 0 rfl)
          rcases (show i = 0 ∨ i = 1 ∨ i = 2 ∨ i = 3 ∨ i = 4 ∨ i = 5 ∨ i = 6 ∨ i = 7 ∨ i = 8 by omega) with rfl | rfl | rfl | rfl | rfl | rfl | rfl | rfl | rfl
          · obtain rfl := Option.some.inj ho
            have p1 := (hI.old 1 (by kernel_rfl) rfl).get
            refine Draws.wpOp_of (by rfl) rfl (State.wp_value (v := .agg #[.int .i64 R, .slice a1 (p + 1) c1, .slice a2 (p + 1) c2, .slice a3 n3 c3, .slice a4 n4 c4]) (w' := W) ?_ (hI.same hloc hL _ _ (Cell.grown_refl _) (Draws.upd_at _ _ _)))
            simp only [execOp]
            go_simp
          · obtain rfl := Option.some.inj ho
            have p5 := (hI.old 5 (by kernel_rfl) rfl).get
            refine Draws.wpOp_of (by rfl) rfl (State.wp_value (v := .int .i64 (k : Int)) (w' := W) ?_ (hI.same hloc hL _ _ (Cell.grown_refl _) (Draws.upd_at _ _ _)))
            simp only [execOp]
            go_simp
          · obtain rfl := Option.some.inj ho
            have l0 := hd 0 (by simp [State.StpGDep])
            have e0 := (hI.at_ 0 19 rfl l0).get
            have l1 := hd 1 (by simp [State.StpGDep])
            have e1 := (hI.at_ 1 20 rfl l1).get
            rw [show val 0 = _ from hI.gd 0 l0] at e0
            rw [show val 1 = _ from hI.gd 1 l1] at e1
            refine Draws.wpOp_of (by rfl) rfl ?_
            unfold Oper.wp
            simp only [execOp]
            go_simp
            refine Calls.mono (P := Try.prog) (HA.out W hI.hd.gr) ?_
            rintro e w1 ⟨rfl, hg⟩
            exact hI.same hloc hL _ (.int .i64 s) hg (Draws.upd_at _ _ _)
          · obtain rfl := Option.some.inj ho
            have p1 := (hI.old 1 (by kernel_rfl) rfl).get
            refine Draws.wpOp_of (by rfl) rfl (State.wp_value (v := .agg #[.int .i64 R, .slice a1 (p + 1) c1, .slice a2 (p + 1) c2, .slice a3 n3 c3, .slice a4 n4 c4]) (w' := W) ?_ (hI.same hloc hL _ _ (Cell.grown_refl _) (Draws.upd_at _ _ _)))
            simp only [execOp]
            go_simp
          · obtain rfl := Option.some.inj ho
            have p5 := (hI.old 5 (by kernel_rfl) rfl).get
            refine Draws.wpOp_of (by rfl) rfl (State.wp_value (v := .int .i64 (k : Int)) (w' := W) ?_ (hI.same hloc hL _ _ (Cell.grown_refl _) (Draws.upd_at _ _ _)))
            simp only [execOp]
            go_simp
          · obtain rfl := Option.some.inj ho
            have l4 := hd 4 (by simp [State.StpGDep])
            have e4 := (hI.at_ 4 23 rfl l4).get
            rw [show val 4 = _ from hI.gd 4 l4] at e4
            refine Draws.wpOp_of (by rfl) rfl (State.wp_value (v := .int .i64 ((k : Int) + 1)) (w' := W) ?_ (hI.same hloc hL _ _ (Cell.grown_refl _) (Draws.upd_at _ _ _)))
            simp only [execOp]
            go_simp
          · obtain rfl := Option.some.inj ho
            have l3 := hd 3 (by simp [State.StpGDep])
            have e3 := (hI.at_ 3 22 rfl l3).get
            have l5 := hd 5 (by simp [State.StpGDep])
            have e5 := (hI.at_ 5 24 rfl l5).get
            rw [show val 3 = _ from hI.gd 3 l3] at e3
            rw [show val 5 = _ from hI.gd 5 l5] at e5
            refine Draws.wpOp_of (by rfl) rfl ?_
            unfold Oper.wp
            simp only [execOp]
            go_simp
            refine Calls.mono (P := Try.prog) (HB.out W hI.hd.gr) ?_
            rintro e w1 ⟨rfl, hg⟩
            exact hI.same hloc hL _ (.int .i64 t) hg (Draws.upd_at _ _ _)
          · obtain rfl := Option.some.inj ho
            have l2 := hd 2 (by simp [State.StpGDep])
            have e2 := (hI.at_ 2 21 rfl l2).get
            have l6 := hd 6 (by simp [State.StpGDep])
            have e6 := (hI.at_ 6 25 rfl l6).get
            rw [show val 2 = _ from hI.gd 2 l2] at e2
            rw [show val 6 = _ from hI.gd 6 l6] at e6
            refine Draws.wpOp_of (by rfl) rfl ?_
            unfold Oper.wp
            simp only [execOp]
            go_simp
            refine Calls.mono (P := Try.prog) (HP.out W) ?_
            rintro e w1 ⟨rfl, hg⟩
            exact hI.same hloc hL _ (.int .i64 F) hg (Draws.upd_at _ _ _)
          · obtain rfl := Option.some.inj ho
            have l7 := hd 7 (by simp [State.StpGDep])
            have e7 := (hI.at_ 7 26 rfl l7).get
            rw [show val 7 = _ from hI.gd 7 l7] at e7
            refine Draws.wpOp_of (by rfl) rfl (State.wp_value (v := .int .i64 F) (w' := W) ?_ (hI.same hloc hL _ _ (Cell.grown_refl _) (Draws.upd_at _ _ _)))
            simp only [execOp]
            go_simp
        case last =>
          intro L a_ W val G hI hall
          have v8 : val 8 = .int .i64 F := hI.gd 8 (hall 8 (by simp))
          have HF2 := Lib.hid (show Law.Held w W [Law.boxG w.heap.size 29 #[.int .i64 R, .slice a1 (p + 1) c1, .slice a2 (p + 1) c2, .slice a3 n3 c3, .slice a4 n4 c4]] from hI.hd)
          have ha := hI.frame (by kernel_rfl) hall
          refine hK _ _ ?_
          clear hK hI hall HF HA HB HP p0 p1 p2 p3 p4
          simp [Draws.frameOf, Draws.slotOf, Act.put, List.range, List.range.loop] at ha
          subst ha
          rw [v8]
          clear v8
          by_cases hg : F > v
          · skip
            have HN := Lib.hid (n1 hg)
            clear n1 n2
            go_wp2_with fail
            go_roundw
            case rel => exact ⟨k + 1, k, F, by omega, by go_num, rfl, rfl, Lib.hid ⟨by rw [HN.out], by rw [HN.out]⟩, HF2⟩
            case measure => simp [intOf]; omega
          · skip
            have HN := Lib.hid (n2 hg)
            clear n1 n2
            go_wp2_with fail
            go_roundw
            case rel => exact ⟨k + 1, u, v, by omega, by go_num, rfl, rfl, Lib.hid ⟨by rw [HN.out]; exact HS.out.1, by rw [HN.out]; exact HS.out.2⟩, HF2⟩
            case measure => simp [intOf]; omega
      · obtain rfl : p = k := by omega
        go_wp2_with fail
        go_ret
        exact ⟨congrArg (fun z => Ending.returned (.int .i64 z)) HS.out.1, HF.out.gr⟩
end Go.Proofs.Ytjmmdfphhpfbfaa.State
