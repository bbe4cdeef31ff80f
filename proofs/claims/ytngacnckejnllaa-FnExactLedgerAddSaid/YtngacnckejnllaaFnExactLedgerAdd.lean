/- Proved: for all arguments the law FnExactLedgerAdd returns true, that is, the program's LedgerAdd answers as the reference model's LedgerAdd.
   Conditions: none besides those that the given row prints. -/
import Derived.Test.YtngacnckejnllaaRows
import Derived.WalkKit
import Derived.ProofKit
import Derived.OpenShut
import Derived.ShutString
import Derived.ChangeOld
import Derived.Below
import Derived.ChangeSame
import Derived.Lib.SmallJoins
import Derived.Test.YtngacnckejnllaaExLedgerAdd
import Derived.Test.YtngacnckejnllaaStLaw
namespace Go.Proofs.Ytngacnckejnllaa.fnExactLedgerAdd
open Go.ChangeShapes Go.WideShapes Go.ChangeAt Go.RowKit Go.Joins
set_option linter.unusedVariables false
set_option maxRecDepth 100000

theorem own : ownKnob Try.prog.godebug = none := by kernel_rfl
theorem cells57 : Try.prog.cellsOf 57 = 4 := by kernel_rfl

set_option maxHeartbeats 16000000 in
theorem walk (a0_0 a0_1 a0_2 a0_3 : Int) (w0_0 : (Lit.int .i64 a0_0).wf = true) (w0_1 : (Lit.int .i64 a0_1).wf = true) (w0_2 : (Lit.int .i64 a0_2).wf = true) (w0_3 : (Lit.int .i64 a0_3).wf = true) (a1_0 a1_1 a1_2 a1_3 : Int) (w1_0 : (Lit.int .i64 a1_0).wf = true) (w1_1 : (Lit.int .i64 a1_1).wf = true) (w1_2 : (Lit.int .i64 a1_2).wf = true) (w1_3 : (Lit.int .i64 a1_3).wf = true) (w : World) :
    Calls Try.prog 7 #[.agg #[.int .i64 a0_0, .int .i64 a0_1, .int .i64 a0_2, .int .i64 a0_3], .agg #[.int .i64 a1_0, .int .i64 a1_1, .int .i64 a1_2, .int .i64 a1_3]] w fun e w' => e = .returned (.bool true) ∧ Below w.heap.size w w' := by
  obtain ⟨y0_0, y0_1, y0_2, y0_3, hS, hI⟩ := State.both_LedgerAdd a0_0 w0_0 a0_1 w0_1 a0_2 w0_2 a0_3 w0_3 a1_0 w1_0 a1_1 w1_1 a1_2 w1_2 a1_3 w1_3
  have HSB := Lib.hid hS; have HIB := Lib.hid hI; clear hS hI
  have he := ((Law.Held.nil w).box 57 #[.int .i64 a0_0, .int .i64 a0_1, .int .i64 a0_2, .int .i64 a0_3]).box 57 #[.int .i64 a1_0, .int .i64 a1_1, .int .i64 a1_2, .int .i64 a1_3]
  try simp only [World.size_alloc] at he
  have HE0 := Lib.hid he; clear he
  go_enter Try.func7, Try.ntmps7
  go_upto_region 1 with fail
  generalize (w.alloc (.cells #[.int .i64 a0_0, .int .i64 a0_1, .int .i64 a0_2, .int .i64 a0_3] 57)).alloc (.cells #[.int .i64 a1_0, .int .i64 a1_1, .int .i64 a1_2, .int .i64 a1_3] 57) = W0 at *
  obtain ⟨K, hKK⟩ : ∃ K, K = w.heap.size := ⟨_, rfl⟩
  rw [← hKK] at HE0 ⊢
  have HKK := Lib.hid hKK; clear hKK
  rename_i KK hKK
  refine Draws.wp_region_tabG (w := w) rfl (by kernel_rfl) (by kernel_rfl) State.ExLedgerAdd1Dep (by kernel_rfl) (Law.gsOf HE0.out) [5] (fun _ => Law.emptyG) (State.ExLedgerAdd1 a0_0 a0_1 a0_2 a0_3 a1_0 a1_1 a1_2 a1_3 y0_0 y0_1 y0_2 y0_3) ?start ?step ?last
  case start => exact (HE0.out.on (by first | exact Mesh.gr_drew (Cell.grown_refl _) | exact Mesh.gr_drew (Cell.g_drewN (Cell.grown_refl _) _))).addE
  case step =>
    clear hKK
    intro L a W val G i o hI ho hL hd
    have hi : i < 7 := by have := (Array.getElem?_eq_some_iff.1 ho).1; simpa using this
    have hloc := State.ExLedgerAdd1_local a0_0 a0_1 a0_2 a0_3 a1_0 a1_1 a1_2 a1_3 y0_0 y0_1 y0_2 y0_3
    obtain ⟨z0_0, z0_1, z0_2, z0_3⟩ := Law.cells4 (hI.hd.nth 0 rfl)
    obtain ⟨z1_0, z1_1, z1_2, z1_3⟩ := Law.cells4 (hI.hd.nth 1 rfl)
    rcases (show i = 0 ∨ i = 1 ∨ i = 2 ∨ i = 3 ∨ i = 4 ∨ i = 5 ∨ i = 6 by omega) with rfl | rfl | rfl | rfl | rfl | rfl | rfl
    · obtain rfl := Option.some.inj ho
      have p2 := (hI.old 2 (by kernel_rfl) rfl).get
      refine Draws.wpOp_of (by rfl) rfl (State.wp_value (v := .agg #[.int .i64 a0_0, .int .i64 a0_1, .int .i64 a0_2, .int .i64 a0_3]) (w' := W) ?_ (hI.same hloc hL _ _ (Cell.grown_refl _) (Draws.upd_at _ _ _)))
      simp only [execOp]
      go_simp
    · obtain rfl := Option.some.inj ho
      have l0 := hd 0 (by simp [State.ExLedgerAdd1Dep])
      have e0 := (hI.at_ 0 7 rfl l0).get
      rw [show val 0 = _ from hI.gd 0 l0] at e0
      refine Draws.wpOp_of (by rfl) rfl ?_
      unfold Oper.wp
      simp only [execOp]
      go_simp
      refine Calls.mono (P := Try.prog) (State.toLedger_is a0_0 a0_1 a0_2 a0_3 W) ?_
      rintro e w1 ⟨rfl, hg⟩
      exact hI.same hloc hL _ (.agg #[.int .i64 a0_0, .int .i64 a0_1, .int .i64 a0_2, .int .i64 a0_3]) hg (Draws.upd_at _ _ _)
    · obtain rfl := Option.some.inj ho
      have p3 := (hI.old 3 (by kernel_rfl) rfl).get
      refine Draws.wpOp_of (by rfl) rfl (State.wp_value (v := .agg #[.int .i64 a1_0, .int .i64 a1_1, .int .i64 a1_2, .int .i64 a1_3]) (w' := W) ?_ (hI.same hloc hL _ _ (Cell.grown_refl _) (Draws.upd_at _ _ _)))
      simp only [execOp]
      go_simp
    · obtain rfl := Option.some.inj ho
      have l2 := hd 2 (by simp [State.ExLedgerAdd1Dep])
      have e2 := (hI.at_ 2 9 rfl l2).get
      rw [show val 2 = _ from hI.gd 2 l2] at e2
      refine Draws.wpOp_of (by rfl) rfl ?_
      unfold Oper.wp
      simp only [execOp]
      go_simp
      refine Calls.mono (P := Try.prog) (State.toLedger_is a1_0 a1_1 a1_2 a1_3 W) ?_
      rintro e w1 ⟨rfl, hg⟩
      exact hI.same hloc hL _ (.agg #[.int .i64 a1_0, .int .i64 a1_1, .int .i64 a1_2, .int .i64 a1_3]) hg (Draws.upd_at _ _ _)
    · obtain rfl := Option.some.inj ho
      have l1 := hd 1 (by simp [State.ExLedgerAdd1Dep])
      have e1 := (hI.at_ 1 8 rfl l1).get
      have l3 := hd 3 (by simp [State.ExLedgerAdd1Dep])
      have e3 := (hI.at_ 3 10 rfl l3).get
      rw [show val 1 = _ from hI.gd 1 l1] at e1
      rw [show val 3 = _ from hI.gd 3 l3] at e3
      refine Draws.wpOp_of (by rfl) rfl ?_
      unfold Oper.wp
      simp only [execOp]
      go_simp
      refine Calls.mono (P := Try.prog) (HSB.out W  ) ?_
      rintro e w1 ⟨rfl, hg⟩
      exact hI.same hloc hL _ (.agg #[.int .i64 y0_0, .int .i64 y0_1, .int .i64 y0_2, .int .i64 y0_3]) hg (Draws.upd_at _ _ _)
    · obtain rfl := Option.some.inj ho
      refine Draws.wpOp_of (by rfl) rfl (State.wp_value (v := .pointer (some ⟨W.heap.size, 0, none⟩)) (w' := W.alloc (.cells #[.int .i64 0, .int .i64 0, .int .i64 0, .int .i64 0] 35)) ?_ ?_)
      · simp only [execOp]
        go_simp
      exact hI.made hloc hL _ _ (Law.boxG W.heap.size 35 #[.int .i64 0, .int .i64 0, .int .i64 0, .int .i64 0]) (hI.hd.fill 2 (g' := Law.boxG W.heap.size 35 #[.int .i64 0, .int .i64 0, .int .i64 0, .int .i64 0]) (congrArg some (hI.no 5 hL)) (World.grownBy_alloc W _ none) (World.alloc_heap_new W _) (fun b hb => by have : b = W.heap.size := (by simpa [Law.boxG] using hb); subst this; simp)) ⟨W.heap.size, _, _, _, _, Draws.upd_at _ _ _, Draws.upd_at _ _ _⟩
    · obtain rfl := Option.some.inj ho
      have l5 := hd 5 (by simp [State.ExLedgerAdd1Dep])
      have e5 := (hI.at_ 5 5 rfl l5).get
      have l4 := hd 4 (by simp [State.ExLedgerAdd1Dep])
      have e4 := (hI.at_ 4 11 rfl l4).get
      obtain ⟨b1_5, o5_0, o5_1, o5_2, o5_3, v5, -⟩ := hI.gd 5 l5
      rw [v5] at e5
      rw [show val 4 = _ from hI.gd 4 l4] at e4
      obtain ⟨b1_5', o5_0, o5_1, o5_2, o5_3, v5', g5⟩ := hI.gd 5 l5
      rw [v5] at v5'
      cases v5'
      obtain ⟨y0, y1, y2, y3⟩ := Law.cells4 (hI.hd.nth 2 (congrArg some g5))
      obtain ⟨f0, f1, f2, f3⟩ := Law.frees4 (hI.hd.nth 2 (congrArg some g5))
      refine Draws.wpOp_of (by rfl) rfl (State.wp_skip (w' := (((W.setCell ⟨b1_5, 0, none⟩ (.int .i64 y0_0)).setCell ⟨b1_5, 1, none⟩ (.int .i64 y0_1)).setCell ⟨b1_5, 2, none⟩ (.int .i64 y0_2)).setCell ⟨b1_5, 3, none⟩ (.int .i64 y0_3)) ?_ ?_)
      · simp only [execOp]
        go_simp
      exact hI.turned (c := 5) hloc hL _ undef (Law.boxG b1_5 35 #[.int .i64 y0_0, .int .i64 y0_1, .int .i64 y0_2, .int .i64 y0_3]) (hI.hd.put4 2 (congrArg some g5) (.int .i64 y0_0) (.int .i64 y0_1) (.int .i64 y0_2) (.int .i64 y0_3)) l5 (by kernel_rfl) ⟨b1_5, _, _, _, _, v5, Draws.upd_at _ _ _⟩ ⟨b1_5, v5, (show val 4 = _ from hI.gd 4 l4), Draws.upd_at _ _ _⟩
  case last =>
    intro L a W val G hI hall
    have al : ∀ i, i < 7 → L i = true := fun i hi => hall i (by simpa using hi)
    obtain ⟨b1_5, v5, -, r5⟩ := hI.gd 6 (al 6 (by decide))
    have hH := hI.hd
    dsimp only [Law.gsOf] at hH
    simp only [List.map_cons, List.map_nil] at hH
    rw [r5] at hH
    have HE1 := Lib.hid hH
    have ha := hI.frame (by kernel_rfl) hall
    refine hKK _ _ ?_
    clear hKK hI hH hall al r5
    simp [Draws.frameOf, Draws.slotOf, Act.put, List.range, List.range.loop] at ha
    subst ha
    rw [v5]
    go_upto_region 2 with fail
    rename_i KK hKK
    refine Draws.wp_region_tabG (w := w) rfl (by kernel_rfl) (by kernel_rfl) State.ExLedgerAdd2Dep (by kernel_rfl) (Law.gsOf HE1.out) [5] (fun _ => Law.emptyG) (State.ExLedgerAdd2 a0_0 a0_1 a0_2 a0_3 a1_0 a1_1 a1_2 a1_3 y0_0 y0_1 y0_2 y0_3) ?start ?step ?last
    case start => exact (HE1.out.on (by first | exact Mesh.gr_drew (Cell.grown_refl _) | exact Mesh.gr_drew (Cell.g_drewN (Cell.grown_refl _) _))).addE
    case step =>
      clear hKK
      intro L a W val G i o hI ho hL hd
      have hi : i < 7 := by have := (Array.getElem?_eq_some_iff.1 ho).1; simpa using this
      have hloc := State.ExLedgerAdd2_local a0_0 a0_1 a0_2 a0_3 a1_0 a1_1 a1_2 a1_3 y0_0 y0_1 y0_2 y0_3
      obtain ⟨z0_0, z0_1, z0_2, z0_3⟩ := Law.cells4 (hI.hd.nth 0 rfl)
      obtain ⟨z1_0, z1_1, z1_2, z1_3⟩ := Law.cells4 (hI.hd.nth 1 rfl)
      rcases (show i = 0 ∨ i = 1 ∨ i = 2 ∨ i = 3 ∨ i = 4 ∨ i = 5 ∨ i = 6 by omega) with rfl | rfl | rfl | rfl | rfl | rfl | rfl
      · obtain rfl := Option.some.inj ho
        have p2 := (hI.old 2 (by kernel_rfl) rfl).get
        refine Draws.wpOp_of (by rfl) rfl (State.wp_value (v := .agg #[.int .i64 a0_0, .int .i64 a0_1, .int .i64 a0_2, .int .i64 a0_3]) (w' := W) ?_ (hI.same hloc hL _ _ (Cell.grown_refl _) (Draws.upd_at _ _ _)))
        simp only [execOp]
        go_simp
      · obtain rfl := Option.some.inj ho
        have l0 := hd 0 (by simp [State.ExLedgerAdd2Dep])
        have e0 := (hI.at_ 0 12 rfl l0).get
        rw [show val 0 = _ from hI.gd 0 l0] at e0
        refine Draws.wpOp_of (by rfl) rfl ?_
        unfold Oper.wp
        simp only [execOp]
        go_simp
        refine Calls.mono (P := Try.prog) (State.toLedger_is a0_0 a0_1 a0_2 a0_3 W) ?_
        rintro e w1 ⟨rfl, hg⟩
        exact hI.same hloc hL _ (.agg #[.int .i64 a0_0, .int .i64 a0_1, .int .i64 a0_2, .int .i64 a0_3]) hg (Draws.upd_at _ _ _)
      · obtain rfl := Option.some.inj ho
        have p3 := (hI.old 3 (by kernel_rfl) rfl).get
        refine Draws.wpOp_of (by rfl) rfl (State.wp_value (v := .agg #[.int .i64 a1_0, .int .i64 a1_1, .int .i64 a1_2, .int .i64 a1_3]) (w' := W) ?_ (hI.same hloc hL _ _ (Cell.grown_refl _) (Draws.upd_at _ _ _)))
        simp only [execOp]
        go_simp
      · obtain rfl := Option.some.inj ho
        have l2 := hd 2 (by simp [State.ExLedgerAdd2Dep])
        have e2 := (hI.at_ 2 14 rfl l2).get
        rw [show val 2 = _ from hI.gd 2 l2] at e2
        refine Draws.wpOp_of (by rfl) rfl ?_
        unfold Oper.wp
        simp only [execOp]
        go_simp
        refine Calls.mono (P := Try.prog) (State.toLedger_is a1_0 a1_1 a1_2 a1_3 W) ?_
        rintro e w1 ⟨rfl, hg⟩
        exact hI.same hloc hL _ (.agg #[.int .i64 a1_0, .int .i64 a1_1, .int .i64 a1_2, .int .i64 a1_3]) hg (Draws.upd_at _ _ _)
      · obtain rfl := Option.some.inj ho
        have l1 := hd 1 (by simp [State.ExLedgerAdd2Dep])
        have e1 := (hI.at_ 1 13 rfl l1).get
        have l3 := hd 3 (by simp [State.ExLedgerAdd2Dep])
        have e3 := (hI.at_ 3 15 rfl l3).get
        rw [show val 1 = _ from hI.gd 1 l1] at e1
        rw [show val 3 = _ from hI.gd 3 l3] at e3
        refine Draws.wpOp_of (by rfl) rfl ?_
        unfold Oper.wp
        simp only [execOp]
        go_simp
        refine Calls.mono (P := Try.prog) (HIB.out W  ) ?_
        rintro e w1 ⟨rfl, hg⟩
        exact hI.same hloc hL _ (.agg #[.int .i64 y0_0, .int .i64 y0_1, .int .i64 y0_2, .int .i64 y0_3]) hg (Draws.upd_at _ _ _)
      · obtain rfl := Option.some.inj ho
        refine Draws.wpOp_of (by rfl) rfl (State.wp_value (v := .pointer (some ⟨W.heap.size, 0, none⟩)) (w' := W.alloc (.cells #[.int .i64 0, .int .i64 0, .int .i64 0, .int .i64 0] 35)) ?_ ?_)
        · simp only [execOp]
          go_simp
        exact hI.made hloc hL _ _ (Law.boxG W.heap.size 35 #[.int .i64 0, .int .i64 0, .int .i64 0, .int .i64 0]) (hI.hd.fill 3 (g' := Law.boxG W.heap.size 35 #[.int .i64 0, .int .i64 0, .int .i64 0, .int .i64 0]) (congrArg some (hI.no 5 hL)) (World.grownBy_alloc W _ none) (World.alloc_heap_new W _) (fun b hb => by have : b = W.heap.size := (by simpa [Law.boxG] using hb); subst this; simp)) ⟨W.heap.size, _, _, _, _, Draws.upd_at _ _ _, Draws.upd_at _ _ _⟩
      · obtain rfl := Option.some.inj ho
        have l5 := hd 5 (by simp [State.ExLedgerAdd2Dep])
        have e5 := (hI.at_ 5 6 rfl l5).get
        have l4 := hd 4 (by simp [State.ExLedgerAdd2Dep])
        have e4 := (hI.at_ 4 16 rfl l4).get
        obtain ⟨b2_5, o5_0, o5_1, o5_2, o5_3, v5, -⟩ := hI.gd 5 l5
        rw [v5] at e5
        rw [show val 4 = _ from hI.gd 4 l4] at e4
        obtain ⟨b2_5', o5_0, o5_1, o5_2, o5_3, v5', g5⟩ := hI.gd 5 l5
        rw [v5] at v5'
        cases v5'
        obtain ⟨y0, y1, y2, y3⟩ := Law.cells4 (hI.hd.nth 3 (congrArg some g5))
        obtain ⟨f0, f1, f2, f3⟩ := Law.frees4 (hI.hd.nth 3 (congrArg some g5))
        refine Draws.wpOp_of (by rfl) rfl (State.wp_skip (w' := (((W.setCell ⟨b2_5, 0, none⟩ (.int .i64 y0_0)).setCell ⟨b2_5, 1, none⟩ (.int .i64 y0_1)).setCell ⟨b2_5, 2, none⟩ (.int .i64 y0_2)).setCell ⟨b2_5, 3, none⟩ (.int .i64 y0_3)) ?_ ?_)
        · simp only [execOp]
          go_simp
        exact hI.turned (c := 5) hloc hL _ undef (Law.boxG b2_5 35 #[.int .i64 y0_0, .int .i64 y0_1, .int .i64 y0_2, .int .i64 y0_3]) (hI.hd.put4 3 (congrArg some g5) (.int .i64 y0_0) (.int .i64 y0_1) (.int .i64 y0_2) (.int .i64 y0_3)) l5 (by kernel_rfl) ⟨b2_5, _, _, _, _, v5, Draws.upd_at _ _ _⟩ ⟨b2_5, v5, (show val 4 = _ from hI.gd 4 l4), Draws.upd_at _ _ _⟩
    case last =>
      intro L a W val G hI hall
      have al : ∀ i, i < 7 → L i = true := fun i hi => hall i (by simpa using hi)
      obtain ⟨b2_5, v5, -, r5⟩ := hI.gd 6 (al 6 (by decide))
      have hH := hI.hd
      dsimp only [Law.gsOf] at hH
      simp only [List.map_cons, List.map_nil] at hH
      rw [r5] at hH
      have HE2 := Lib.hid hH
      have ha := hI.frame (by kernel_rfl) hall
      refine hKK _ _ ?_
      clear hKK hI hH hall al r5
      simp [Draws.frameOf, Draws.slotOf, Act.put, List.range, List.range.loop] at ha
      subst ha
      rw [v5]
      go_upto_region 3 with fail
      obtain ⟨e0, e1, e2, e3⟩ := Law.cells4 (HE2.out.nth 3 rfl)
      obtain ⟨f0, f1, f2, f3⟩ := Law.cells4 (HE2.out.nth 2 rfl)
      go_wp2_with (go_at_call 24; ((with_reducible refine (State.eqLedger_is y0_0 y0_1 y0_2 y0_3 _).mono ?_); rintro e u3 ⟨rfl, hg⟩; have HE3 := Lib.hid (HE2.out.on hg); clear hg))
      clear e0 e1 e2 e3 f0 f1 f2 f3 HE2
      go_wp2_with fail
      go_ret
      exact ⟨rfl, Cell.grown_below HE3.out.gr (Nat.le_refl _)⟩

set_option maxRecDepth 100000 in
theorem lifted (os : Os) (started : os.Started) (H : Type) (enc : TypeId × Value → H) :
    ReturnsInHanded {} Try.checked os 7 .any (Rows.fnExactLedgerAddSpec.pre6 enc Try.prog Try.f7 Rows.fnExactLedgerAddRow.domain false) (Rows.fnExactLedgerAddSpec.post enc Try.prog Try.f7 false true false false) := by
  refine returnsInHanded_of_change (C := Try.checked) own started (by kernel_rfl) Try.func7
    (ChangeSpec.witness6 (enc := enc) (C := Try.checked) false ⟨#[], #[.agg #[.int .i64 0, .int .i64 0, .int .i64 0, .int .i64 0], .agg #[.int .i64 0, .int .i64 0, .int .i64 0, .int .i64 0]], []⟩ 8 (by kernel_rfl) (by kernel_rfl) (by kernel_rfl) (by kernel_rfl)) ?_
  intro W base args ds gs before hval0 hW hcnd _
  have hval : ∀ (j : Nat) t v, Try.f7.params[j]? = some t → args[j]? = some v → Value.okWide Try.prog W .any base t v := hval0
  have hW' := hW
  obtain ⟨p, q, hA0, hV, rfl, hfz, hnd⟩ := hW
  have hA : DataW.TrodAll enc Try.prog W 0 (fun _ => true) true Try.f7.params.toList args.toList ds p := hA0
  rw [Try.params7] at hA hval
  obtain ⟨v0, vs0, d0, ds0, p0, q0, hargs, rfl, rfl, h0, r0⟩ := trodAll_cons hA
  obtain ⟨v1, vs1, d1, ds1, p1, q1, rfl, rfl, rfl, h1, r1⟩ := trodAll_cons r0
  obtain ⟨rfl, rfl, rfl⟩ := trodAll_nil r1
  obtain rfl : args = #[v0, v1] := by cases args; simp_all
  obtain ⟨rfl, rfl⟩ := trodVars_none hV
  obtain ⟨c0_0, c0_1, c0_2, c0_3, y0_0, y0_1, y0_2, y0_3, m0, rfl, rfl, rfl, hy0_0, hy0_1, hy0_2, hy0_3⟩ := open_agg4 Try.underlying57 (by kernel_rfl) cells57 (hval 0 57 v0 rfl rfl) h0
  obtain ⟨a0_0, e0_0, rfl, w0_0⟩ := DataW.trod_int Try.underlying3 hy0_0
  obtain ⟨a0_1, e0_1, rfl, w0_1⟩ := DataW.trod_int Try.underlying3 hy0_1
  obtain ⟨a0_2, e0_2, rfl, w0_2⟩ := DataW.trod_int Try.underlying3 hy0_2
  obtain ⟨a0_3, e0_3, rfl, w0_3⟩ := DataW.trod_int Try.underlying3 hy0_3
  simp at e0_0 e0_1 e0_2 e0_3
  subst e0_0 e0_1 e0_2 e0_3
  have shut0 : ∀ (W' : World) (sp : Nat → Bool), DataW.Trod enc Try.prog W' 0 sp true 57 (.agg #[.int .i64 a0_0, .int .i64 a0_1, .int .i64 a0_2, .int .i64 a0_3]) (.agg [.lit (.int .i64 a0_0), .lit (.int .i64 a0_1), .lit (.int .i64 a0_2), .lit (.int .i64 a0_3)]) [] := fun W' sp =>
    shut_agg4 (y0 := (.lit (.int .i64 a0_0), [])) (y1 := (.lit (.int .i64 a0_1), [])) (y2 := (.lit (.int .i64 a0_2), [])) (y3 := (.lit (.int .i64 a0_3), [])) Try.underlying57 (by kernel_rfl) cells57 ⟨1, by simp [DataW.trod, Try.underlying3, w0_0]⟩ ⟨1, by simp [DataW.trod, Try.underlying3, w0_1]⟩ ⟨1, by simp [DataW.trod, Try.underlying3, w0_2]⟩ ⟨1, by simp [DataW.trod, Try.underlying3, w0_3]⟩
  obtain ⟨c1_0, c1_1, c1_2, c1_3, y1_0, y1_1, y1_2, y1_3, m1, rfl, rfl, rfl, hy1_0, hy1_1, hy1_2, hy1_3⟩ := open_agg4 Try.underlying57 (by kernel_rfl) cells57 (hval 1 57 v1 rfl rfl) h1
  obtain ⟨a1_0, e1_0, rfl, w1_0⟩ := DataW.trod_int Try.underlying3 hy1_0
  obtain ⟨a1_1, e1_1, rfl, w1_1⟩ := DataW.trod_int Try.underlying3 hy1_1
  obtain ⟨a1_2, e1_2, rfl, w1_2⟩ := DataW.trod_int Try.underlying3 hy1_2
  obtain ⟨a1_3, e1_3, rfl, w1_3⟩ := DataW.trod_int Try.underlying3 hy1_3
  simp at e1_0 e1_1 e1_2 e1_3
  subst e1_0 e1_1 e1_2 e1_3
  have shut1 : ∀ (W' : World) (sp : Nat → Bool), DataW.Trod enc Try.prog W' 0 sp true 57 (.agg #[.int .i64 a1_0, .int .i64 a1_1, .int .i64 a1_2, .int .i64 a1_3]) (.agg [.lit (.int .i64 a1_0), .lit (.int .i64 a1_1), .lit (.int .i64 a1_2), .lit (.int .i64 a1_3)]) [] := fun W' sp =>
    shut_agg4 (y0 := (.lit (.int .i64 a1_0), [])) (y1 := (.lit (.int .i64 a1_1), [])) (y2 := (.lit (.int .i64 a1_2), [])) (y3 := (.lit (.int .i64 a1_3), [])) Try.underlying57 (by kernel_rfl) cells57 ⟨1, by simp [DataW.trod, Try.underlying3, w1_0]⟩ ⟨1, by simp [DataW.trod, Try.underlying3, w1_1]⟩ ⟨1, by simp [DataW.trod, Try.underlying3, w1_2]⟩ ⟨1, by simp [DataW.trod, Try.underlying3, w1_3]⟩
  clear hA0 hval0
  simp only [List.append_nil] at hW'
  refine (walk a0_0 a0_1 a0_2 a0_3 w0_0 w0_1 w0_2 w0_3 a1_0 a1_1 a1_2 a1_3 w1_0 w1_1 w1_2 w1_3 W).mono fun e W' ⟨he, bel⟩ => ?_
  subst he
  exact ⟨_, rfl, _, _, _, [], [], [], hW', (trodAll_cons_mk (shut_bool Try.underlying4 _) trodAll_mk0), (trodAll_cons_mk (shut0 _ _) (trodAll_cons_mk (shut1 _ _) trodAll_mk0)), rfl, bel.frame _, fun h => by cases h⟩

theorem over : Rows.fnExactLedgerAddRow.holds Try.pinned (OpenSpec.ofChange Rows.fnExactLedgerAddSpec) :=
  OpenClaim.holds_of_wide 7 Try.f7 rfl rfl rfl rfl rfl rfl rfl ⟨rfl, rfl, rfl, rfl, rfl⟩ rfl rfl rfl rfl rfl (by kernel_rfl) Try.func7 (by kernel_rfl)
    (of_decide_eq_true (by kernel_rfl)) (by unfold Func.isWrapper; first | (rw [if_pos (by decide +kernel)]; kernel_rfl) | (rw [if_neg (by decide +kernel)]; exact ⟨rfl, rfl⟩))
    (fun os started H enc _ => lifted os started H enc)

theorem proved : Rows.FnExactLedgerAddSaid := over
#print axioms proved
end Go.Proofs.Ytngacnckejnllaa.fnExactLedgerAdd
