/- Proved: for all arguments the law FnExactApplyBorder returns true, that is, the program's ApplyBorder answers as the reference model's ApplyBorder, and writes into no argument, and its answer owns its memory.
   Conditions: none besides those that the given row prints. -/
import Derived.Test.YtngacnckejnllaaRows
import Derived.WalkKit
import Derived.ProofKit
import Derived.OpenShut
import Derived.ShutString
import Derived.ChangeOld
import Derived.Below
import Derived.ChangeSame
import Derived.Lib.SmallJoins
import Derived.Test.YtngacnckejnllaaExApplyBorder
import Derived.Test.YtngacnckejnllaaStLaw
namespace Go.Proofs.Ytngacnckejnllaa.fnExactApplyBorder
open Go.ChangeShapes Go.WideShapes Go.ChangeAt Go.RowKit Go.Joins
set_option linter.unusedVariables false
set_option maxRecDepth 100000

theorem own : ownKnob Try.prog.godebug = none := by kernel_rfl
theorem laidOut : laidOutB Try.prog = true := by kernel_rfl
theorem cells43 : Try.prog.cellsOf 43 = 3 := by kernel_rfl

set_option maxHeartbeats 16000000 in
theorem walk (a0_0 : Int) (a0_1 : Option Addr) (n0_1 c0_1 : Nat) (a0_2 : Option Addr) (n0_2 c0_2 : Nat) (a0_3 : Option Addr) (n0_3 c0_3 : Nat) (a0_4 : Option Addr) (n0_4 c0_4 : Nat) (xs0 : List Mesh.C3) (ms0 ts0 bs0 : List Int) (a1_0 a1_1 a1_2 : Int) (w1_0 : (Lit.int .i64 a1_0).wf = true) (w1_1 : (Lit.int .i64 a1_1).wf = true) (w1_2 : (Lit.int .i64 a1_2).wf = true) (w : World) (hn0_1 : n0_1 ≤ maxLen) (hn0_2 : n0_2 ≤ maxLen) (hn0_3 : n0_3 ≤ maxLen) (hn0_4 : n0_4 ≤ maxLen) (hr0 : State.ArgS w a0_1 a0_2 a0_3 a0_4 n0_1 n0_2 n0_3 n0_4 xs0 ms0 ts0 bs0) :
    Calls Try.prog 6 #[.agg #[.int .i64 a0_0, .slice a0_1 n0_1 c0_1, .slice a0_2 n0_2 c0_2, .slice a0_3 n0_3 c0_3, .slice a0_4 n0_4 c0_4], .agg #[.int .i64 a1_0, .int .i64 a1_1, .int .i64 a1_2]] w fun e w' => e = .returned (.bool true) ∧ Below w.heap.size w w' := by
  have HR0 := Lib.hid hr0
  have HM0_1 := Lib.hid hn0_1; have HM0_2 := Lib.hid hn0_2; have HM0_3 := Lib.hid hn0_3; have HM0_4 := Lib.hid hn0_4
  clear hr0 hn0_1 hn0_2 hn0_3 hn0_4
  obtain ⟨r0, hl0, hs0⟩ := State.szState_is a0_0 a0_1 a0_2 a0_3 a0_4 n0_1 n0_2 n0_3 n0_4 c0_1 c0_2 c0_3 c0_4 1048576 HM0_1.out HM0_2.out HM0_3.out HM0_4.out (by omega) (by omega)
  have HS0 := Lib.hid hs0; clear hs0
  rcases hl0 with ⟨hk0, hl0⟩ | rfl
  case inr =>
    have he := ((Law.Held.nil w).box 50 #[.int .i64 a0_0, .slice a0_1 n0_1 c0_1, .slice a0_2 n0_2 c0_2, .slice a0_3 n0_3 c0_3, .slice a0_4 n0_4 c0_4]).box 43 #[.int .i64 a1_0, .int .i64 a1_1, .int .i64 a1_2]
    try simp only [World.size_alloc] at he
    have HE0 := Lib.hid he; clear he
    go_enter Try.func6, Try.ntmps6
    go_upto_region 2 with fail
    generalize (w.alloc (.cells #[.int .i64 a0_0, .slice a0_1 n0_1 c0_1, .slice a0_2 n0_2 c0_2, .slice a0_3 n0_3 c0_3, .slice a0_4 n0_4 c0_4] 50)).alloc (.cells #[.int .i64 a1_0, .int .i64 a1_1, .int .i64 a1_2] 43) = W0 at *
    obtain ⟨p0, p1, p2, p3, p4⟩ := Law.box5 (HE0.out.nth 0 rfl)
    go_wp2_with (go_at_call 20; ((with_reducible refine (HS0.out _).mono ?_); rintro e w1 ⟨rfl, hg⟩; have HE1 := Lib.hid (HE0.out.on hg); clear hg))
    go_ret
    exact ⟨rfl, Cell.grown_below HE1.out.gr (Nat.le_refl _)⟩
  case inl =>
    have Hn0_1 : Hid (n0_1 ≤ 1048576) := Lib.hid (by omega)
    have Hn0_2 : Hid (n0_2 ≤ 1048576) := Lib.hid (by omega)
    have Hn0_3 : Hid (n0_3 ≤ 1048576) := Lib.hid (by omega)
    have Hn0_4 : Hid (n0_4 ≤ 1048576) := Lib.hid (by omega)
    obtain ⟨R9, m1, m2, m3, m4, ys, mr, tr, br, y1_0, y1_1, y1_2, y1_3, zm1, zm2, zm3, zm4, hS, hI⟩ := State.both_ApplyBorder a0_0 n0_1 n0_2 n0_3 n0_4 xs0 ms0 ts0 bs0 HR0.out.l.len HR0.out.m.len HR0.out.t.len HR0.out.b.len Hn0_1.out Hn0_2.out Hn0_3.out Hn0_4.out a1_0 w1_0 a1_1 w1_1 a1_2 w1_2
    have Hm1 := Lib.hid zm1
    have Hm2 := Lib.hid zm2
    have Hm3 := Lib.hid zm3
    have Hm4 := Lib.hid zm4
    have in0_1 : (n0_1 : Int) ≤ 1048576 := by have := Hn0_1.out; omega
    have in0_2 : (n0_2 : Int) ≤ 1048576 := by have := Hn0_2.out; omega
    have in0_3 : (n0_3 : Int) ≤ 1048576 := by have := Hn0_3.out; omega
    have in0_4 : (n0_4 : Int) ≤ 1048576 := by have := Hn0_4.out; omega
    have HSB := Lib.hid hS; have HIB := Lib.hid hI; clear hS hI zm1 zm2 zm3 zm4
    clear hl0
    obtain ⟨k0, ek0⟩ : ∃ s : Nat, s = 1 + 3 * n0_1 + n0_2 + n0_3 + n0_4 := ⟨_, rfl⟩
    obtain ⟨kg, ekg⟩ : ∃ s : Nat, s = 1 + 3 * m1 + m2 + m3 + m4 := ⟨_, rfl⟩
    have EK0 := Lib.hid ek0; have pk0 : ¬ (k0 : Int) < 0 := by omega
    have bk0 : Hid (k0 ≤ 549755813888) := Lib.hid (by have := Hn0_1.out; have := Hn0_2.out; have := Hn0_3.out; have := Hn0_4.out; omega)
    have EKG := Lib.hid ekg; have pkg : ¬ (kg : Int) < 0 := by omega
    clear ek0 ekg
    have he := ((Law.Held.nil w).box 50 #[.int .i64 a0_0, .slice a0_1 n0_1 c0_1, .slice a0_2 n0_2 c0_2, .slice a0_3 n0_3 c0_3, .slice a0_4 n0_4 c0_4]).box 43 #[.int .i64 a1_0, .int .i64 a1_1, .int .i64 a1_2]
    try simp only [World.size_alloc] at he
    have HE0 := Lib.hid he; clear he
    go_enter Try.func6, Try.ntmps6
    go_upto_region 2 with fail
    generalize (w.alloc (.cells #[.int .i64 a0_0, .slice a0_1 n0_1 c0_1, .slice a0_2 n0_2 c0_2, .slice a0_3 n0_3 c0_3, .slice a0_4 n0_4 c0_4] 50)).alloc (.cells #[.int .i64 a1_0, .int .i64 a1_1, .int .i64 a1_2] 43) = W0 at *
    obtain ⟨K, hKK⟩ : ∃ K, K = w.heap.size := ⟨_, rfl⟩
    rw [← hKK] at HE0 ⊢
    have HKK := Lib.hid hKK; clear hKK
    obtain ⟨p0, p1, p2, p3, p4⟩ := Law.box5 (HE0.out.nth 0 rfl)
    go_upto_region 5 with (go_at_call 20; ((with_reducible refine (HS0.out _).mono ?_); rintro e w1 ⟨rfl, hg⟩; have HE1 := Lib.hid (HE0.out.on hg); clear hg))
    clear p0 p1 p2 p3 p4 HE0 HS0
    rename_i KK hKK
    refine Draws.wp_region_tabG (w := w) rfl (by kernel_rfl) (by kernel_rfl) State.ExApplyBorder5Dep (by kernel_rfl) (Law.gsOf HE1.out) [1, 4, 8, 9] (fun _ => Law.emptyG) (State.ExApplyBorder5 a0_0 a0_1 n0_1 c0_1 a0_2 n0_2 c0_2 a0_3 n0_3 c0_3 a0_4 n0_4 c0_4 xs0 ms0 ts0 bs0 a1_0 a1_1 a1_2 R9 m1 m2 m3 m4 ys mr tr br y1_0 y1_1 y1_2 y1_3) ?start ?step ?last
    case start => exact (HE1.out.on (by first | exact Mesh.gr_drew (Cell.grown_refl _) | exact Mesh.gr_drew (Cell.g_drewN (Cell.grown_refl _) _))).addE.addE.addE.addE
    case step =>
      clear hKK
      intro L a W val G i o hI ho hL hd
      have hi : i < 12 := by have := (Array.getElem?_eq_some_iff.1 ho).1; simpa using this
      have hloc := State.ExApplyBorder5_local a0_0 a0_1 n0_1 c0_1 a0_2 n0_2 c0_2 a0_3 n0_3 c0_3 a0_4 n0_4 c0_4 xs0 ms0 ts0 bs0 a1_0 a1_1 a1_2 R9 m1 m2 m3 m4 ys mr tr br y1_0 y1_1 y1_2 y1_3
      obtain ⟨z0_0, z0_1, z0_2, z0_3, z0_4⟩ := Law.box5 (hI.hd.nth 0 rfl)
      obtain ⟨z1_0, z1_1, z1_2⟩ := Law.cells3 (hI.hd.nth 1 rfl)
      rcases (show i = 0 ∨ i = 1 ∨ i = 2 ∨ i = 3 ∨ i = 4 ∨ i = 5 ∨ i = 6 ∨ i = 7 ∨ i = 8 ∨ i = 9 ∨ i = 10 ∨ i = 11 by omega) with rfl | rfl | rfl | rfl | rfl | rfl | rfl | rfl | rfl | rfl | rfl | rfl
      · obtain rfl := Option.some.inj ho
        have p2 := (hI.old 2 (by kernel_rfl) rfl).get
        refine Draws.wpOp_of (by rfl) rfl (State.wp_value (v := .agg #[.int .i64 a0_0, .slice a0_1 n0_1 c0_1, .slice a0_2 n0_2 c0_2, .slice a0_3 n0_3 c0_3, .slice a0_4 n0_4 c0_4]) (w' := W) ?_ (hI.same hloc hL _ _ (Cell.grown_refl _) (Draws.upd_at _ _ _)))
        simp only [execOp]
        go_simp
      · obtain rfl := Option.some.inj ho
        have l0 := hd 0 (by simp [State.ExApplyBorder5Dep])
        have e0 := (hI.at_ 0 22 rfl l0).get
        rw [show val 0 = _ from hI.gd 0 l0] at e0
        refine Draws.wpOp_of (by rfl) rfl ?_
        unfold Oper.wp
        simp only [execOp]
        go_simp
        refine Calls.mono (P := Try.prog) (State.toState_is _ _ _ _ _ _ _ _ _ _ _ _ _ xs0 ms0 ts0 bs0 W (HR0.out.on hI.hd.gr) Hn0_1.out Hn0_2.out Hn0_3.out Hn0_4.out) ?_
        rintro e w1 ⟨x1_1, x1_2, x1_3, x1_4, rfl, ho, hg⟩
        exact hI.made hloc hL _ (.agg #[.int .i64 a0_0, .slice (some ⟨x1_1, 0, none⟩) n0_1 n0_1, .slice (some ⟨x1_2, 0, none⟩) n0_2 n0_2, .slice (some ⟨x1_3, 0, none⟩) n0_3 n0_3, .slice (some ⟨x1_4, 0, none⟩) n0_4 n0_4]) (State.stateG (.slice (some ⟨x1_1, 0, none⟩) n0_1 n0_1) (.slice (some ⟨x1_2, 0, none⟩) n0_2 n0_2) (.slice (some ⟨x1_3, 0, none⟩) n0_3 n0_3) (.slice (some ⟨x1_4, 0, none⟩) n0_4 n0_4) n0_1 n0_2 n0_3 n0_4 xs0 ms0 ts0 bs0) (hI.hd.fill 2 (g' := State.stateG (.slice (some ⟨x1_1, 0, none⟩) n0_1 n0_1) (.slice (some ⟨x1_2, 0, none⟩) n0_2 n0_2) (.slice (some ⟨x1_3, 0, none⟩) n0_3 n0_3) (.slice (some ⟨x1_4, 0, none⟩) n0_4 n0_4) n0_1 n0_2 n0_3 n0_4 xs0 ms0 ts0 bs0) (congrArg some (hI.no 1 hL)) hg (ho.from (Nat.zero_le _)) ho.blocks) ⟨x1_1, x1_2, x1_3, x1_4, Draws.upd_at _ _ _, Draws.upd_at _ _ _⟩
      · obtain rfl := Option.some.inj ho
        have p3 := (hI.old 3 (by kernel_rfl) rfl).get
        refine Draws.wpOp_of (by rfl) rfl (State.wp_value (v := .agg #[.int .i64 a1_0, .int .i64 a1_1, .int .i64 a1_2]) (w' := W) ?_ (hI.same hloc hL _ _ (Cell.grown_refl _) (Draws.upd_at _ _ _)))
        simp only [execOp]
        go_simp
      · obtain rfl := Option.some.inj ho
        have l2 := hd 2 (by simp [State.ExApplyBorder5Dep])
        have e2 := (hI.at_ 2 24 rfl l2).get
        rw [show val 2 = _ from hI.gd 2 l2] at e2
        refine Draws.wpOp_of (by rfl) rfl ?_
        unfold Oper.wp
        simp only [execOp]
        go_simp
        refine Calls.mono (P := Try.prog) (State.toBorder_is a1_0 a1_1 a1_2 W) ?_
        rintro e w1 ⟨rfl, hg⟩
        exact hI.same hloc hL _ (.agg #[.int .i64 a1_0, .int .i64 a1_1, .int .i64 a1_2]) hg (Draws.upd_at _ _ _)
      · obtain rfl := Option.some.inj ho
        have l1 := hd 1 (by simp [State.ExApplyBorder5Dep])
        have e1 := (hI.at_ 1 23 rfl l1).get
        have l3 := hd 3 (by simp [State.ExApplyBorder5Dep])
        have e3 := (hI.at_ 3 25 rfl l3).get
        obtain ⟨x1_1, x1_2, x1_3, x1_4, v1, -⟩ := hI.gd 1 l1
        rw [v1] at e1
        rw [show val 3 = _ from hI.gd 3 l3] at e3
        refine Draws.wpOp_of (by rfl) rfl ?_
        unfold Oper.wp
        simp only [execOp]
        go_simp
        obtain ⟨x1_1', x1_2', x1_3', x1_4', v1', r1⟩ := hI.gd 1 l1
        rw [v1] at v1'
        cases v1'
        refine Calls.mono (P := Try.prog) (HSB.out W _ _ _ _ _ _ _ _ (State.OwnS.reads (hI.hd.nth 2 (congrArg some r1)))) ?_
        rintro e w1 ⟨q1_1, d1_1, q1_2, d1_2, q1_3, d1_3, q1_4, d1_4, rfl, ho, hg⟩
        exact hI.made hloc hL _ (.tuple #[.agg #[.int .i64 R9, .slice q1_1 m1 d1_1, .slice q1_2 m2 d1_2, .slice q1_3 m3 d1_3, .slice q1_4 m4 d1_4], .agg #[.int .i64 y1_0, .int .i64 y1_1, .int .i64 y1_2, .int .i64 y1_3]]) (State.stateG (.slice q1_1 m1 d1_1) (.slice q1_2 m2 d1_2) (.slice q1_3 m3 d1_3) (.slice q1_4 m4 d1_4) m1 m2 m3 m4 ys mr tr br) (hI.hd.fill 3 (g' := State.stateG (.slice q1_1 m1 d1_1) (.slice q1_2 m2 d1_2) (.slice q1_3 m3 d1_3) (.slice q1_4 m4 d1_4) m1 m2 m3 m4 ys mr tr br) (congrArg some (hI.no 4 hL)) hg (ho.from (Nat.zero_le _)) ho.blocks) ⟨q1_1, d1_1, q1_2, d1_2, q1_3, d1_3, q1_4, d1_4, Draws.upd_at _ _ _, Draws.upd_at _ _ _⟩
      · obtain rfl := Option.some.inj ho
        have l4 := hd 4 (by simp [State.ExApplyBorder5Dep])
        have e4 := (hI.at_ 4 26 rfl l4).get
        obtain ⟨q1_1, d1_1, q1_2, d1_2, q1_3, d1_3, q1_4, d1_4, v4, -⟩ := hI.gd 4 l4
        rw [v4] at e4
        refine Draws.wpOp_of (by rfl) rfl (State.wp_value (v := .tuple #[.agg #[.int .i64 R9, .slice q1_1 m1 d1_1, .slice q1_2 m2 d1_2, .slice q1_3 m3 d1_3, .slice q1_4 m4 d1_4], .agg #[.int .i64 y1_0, .int .i64 y1_1, .int .i64 y1_2, .int .i64 y1_3]]) (w' := W) ?_ (hI.same hloc hL _ _ (Cell.grown_refl _) ⟨q1_1, d1_1, q1_2, d1_2, q1_3, d1_3, q1_4, d1_4, Draws.upd_at _ _ _, v4⟩))
        simp only [execOp]
        go_simp
      · obtain rfl := Option.some.inj ho
        have l5 := hd 5 (by simp [State.ExApplyBorder5Dep])
        have e5 := (hI.at_ 5 21 rfl l5).get
        obtain ⟨q1_1, d1_1, q1_2, d1_2, q1_3, d1_3, q1_4, d1_4, v5, -⟩ := hI.gd 5 l5
        rw [v5] at e5
        refine Draws.wpOp_of (by rfl) rfl (State.wp_value (v := .agg #[.int .i64 R9, .slice q1_1 m1 d1_1, .slice q1_2 m2 d1_2, .slice q1_3 m3 d1_3, .slice q1_4 m4 d1_4]) (w' := W) ?_ (hI.same hloc hL _ _ (Cell.grown_refl _) ⟨q1_1, d1_1, q1_2, d1_2, q1_3, d1_3, q1_4, d1_4, Draws.upd_at _ _ _, v5⟩))
        simp only [execOp]
        go_simp
      · obtain rfl := Option.some.inj ho
        have l5 := hd 5 (by simp [State.ExApplyBorder5Dep])
        have e5 := (hI.at_ 5 21 rfl l5).get
        obtain ⟨q1_1, d1_1, q1_2, d1_2, q1_3, d1_3, q1_4, d1_4, v5, -⟩ := hI.gd 5 l5
        rw [v5] at e5
        refine Draws.wpOp_of (by rfl) rfl (State.wp_value (v := .agg #[.int .i64 y1_0, .int .i64 y1_1, .int .i64 y1_2, .int .i64 y1_3]) (w' := W) ?_ (hI.same hloc hL _ _ (Cell.grown_refl _) (Draws.upd_at _ _ _)))
        simp only [execOp]
        go_simp
      · obtain rfl := Option.some.inj ho
        refine Draws.wpOp_of (by rfl) rfl (State.wp_value (v := .pointer (some ⟨W.heap.size, 0, none⟩)) (w' := W.alloc (.cells #[.int .i64 0, .slice none 0 0, .slice none 0 0, .slice none 0 0, .slice none 0 0] 29)) ?_ ?_)
        · simp only [execOp]
          go_simp
        exact hI.made hloc hL _ _ (Law.boxG W.heap.size 29 #[.int .i64 0, .slice none 0 0, .slice none 0 0, .slice none 0 0, .slice none 0 0]) (hI.hd.fill 4 (g' := Law.boxG W.heap.size 29 #[.int .i64 0, .slice none 0 0, .slice none 0 0, .slice none 0 0, .slice none 0 0]) (congrArg some (hI.no 8 hL)) (World.grownBy_alloc W _ none) (World.alloc_heap_new W _) (fun b hb => by have : b = W.heap.size := (by simpa [Law.boxG] using hb); subst this; simp)) ⟨W.heap.size, _, _, _, _, _, Draws.upd_at _ _ _, Draws.upd_at _ _ _⟩
      · obtain rfl := Option.some.inj ho
        refine Draws.wpOp_of (by rfl) rfl (State.wp_value (v := .pointer (some ⟨W.heap.size, 0, none⟩)) (w' := W.alloc (.cells #[.int .i64 0, .int .i64 0, .int .i64 0, .int .i64 0] 35)) ?_ ?_)
        · simp only [execOp]
          go_simp
        exact hI.made hloc hL _ _ (Law.boxG W.heap.size 35 #[.int .i64 0, .int .i64 0, .int .i64 0, .int .i64 0]) (hI.hd.fill 5 (g' := Law.boxG W.heap.size 35 #[.int .i64 0, .int .i64 0, .int .i64 0, .int .i64 0]) (congrArg some (hI.no 9 hL)) (World.grownBy_alloc W _ none) (World.alloc_heap_new W _) (fun b hb => by have : b = W.heap.size := (by simpa [Law.boxG] using hb); subst this; simp)) ⟨W.heap.size, _, _, _, _, Draws.upd_at _ _ _, Draws.upd_at _ _ _⟩
      · obtain rfl := Option.some.inj ho
        have l8 := hd 8 (by simp [State.ExApplyBorder5Dep])
        have e8 := (hI.at_ 8 6 rfl l8).get
        have l6 := hd 6 (by simp [State.ExApplyBorder5Dep])
        have e6 := (hI.at_ 6 27 rfl l6).get
        obtain ⟨b1_8, o8_0, o8_1, o8_2, o8_3, o8_4, v8, -⟩ := hI.gd 8 l8
        rw [v8] at e8
        obtain ⟨q1_1, d1_1, q1_2, d1_2, q1_3, d1_3, q1_4, d1_4, v6, -⟩ := hI.gd 6 l6
        rw [v6] at e6
        obtain ⟨b1_8', o8_0, o8_1, o8_2, o8_3, o8_4, v8', g8⟩ := hI.gd 8 l8
        rw [v8] at v8'
        cases v8'
        obtain ⟨y0, y1, y2, y3, y4⟩ := Law.box5 (hI.hd.nth 4 (congrArg some g8))
        obtain ⟨f0, f1, f2, f3, f4⟩ := Law.free5 (hI.hd.nth 4 (congrArg some g8))
        refine Draws.wpOp_of (by rfl) rfl (State.wp_skip (w' := ((((W.setCell ⟨b1_8, 0, none⟩ (.int .i64 R9)).setCell ⟨b1_8, 1, none⟩ (.slice q1_1 m1 d1_1)).setCell ⟨b1_8, 2, none⟩ (.slice q1_2 m2 d1_2)).setCell ⟨b1_8, 3, none⟩ (.slice q1_3 m3 d1_3)).setCell ⟨b1_8, 4, none⟩ (.slice q1_4 m4 d1_4)) ?_ ?_)
        · simp only [execOp]
          go_simp
        exact hI.turned (c := 8) hloc hL _ undef (Law.boxG b1_8 29 #[.int .i64 R9, .slice q1_1 m1 d1_1, .slice q1_2 m2 d1_2, .slice q1_3 m3 d1_3, .slice q1_4 m4 d1_4]) (hI.hd.put5 4 (congrArg some g8) (.int .i64 R9) (.slice q1_1 m1 d1_1) (.slice q1_2 m2 d1_2) (.slice q1_3 m3 d1_3) (.slice q1_4 m4 d1_4)) l8 (by kernel_rfl) ⟨b1_8, _, _, _, _, _, v8, Draws.upd_at _ _ _⟩ ⟨b1_8, q1_1, d1_1, q1_2, d1_2, q1_3, d1_3, q1_4, d1_4, v8, v6, Draws.upd_at _ _ _⟩
      · obtain rfl := Option.some.inj ho
        have l9 := hd 9 (by simp [State.ExApplyBorder5Dep])
        have e9 := (hI.at_ 9 7 rfl l9).get
        have l7 := hd 7 (by simp [State.ExApplyBorder5Dep])
        have e7 := (hI.at_ 7 28 rfl l7).get
        obtain ⟨b1_9, o9_0, o9_1, o9_2, o9_3, v9, -⟩ := hI.gd 9 l9
        rw [v9] at e9
        rw [show val 7 = _ from hI.gd 7 l7] at e7
        obtain ⟨b1_9', o9_0, o9_1, o9_2, o9_3, v9', g9⟩ := hI.gd 9 l9
        rw [v9] at v9'
        cases v9'
        obtain ⟨y0, y1, y2, y3⟩ := Law.cells4 (hI.hd.nth 5 (congrArg some g9))
        obtain ⟨f0, f1, f2, f3⟩ := Law.frees4 (hI.hd.nth 5 (congrArg some g9))
        refine Draws.wpOp_of (by rfl) rfl (State.wp_skip (w' := (((W.setCell ⟨b1_9, 0, none⟩ (.int .i64 y1_0)).setCell ⟨b1_9, 1, none⟩ (.int .i64 y1_1)).setCell ⟨b1_9, 2, none⟩ (.int .i64 y1_2)).setCell ⟨b1_9, 3, none⟩ (.int .i64 y1_3)) ?_ ?_)
        · simp only [execOp]
          go_simp
        exact hI.turned (c := 9) hloc hL _ undef (Law.boxG b1_9 35 #[.int .i64 y1_0, .int .i64 y1_1, .int .i64 y1_2, .int .i64 y1_3]) (hI.hd.put4 5 (congrArg some g9) (.int .i64 y1_0) (.int .i64 y1_1) (.int .i64 y1_2) (.int .i64 y1_3)) l9 (by kernel_rfl) ⟨b1_9, _, _, _, _, v9, Draws.upd_at _ _ _⟩ ⟨b1_9, v9, (show val 7 = _ from hI.gd 7 l7), Draws.upd_at _ _ _⟩
    case last =>
      intro L a W val G hI hall
      have al : ∀ i, i < 12 → L i = true := fun i hi => hall i (by simpa using hi)
      obtain ⟨x1_1, x1_2, x1_3, x1_4, v1, r1⟩ := hI.gd 1 (al 1 (by decide))
      obtain ⟨q1_1, d1_1, q1_2, d1_2, q1_3, d1_3, q1_4, d1_4, v4, r4⟩ := hI.gd 4 (al 4 (by decide))
      obtain ⟨q1_1', d1_1', q1_2', d1_2', q1_3', d1_3', q1_4', d1_4', v5, u⟩ := hI.gd 5 (al 5 (by decide))
      rw [v4] at u
      cases u
      obtain ⟨q1_1', d1_1', q1_2', d1_2', q1_3', d1_3', q1_4', d1_4', v6, u⟩ := hI.gd 6 (al 6 (by decide))
      rw [v5] at u
      cases u
      obtain ⟨b1_8, q1_1', d1_1', q1_2', d1_2', q1_3', d1_3', q1_4', d1_4', v8, u, r8⟩ := hI.gd 10 (al 10 (by decide))
      rw [v6] at u
      cases u
      obtain ⟨b1_9, v9, -, r9⟩ := hI.gd 11 (al 11 (by decide))
      have hH := hI.hd
      dsimp only [Law.gsOf] at hH
      simp only [List.map_cons, List.map_nil] at hH
      rw [r1, r4, r8, r9] at hH
      have HE2 := Lib.hid hH
      have ha := hI.frame (by kernel_rfl) hall
      refine hKK _ _ ?_
      clear hKK hI hH hall al r1 r4 r8 r9
      simp [Draws.frameOf, Draws.slotOf, Act.put, List.range, List.range.loop] at ha
      subst ha
      rw [v8, v9]
      go_upto_region 6 with fail
      obtain ⟨b0_0, b0_1, b0_2, b0_3, b0_4⟩ := Law.box5 (HE2.out.nth 0 rfl)
      go_upto_region 7 with (go_at_call 22; ((with_reducible refine (State.toState_is _ _ _ _ _ _ _ _ _ _ _ _ _ xs0 ms0 ts0 bs0 _ (HR0.out.on HE2.out.gr) Hn0_1.out Hn0_2.out Hn0_3.out Hn0_4.out).mono ?_); rintro e u2 ⟨g2_1, g2_2, g2_3, g2_4, rfl, ho, hg⟩; have HE3 := Lib.hid (State.Held.state HE2.out hg ho); clear ho hg))
      clear b0_0 b0_1 b0_2 b0_3 b0_4 HE2
      have HE4 := Lib.hid (HE3.out.box 29 #[.int .i64 a0_0, .slice (some ⟨g2_1, 0, none⟩) n0_1 n0_1, .slice (some ⟨g2_2, 0, none⟩) n0_2 n0_2, .slice (some ⟨g2_3, 0, none⟩) n0_3 n0_3, .slice (some ⟨g2_4, 0, none⟩) n0_4 n0_4]); clear HE3
      obtain ⟨B3, hB3⟩ : ∃ B, B = u2.heap.size := ⟨_, rfl⟩
      rw [← hB3] at HE4 ⊢
      clear hB3
      generalize u2.alloc (.cells #[.int .i64 a0_0, .slice (some ⟨g2_1, 0, none⟩) n0_1 n0_1, .slice (some ⟨g2_2, 0, none⟩) n0_2 n0_2, .slice (some ⟨g2_3, 0, none⟩) n0_3 n0_3, .slice (some ⟨g2_4, 0, none⟩) n0_4 n0_4] 29) = V3 at *
      rename_i KK hKK
      refine Draws.wp_region_tabG (w := w) rfl (by kernel_rfl) (by kernel_rfl) State.ExApplyBorder7Dep (by kernel_rfl) (Law.gsOf HE4.out) [3, 7, 8] (fun _ => Law.emptyG) (State.ExApplyBorder7 a0_0 n0_1 n0_2 n0_3 n0_4 a1_0 a1_1 a1_2 R9 m1 m2 m3 m4 ys mr tr br y1_0 y1_1 y1_2 y1_3 g2_1 g2_2 g2_3 g2_4) ?start ?step ?last
      case start => exact (HE4.out.on (by first | exact Mesh.gr_drew (Cell.grown_refl _) | exact Mesh.gr_drew (Cell.g_drewN (Cell.grown_refl _) _))).addE.addE.addE
      case step =>
        clear hKK
        intro L a W val G i o hI ho hL hd
        have hi : i < 11 := by have := (Array.getElem?_eq_some_iff.1 ho).1; simpa using this
        have hloc := State.ExApplyBorder7_local a0_0 n0_1 n0_2 n0_3 n0_4 a1_0 a1_1 a1_2 R9 m1 m2 m3 m4 ys mr tr br y1_0 y1_1 y1_2 y1_3 g2_1 g2_2 g2_3 g2_4
        obtain ⟨z1_0, z1_1, z1_2⟩ := Law.cells3 (hI.hd.nth 1 rfl)
        obtain ⟨z7_0, z7_1, z7_2, z7_3, z7_4⟩ := Law.box5 (hI.hd.nth 7 rfl)
        rcases (show i = 0 ∨ i = 1 ∨ i = 2 ∨ i = 3 ∨ i = 4 ∨ i = 5 ∨ i = 6 ∨ i = 7 ∨ i = 8 ∨ i = 9 ∨ i = 10 by omega) with rfl | rfl | rfl | rfl | rfl | rfl | rfl | rfl | rfl | rfl | rfl
        · obtain rfl := Option.some.inj ho
          have p8 := (hI.old 8 (by kernel_rfl) rfl).get
          refine Draws.wpOp_of (by rfl) rfl (State.wp_value (v := .agg #[.int .i64 a0_0, .slice (some ⟨g2_1, 0, none⟩) n0_1 n0_1, .slice (some ⟨g2_2, 0, none⟩) n0_2 n0_2, .slice (some ⟨g2_3, 0, none⟩) n0_3 n0_3, .slice (some ⟨g2_4, 0, none⟩) n0_4 n0_4]) (w' := W) ?_ (hI.same hloc hL _ _ (Cell.grown_refl _) (Draws.upd_at _ _ _)))
          simp only [execOp]
          go_simp
        · obtain rfl := Option.some.inj ho
          have p3 := (hI.old 3 (by kernel_rfl) rfl).get
          refine Draws.wpOp_of (by rfl) rfl (State.wp_value (v := .agg #[.int .i64 a1_0, .int .i64 a1_1, .int .i64 a1_2]) (w' := W) ?_ (hI.same hloc hL _ _ (Cell.grown_refl _) (Draws.upd_at _ _ _)))
          simp only [execOp]
          go_simp
        · obtain rfl := Option.some.inj ho
          have l1 := hd 1 (by simp [State.ExApplyBorder7Dep])
          have e1 := (hI.at_ 1 33 rfl l1).get
          rw [show val 1 = _ from hI.gd 1 l1] at e1
          refine Draws.wpOp_of (by rfl) rfl ?_
          unfold Oper.wp
          simp only [execOp]
          go_simp
          refine Calls.mono (P := Try.prog) (State.toBorder_is a1_0 a1_1 a1_2 W) ?_
          rintro e w1 ⟨rfl, hg⟩
          exact hI.same hloc hL _ (.agg #[.int .i64 a1_0, .int .i64 a1_1, .int .i64 a1_2]) hg (Draws.upd_at _ _ _)
        · obtain rfl := Option.some.inj ho
          have l0 := hd 0 (by simp [State.ExApplyBorder7Dep])
          have e0 := (hI.at_ 0 32 rfl l0).get
          have l2 := hd 2 (by simp [State.ExApplyBorder7Dep])
          have e2 := (hI.at_ 2 34 rfl l2).get
          rw [show val 0 = _ from hI.gd 0 l0] at e0
          rw [show val 2 = _ from hI.gd 2 l2] at e2
          refine Draws.wpOp_of (by rfl) rfl ?_
          unfold Oper.wp
          simp only [execOp]
          go_simp
          refine Calls.mono (P := Try.prog) (HIB.out W _ _ _ _ _ _ _ _ (State.OwnS.reads (hI.hd.nth 6 rfl))) ?_
          rintro e w1 ⟨q4_1, d4_1, q4_2, d4_2, q4_3, d4_3, q4_4, d4_4, rfl, ho, hg⟩
          exact hI.made hloc hL _ (.tuple #[.agg #[.int .i64 R9, .slice q4_1 m1 d4_1, .slice q4_2 m2 d4_2, .slice q4_3 m3 d4_3, .slice q4_4 m4 d4_4], .agg #[.int .i64 y1_0, .int .i64 y1_1, .int .i64 y1_2, .int .i64 y1_3]]) (State.stateG (.slice q4_1 m1 d4_1) (.slice q4_2 m2 d4_2) (.slice q4_3 m3 d4_3) (.slice q4_4 m4 d4_4) m1 m2 m3 m4 ys mr tr br) (hI.hd.fill 8 (g' := State.stateG (.slice q4_1 m1 d4_1) (.slice q4_2 m2 d4_2) (.slice q4_3 m3 d4_3) (.slice q4_4 m4 d4_4) m1 m2 m3 m4 ys mr tr br) (congrArg some (hI.no 3 hL)) hg (ho.from (Nat.zero_le _)) ho.blocks) ⟨q4_1, d4_1, q4_2, d4_2, q4_3, d4_3, q4_4, d4_4, Draws.upd_at _ _ _, Draws.upd_at _ _ _⟩
        · obtain rfl := Option.some.inj ho
          have l3 := hd 3 (by simp [State.ExApplyBorder7Dep])
          have e3 := (hI.at_ 3 35 rfl l3).get
          obtain ⟨q4_1, d4_1, q4_2, d4_2, q4_3, d4_3, q4_4, d4_4, v3, -⟩ := hI.gd 3 l3
          rw [v3] at e3
          refine Draws.wpOp_of (by rfl) rfl (State.wp_value (v := .tuple #[.agg #[.int .i64 R9, .slice q4_1 m1 d4_1, .slice q4_2 m2 d4_2, .slice q4_3 m3 d4_3, .slice q4_4 m4 d4_4], .agg #[.int .i64 y1_0, .int .i64 y1_1, .int .i64 y1_2, .int .i64 y1_3]]) (w' := W) ?_ (hI.same hloc hL _ _ (Cell.grown_refl _) ⟨q4_1, d4_1, q4_2, d4_2, q4_3, d4_3, q4_4, d4_4, Draws.upd_at _ _ _, v3⟩))
          simp only [execOp]
          go_simp
        · obtain rfl := Option.some.inj ho
          have l4 := hd 4 (by simp [State.ExApplyBorder7Dep])
          have e4 := (hI.at_ 4 31 rfl l4).get
          obtain ⟨q4_1, d4_1, q4_2, d4_2, q4_3, d4_3, q4_4, d4_4, v4, -⟩ := hI.gd 4 l4
          rw [v4] at e4
          refine Draws.wpOp_of (by rfl) rfl (State.wp_value (v := .agg #[.int .i64 R9, .slice q4_1 m1 d4_1, .slice q4_2 m2 d4_2, .slice q4_3 m3 d4_3, .slice q4_4 m4 d4_4]) (w' := W) ?_ (hI.same hloc hL _ _ (Cell.grown_refl _) ⟨q4_1, d4_1, q4_2, d4_2, q4_3, d4_3, q4_4, d4_4, Draws.upd_at _ _ _, v4⟩))
          simp only [execOp]
          go_simp
        · obtain rfl := Option.some.inj ho
          have l4 := hd 4 (by simp [State.ExApplyBorder7Dep])
          have e4 := (hI.at_ 4 31 rfl l4).get
          obtain ⟨q4_1, d4_1, q4_2, d4_2, q4_3, d4_3, q4_4, d4_4, v4, -⟩ := hI.gd 4 l4
          rw [v4] at e4
          refine Draws.wpOp_of (by rfl) rfl (State.wp_value (v := .agg #[.int .i64 y1_0, .int .i64 y1_1, .int .i64 y1_2, .int .i64 y1_3]) (w' := W) ?_ (hI.same hloc hL _ _ (Cell.grown_refl _) (Draws.upd_at _ _ _)))
          simp only [execOp]
          go_simp
        · obtain rfl := Option.some.inj ho
          refine Draws.wpOp_of (by rfl) rfl (State.wp_value (v := .pointer (some ⟨W.heap.size, 0, none⟩)) (w' := W.alloc (.cells #[.int .i64 0, .slice none 0 0, .slice none 0 0, .slice none 0 0, .slice none 0 0] 29)) ?_ ?_)
          · simp only [execOp]
            go_simp
          exact hI.made hloc hL _ _ (Law.boxG W.heap.size 29 #[.int .i64 0, .slice none 0 0, .slice none 0 0, .slice none 0 0, .slice none 0 0]) (hI.hd.fill 9 (g' := Law.boxG W.heap.size 29 #[.int .i64 0, .slice none 0 0, .slice none 0 0, .slice none 0 0, .slice none 0 0]) (congrArg some (hI.no 7 hL)) (World.grownBy_alloc W _ none) (World.alloc_heap_new W _) (fun b hb => by have : b = W.heap.size := (by simpa [Law.boxG] using hb); subst this; simp)) ⟨W.heap.size, _, _, _, _, _, Draws.upd_at _ _ _, Draws.upd_at _ _ _⟩
        · obtain rfl := Option.some.inj ho
          refine Draws.wpOp_of (by rfl) rfl (State.wp_value (v := .pointer (some ⟨W.heap.size, 0, none⟩)) (w' := W.alloc (.cells #[.int .i64 0, .int .i64 0, .int .i64 0, .int .i64 0] 35)) ?_ ?_)
          · simp only [execOp]
            go_simp
          exact hI.made hloc hL _ _ (Law.boxG W.heap.size 35 #[.int .i64 0, .int .i64 0, .int .i64 0, .int .i64 0]) (hI.hd.fill 10 (g' := Law.boxG W.heap.size 35 #[.int .i64 0, .int .i64 0, .int .i64 0, .int .i64 0]) (congrArg some (hI.no 8 hL)) (World.grownBy_alloc W _ none) (World.alloc_heap_new W _) (fun b hb => by have : b = W.heap.size := (by simpa [Law.boxG] using hb); subst this; simp)) ⟨W.heap.size, _, _, _, _, Draws.upd_at _ _ _, Draws.upd_at _ _ _⟩
        · obtain rfl := Option.some.inj ho
          have l7 := hd 7 (by simp [State.ExApplyBorder7Dep])
          have e7 := (hI.at_ 7 9 rfl l7).get
          have l5 := hd 5 (by simp [State.ExApplyBorder7Dep])
          have e5 := (hI.at_ 5 36 rfl l5).get
          obtain ⟨b4_7, o7_0, o7_1, o7_2, o7_3, o7_4, v7, -⟩ := hI.gd 7 l7
          rw [v7] at e7
          obtain ⟨q4_1, d4_1, q4_2, d4_2, q4_3, d4_3, q4_4, d4_4, v5, -⟩ := hI.gd 5 l5
          rw [v5] at e5
          obtain ⟨b4_7', o7_0, o7_1, o7_2, o7_3, o7_4, v7', g7⟩ := hI.gd 7 l7
          rw [v7] at v7'
          cases v7'
          obtain ⟨y0, y1, y2, y3, y4⟩ := Law.box5 (hI.hd.nth 9 (congrArg some g7))
          obtain ⟨f0, f1, f2, f3, f4⟩ := Law.free5 (hI.hd.nth 9 (congrArg some g7))
          refine Draws.wpOp_of (by rfl) rfl (State.wp_skip (w' := ((((W.setCell ⟨b4_7, 0, none⟩ (.int .i64 R9)).setCell ⟨b4_7, 1, none⟩ (.slice q4_1 m1 d4_1)).setCell ⟨b4_7, 2, none⟩ (.slice q4_2 m2 d4_2)).setCell ⟨b4_7, 3, none⟩ (.slice q4_3 m3 d4_3)).setCell ⟨b4_7, 4, none⟩ (.slice q4_4 m4 d4_4)) ?_ ?_)
          · simp only [execOp]
            go_simp
          exact hI.turned (c := 7) hloc hL _ undef (Law.boxG b4_7 29 #[.int .i64 R9, .slice q4_1 m1 d4_1, .slice q4_2 m2 d4_2, .slice q4_3 m3 d4_3, .slice q4_4 m4 d4_4]) (hI.hd.put5 9 (congrArg some g7) (.int .i64 R9) (.slice q4_1 m1 d4_1) (.slice q4_2 m2 d4_2) (.slice q4_3 m3 d4_3) (.slice q4_4 m4 d4_4)) l7 (by kernel_rfl) ⟨b4_7, _, _, _, _, _, v7, Draws.upd_at _ _ _⟩ ⟨b4_7, q4_1, d4_1, q4_2, d4_2, q4_3, d4_3, q4_4, d4_4, v7, v5, Draws.upd_at _ _ _⟩
        · obtain rfl := Option.some.inj ho
          have l8 := hd 8 (by simp [State.ExApplyBorder7Dep])
          have e8 := (hI.at_ 8 10 rfl l8).get
          have l6 := hd 6 (by simp [State.ExApplyBorder7Dep])
          have e6 := (hI.at_ 6 37 rfl l6).get
          obtain ⟨b4_8, o8_0, o8_1, o8_2, o8_3, v8, -⟩ := hI.gd 8 l8
          rw [v8] at e8
          rw [show val 6 = _ from hI.gd 6 l6] at e6
          obtain ⟨b4_8', o8_0, o8_1, o8_2, o8_3, v8', g8⟩ := hI.gd 8 l8
          rw [v8] at v8'
          cases v8'
          obtain ⟨y0, y1, y2, y3⟩ := Law.cells4 (hI.hd.nth 10 (congrArg some g8))
          obtain ⟨f0, f1, f2, f3⟩ := Law.frees4 (hI.hd.nth 10 (congrArg some g8))
          refine Draws.wpOp_of (by rfl) rfl (State.wp_skip (w' := (((W.setCell ⟨b4_8, 0, none⟩ (.int .i64 y1_0)).setCell ⟨b4_8, 1, none⟩ (.int .i64 y1_1)).setCell ⟨b4_8, 2, none⟩ (.int .i64 y1_2)).setCell ⟨b4_8, 3, none⟩ (.int .i64 y1_3)) ?_ ?_)
          · simp only [execOp]
            go_simp
          exact hI.turned (c := 8) hloc hL _ undef (Law.boxG b4_8 35 #[.int .i64 y1_0, .int .i64 y1_1, .int .i64 y1_2, .int .i64 y1_3]) (hI.hd.put4 10 (congrArg some g8) (.int .i64 y1_0) (.int .i64 y1_1) (.int .i64 y1_2) (.int .i64 y1_3)) l8 (by kernel_rfl) ⟨b4_8, _, _, _, _, v8, Draws.upd_at _ _ _⟩ ⟨b4_8, v8, (show val 6 = _ from hI.gd 6 l6), Draws.upd_at _ _ _⟩
      case last =>
        intro L a W val G hI hall
        have al : ∀ i, i < 11 → L i = true := fun i hi => hall i (by simpa using hi)
        obtain ⟨q4_1, d4_1, q4_2, d4_2, q4_3, d4_3, q4_4, d4_4, v3, r3⟩ := hI.gd 3 (al 3 (by decide))
        obtain ⟨q4_1', d4_1', q4_2', d4_2', q4_3', d4_3', q4_4', d4_4', v4, u⟩ := hI.gd 4 (al 4 (by decide))
        rw [v3] at u
        cases u
        obtain ⟨q4_1', d4_1', q4_2', d4_2', q4_3', d4_3', q4_4', d4_4', v5, u⟩ := hI.gd 5 (al 5 (by decide))
        rw [v4] at u
        cases u
        obtain ⟨b4_7, q4_1', d4_1', q4_2', d4_2', q4_3', d4_3', q4_4', d4_4', v7, u, r7⟩ := hI.gd 9 (al 9 (by decide))
        rw [v5] at u
        cases u
        obtain ⟨b4_8, v8, -, r8⟩ := hI.gd 10 (al 10 (by decide))
        have hH := hI.hd
        dsimp only [Law.gsOf] at hH
        simp only [List.map_cons, List.map_nil] at hH
        rw [r3, r7, r8] at hH
        have HE5 := Lib.hid hH
        have ha := hI.frame (by kernel_rfl) hall
        refine hKK _ _ ?_
        clear hKK hI hH hall al r3 r7 r8
        simp [Draws.frameOf, Draws.slotOf, Act.put, List.range, List.range.loop] at ha
        subst ha
        rw [v7, v8]
        go_upto_region 8 with fail
        obtain ⟨e0, e1, e2, e3, e4⟩ := Law.box5 (HE5.out.nth 9 rfl)
        obtain ⟨f0, f1, f2, f3, f4⟩ := Law.box5 (HE5.out.nth 4 rfl)
        go_upto_region 10 with (first | (go_at_call 23; ((with_reducible refine (State.eqState_is _ _ _ _ _ _ _ _ _ _ _ _ _ _ _ _ _ _ _ _ _ ys mr tr br _ (State.OwnS.reads (HE5.out.nth 8 rfl)) (State.OwnS.reads (HE5.out.nth 3 rfl)) Hm1.out Hm2.out Hm3.out Hm4.out).mono ?_); rintro e u5 ⟨rfl, hg⟩; have HE6 := Lib.hid (HE5.out.on hg); clear hg; obtain ⟨s0, s1, s2, s3⟩ := Law.cells4 (HE6.out.nth 10 rfl); obtain ⟨t0, t1, t2, t3⟩ := Law.cells4 (HE6.out.nth 5 rfl))) | (go_at_call 24; ((with_reducible refine (State.eqLedger_is y1_0 y1_1 y1_2 y1_3 _).mono ?_); rintro e u6 ⟨rfl, hg⟩; have HE7 := Lib.hid (HE6.out.on hg); clear hg)))
        clear e0 e1 e2 e3 e4 f0 f1 f2 f3 f4 s0 s1 s2 s3 t0 t1 t2 t3 HE5 HE6
        go_cut [52] from 48 to 51 (fun v wx => v = .bool false ∧ Hid (Law.Held w wx (Law.gsOf HE7.out)))
        case first =>
          obtain ⟨b0_0, b0_1, b0_2, b0_3, b0_4⟩ := Law.box5 (HE7.out.nth 0 rfl)
          obtain ⟨x0, x1, x2, x3, x4⟩ := Law.box5 (HE7.out.nth 7 rfl)
          go_region_with (first | (go_at_call 22; ((with_reducible refine (State.toState_is _ _ _ _ _ _ _ _ _ _ _ _ _ xs0 ms0 ts0 bs0 _ (HR0.out.on (Mesh.gr_drew HE7.out.gr)) Hn0_1.out Hn0_2.out Hn0_3.out Hn0_4.out).mono ?_); rintro e u7 ⟨z1, z2, z3, z4, rfl, ho, hg⟩; have hE := HE7.out.on (Cell.grown_trans (Mesh.gr_drew (Cell.grown_refl _)) hg); obtain ⟨s0, s1, s2, s3, s4⟩ := Law.box5 (hE.nth 7 rfl); have HRR := Lib.hid (State.OwnS.reads ho); have HEA := Lib.hid hE; clear ho hg hE)) | (go_at_call 23; ((with_reducible refine (State.eqState_is _ _ _ _ _ _ _ _ _ _ _ _ _ _ _ _ _ _ _ _ _ xs0 ms0 ts0 bs0 _ (State.OwnS.reads (HEA.out.nth 6 rfl)) HRR.out Hn0_1.out Hn0_2.out Hn0_3.out Hn0_4.out).mono ?_); rintro e u8 ⟨rfl, hg⟩; have HEB := Lib.hid (HEA.out.on hg); clear hg)))
          all_goals
            go_wp2_with fail
            go_meet
            exact ⟨rfl, HEB⟩
        case rest =>
          obtain ⟨rfl, HE8⟩ := hcut
          dsimp only [Law.gsOf] at HE8
          clear HE7
          obtain ⟨x0, x1, x2, x3, x4⟩ := Law.box5 (HE8.out.nth 7 rfl)
          go_upto_region 14 with (go_at_call 25; ((with_reducible refine (State.markState1 _ Hn0_1.out Hn0_2.out Hn0_3.out Hn0_4.out (HE8.out.nth 6 rfl)).mono ?_); rw [← EK0.out]; rintro e u9 ⟨rfl, ho, ht⟩; have HE9 := Lib.hid (HE8.out.turn 6 rfl (g' := State.stateG (.slice (some ⟨g2_1, 0, none⟩) n0_1 n0_1) (.slice (some ⟨g2_2, 0, none⟩) n0_2 n0_2) (.slice (some ⟨g2_3, 0, none⟩) n0_3 n0_3) (.slice (some ⟨g2_4, 0, none⟩) n0_4 n0_4) n0_1 n0_2 n0_3 n0_4 (State.marksC 1 n0_1) (Ints.marksI (1 + 3 * n0_1) n0_2) (Ints.marksI (1 + 3 * n0_1 + n0_2) n0_3) (Ints.marksI (1 + 3 * n0_1 + n0_2 + n0_3) n0_4)) ht rfl ho); clear ho ht))
          clear x0 x1 x2 x3 x4 HE8
          obtain ⟨e0, e1, e2, e3, e4⟩ := Law.box5 (HE9.out.nth 9 rfl)
          obtain ⟨f0, f1, f2, f3, f4⟩ := Law.box5 (HE9.out.nth 4 rfl)
          go_upto_region 17 with (first | (go_at_call 23; ((with_reducible refine (State.eqState_is _ _ _ _ _ _ _ _ _ _ _ _ _ _ _ _ _ _ _ _ _ ys mr tr br _ (State.OwnS.reads (HE9.out.nth 8 rfl)) (State.OwnS.reads (HE9.out.nth 3 rfl)) Hm1.out Hm2.out Hm3.out Hm4.out).mono ?_); rintro e u10 ⟨rfl, hg⟩; have HE10 := Lib.hid (HE9.out.on hg); clear hg; obtain ⟨s0, s1, s2, s3⟩ := Law.cells4 (HE10.out.nth 10 rfl); obtain ⟨t0, t1, t2, t3⟩ := Law.cells4 (HE10.out.nth 5 rfl))) | (go_at_call 24; ((with_reducible refine (State.eqLedger_is y1_0 y1_1 y1_2 y1_3 _).mono ?_); rintro e u11 ⟨rfl, hg⟩; have HE11 := Lib.hid (HE10.out.on hg); clear hg)))
          clear e0 e1 e2 e3 e4 f0 f1 f2 f3 f4 s0 s1 s2 s3 t0 t1 t2 t3 HE9 HE10
          obtain ⟨e0, e1, e2, e3, e4⟩ := Law.box5 (HE11.out.nth 9 rfl)
          go_upto_region 19 with (go_at_call 25; ((with_reducible refine (State.markState1 _ Hm1.out Hm2.out Hm3.out Hm4.out (HE11.out.nth 8 rfl)).mono ?_); rw [← EKG.out]; rintro e u12 ⟨rfl, ho, ht⟩; have HE12 := Lib.hid (HE11.out.turn 8 rfl (g' := State.stateG (.slice q4_1 m1 d4_1) (.slice q4_2 m2 d4_2) (.slice q4_3 m3 d4_3) (.slice q4_4 m4 d4_4) m1 m2 m3 m4 (State.marksC 1 m1) (Ints.marksI (1 + 3 * m1) m2) (Ints.marksI (1 + 3 * m1 + m2) m3) (Ints.marksI (1 + 3 * m1 + m2 + m3) m4)) ht rfl ho); clear ho ht))
          clear e0 e1 e2 e3 e4 HE11
          obtain ⟨e0, e1, e2, e3, e4⟩ := Law.box5 (HE12.out.nth 9 rfl)
          go_upto_region 24 with (go_at_call 26; ((with_reducible refine (State.heldState1 _ Hm1.out Hm2.out Hm3.out Hm4.out (State.OwnS.reads (HE12.out.nth 8 rfl))).mono ?_); rw [← EKG.out]; rintro e u13 ⟨rfl, hg⟩; have HE13 := Lib.hid (HE12.out.on hg); clear hg))
          clear e0 e1 e2 e3 e4 HE12
          rename_i KK hKK
          refine Draws.wp_region_tabG (w := w) rfl (by kernel_rfl) (by kernel_rfl) State.ExApplyBorder24Dep (by kernel_rfl) (Law.gsOf HE13.out) [1, 4, 8, 9] (fun _ => Law.emptyG) (State.ExApplyBorder24 a0_0 a0_1 n0_1 c0_1 a0_2 n0_2 c0_2 a0_3 n0_3 c0_3 a0_4 n0_4 c0_4 xs0 ms0 ts0 bs0 a1_0 a1_1 a1_2 R9 m1 m2 m3 m4 ys mr tr br y1_0 y1_1 y1_2 y1_3 x1_1 x1_2 x1_3 x1_4) ?start ?step ?last
          case start => exact (HE13.out.on (by first | exact Mesh.gr_drew (Cell.grown_refl _) | exact Mesh.gr_drew (Cell.g_drewN (Cell.grown_refl _) _))).addE.addE.addE.addE
          case step =>
            clear hKK
            intro L a W val G i o hI ho hL hd
            have hi : i < 12 := by have := (Array.getElem?_eq_some_iff.1 ho).1; simpa using this
            have hloc := State.ExApplyBorder24_local a0_0 a0_1 n0_1 c0_1 a0_2 n0_2 c0_2 a0_3 n0_3 c0_3 a0_4 n0_4 c0_4 xs0 ms0 ts0 bs0 a1_0 a1_1 a1_2 R9 m1 m2 m3 m4 ys mr tr br y1_0 y1_1 y1_2 y1_3 x1_1 x1_2 x1_3 x1_4
            obtain ⟨z0_0, z0_1, z0_2, z0_3, z0_4⟩ := Law.box5 (hI.hd.nth 0 rfl)
            obtain ⟨z1_0, z1_1, z1_2⟩ := Law.cells3 (hI.hd.nth 1 rfl)
            rcases (show i = 0 ∨ i = 1 ∨ i = 2 ∨ i = 3 ∨ i = 4 ∨ i = 5 ∨ i = 6 ∨ i = 7 ∨ i = 8 ∨ i = 9 ∨ i = 10 ∨ i = 11 by omega) with rfl | rfl | rfl | rfl | rfl | rfl | rfl | rfl | rfl | rfl | rfl | rfl
            · obtain rfl := Option.some.inj ho
              have p2 := (hI.old 2 (by kernel_rfl) rfl).get
              refine Draws.wpOp_of (by rfl) rfl (State.wp_value (v := .agg #[.int .i64 a0_0, .slice a0_1 n0_1 c0_1, .slice a0_2 n0_2 c0_2, .slice a0_3 n0_3 c0_3, .slice a0_4 n0_4 c0_4]) (w' := W) ?_ (hI.same hloc hL _ _ (Cell.grown_refl _) (Draws.upd_at _ _ _)))
              simp only [execOp]
              go_simp
            · obtain rfl := Option.some.inj ho
              have l0 := hd 0 (by simp [State.ExApplyBorder24Dep])
              have e0 := (hI.at_ 0 82 rfl l0).get
              rw [show val 0 = _ from hI.gd 0 l0] at e0
              refine Draws.wpOp_of (by rfl) rfl ?_
              unfold Oper.wp
              simp only [execOp]
              go_simp
              refine Calls.mono (P := Try.prog) (State.toState_is _ _ _ _ _ _ _ _ _ _ _ _ _ xs0 ms0 ts0 bs0 W (HR0.out.on hI.hd.gr) Hn0_1.out Hn0_2.out Hn0_3.out Hn0_4.out) ?_
              rintro e w1 ⟨x1_1, x1_2, x1_3, x1_4, rfl, ho, hg⟩
              exact hI.made hloc hL _ (.agg #[.int .i64 a0_0, .slice (some ⟨x1_1, 0, none⟩) n0_1 n0_1, .slice (some ⟨x1_2, 0, none⟩) n0_2 n0_2, .slice (some ⟨x1_3, 0, none⟩) n0_3 n0_3, .slice (some ⟨x1_4, 0, none⟩) n0_4 n0_4]) (State.stateG (.slice (some ⟨x1_1, 0, none⟩) n0_1 n0_1) (.slice (some ⟨x1_2, 0, none⟩) n0_2 n0_2) (.slice (some ⟨x1_3, 0, none⟩) n0_3 n0_3) (.slice (some ⟨x1_4, 0, none⟩) n0_4 n0_4) n0_1 n0_2 n0_3 n0_4 xs0 ms0 ts0 bs0) (hI.hd.fill 11 (g' := State.stateG (.slice (some ⟨x1_1, 0, none⟩) n0_1 n0_1) (.slice (some ⟨x1_2, 0, none⟩) n0_2 n0_2) (.slice (some ⟨x1_3, 0, none⟩) n0_3 n0_3) (.slice (some ⟨x1_4, 0, none⟩) n0_4 n0_4) n0_1 n0_2 n0_3 n0_4 xs0 ms0 ts0 bs0) (congrArg some (hI.no 1 hL)) hg (ho.from (Nat.zero_le _)) ho.blocks) ⟨x1_1, x1_2, x1_3, x1_4, Draws.upd_at _ _ _, Draws.upd_at _ _ _⟩
            · obtain rfl := Option.some.inj ho
              have p3 := (hI.old 3 (by kernel_rfl) rfl).get
              refine Draws.wpOp_of (by rfl) rfl (State.wp_value (v := .agg #[.int .i64 a1_0, .int .i64 a1_1, .int .i64 a1_2]) (w' := W) ?_ (hI.same hloc hL _ _ (Cell.grown_refl _) (Draws.upd_at _ _ _)))
              simp only [execOp]
              go_simp
            · obtain rfl := Option.some.inj ho
              have l2 := hd 2 (by simp [State.ExApplyBorder24Dep])
              have e2 := (hI.at_ 2 84 rfl l2).get
              rw [show val 2 = _ from hI.gd 2 l2] at e2
              refine Draws.wpOp_of (by rfl) rfl ?_
              unfold Oper.wp
              simp only [execOp]
              go_simp
              refine Calls.mono (P := Try.prog) (State.toBorder_is a1_0 a1_1 a1_2 W) ?_
              rintro e w1 ⟨rfl, hg⟩
              exact hI.same hloc hL _ (.agg #[.int .i64 a1_0, .int .i64 a1_1, .int .i64 a1_2]) hg (Draws.upd_at _ _ _)
            · obtain rfl := Option.some.inj ho
              have l1 := hd 1 (by simp [State.ExApplyBorder24Dep])
              have e1 := (hI.at_ 1 83 rfl l1).get
              have l3 := hd 3 (by simp [State.ExApplyBorder24Dep])
              have e3 := (hI.at_ 3 85 rfl l3).get
              obtain ⟨x1_1, x1_2, x1_3, x1_4, v1, -⟩ := hI.gd 1 l1
              rw [v1] at e1
              rw [show val 3 = _ from hI.gd 3 l3] at e3
              refine Draws.wpOp_of (by rfl) rfl ?_
              unfold Oper.wp
              simp only [execOp]
              go_simp
              obtain ⟨x1_1', x1_2', x1_3', x1_4', v1', r1⟩ := hI.gd 1 l1
              rw [v1] at v1'
              cases v1'
              refine Calls.mono (P := Try.prog) (HIB.out W _ _ _ _ _ _ _ _ (State.OwnS.reads (hI.hd.nth 11 (congrArg some r1)))) ?_
              rintro e w1 ⟨q14_1, d14_1, q14_2, d14_2, q14_3, d14_3, q14_4, d14_4, rfl, ho, hg⟩
              exact hI.made hloc hL _ (.tuple #[.agg #[.int .i64 R9, .slice q14_1 m1 d14_1, .slice q14_2 m2 d14_2, .slice q14_3 m3 d14_3, .slice q14_4 m4 d14_4], .agg #[.int .i64 y1_0, .int .i64 y1_1, .int .i64 y1_2, .int .i64 y1_3]]) (State.stateG (.slice q14_1 m1 d14_1) (.slice q14_2 m2 d14_2) (.slice q14_3 m3 d14_3) (.slice q14_4 m4 d14_4) m1 m2 m3 m4 ys mr tr br) (hI.hd.fill 12 (g' := State.stateG (.slice q14_1 m1 d14_1) (.slice q14_2 m2 d14_2) (.slice q14_3 m3 d14_3) (.slice q14_4 m4 d14_4) m1 m2 m3 m4 ys mr tr br) (congrArg some (hI.no 4 hL)) hg (ho.from (Nat.zero_le _)) ho.blocks) ⟨q14_1, d14_1, q14_2, d14_2, q14_3, d14_3, q14_4, d14_4, Draws.upd_at _ _ _, Draws.upd_at _ _ _⟩
            · obtain rfl := Option.some.inj ho
              have l4 := hd 4 (by simp [State.ExApplyBorder24Dep])
              have e4 := (hI.at_ 4 86 rfl l4).get
              obtain ⟨q14_1, d14_1, q14_2, d14_2, q14_3, d14_3, q14_4, d14_4, v4, -⟩ := hI.gd 4 l4
              rw [v4] at e4
              refine Draws.wpOp_of (by rfl) rfl (State.wp_value (v := .tuple #[.agg #[.int .i64 R9, .slice q14_1 m1 d14_1, .slice q14_2 m2 d14_2, .slice q14_3 m3 d14_3, .slice q14_4 m4 d14_4], .agg #[.int .i64 y1_0, .int .i64 y1_1, .int .i64 y1_2, .int .i64 y1_3]]) (w' := W) ?_ (hI.same hloc hL _ _ (Cell.grown_refl _) ⟨q14_1, d14_1, q14_2, d14_2, q14_3, d14_3, q14_4, d14_4, Draws.upd_at _ _ _, v4⟩))
              simp only [execOp]
              go_simp
            · obtain rfl := Option.some.inj ho
              have l5 := hd 5 (by simp [State.ExApplyBorder24Dep])
              have e5 := (hI.at_ 5 81 rfl l5).get
              obtain ⟨q14_1, d14_1, q14_2, d14_2, q14_3, d14_3, q14_4, d14_4, v5, -⟩ := hI.gd 5 l5
              rw [v5] at e5
              refine Draws.wpOp_of (by rfl) rfl (State.wp_value (v := .agg #[.int .i64 R9, .slice q14_1 m1 d14_1, .slice q14_2 m2 d14_2, .slice q14_3 m3 d14_3, .slice q14_4 m4 d14_4]) (w' := W) ?_ (hI.same hloc hL _ _ (Cell.grown_refl _) ⟨q14_1, d14_1, q14_2, d14_2, q14_3, d14_3, q14_4, d14_4, Draws.upd_at _ _ _, v5⟩))
              simp only [execOp]
              go_simp
            · obtain rfl := Option.some.inj ho
              have l5 := hd 5 (by simp [State.ExApplyBorder24Dep])
              have e5 := (hI.at_ 5 81 rfl l5).get
              obtain ⟨q14_1, d14_1, q14_2, d14_2, q14_3, d14_3, q14_4, d14_4, v5, -⟩ := hI.gd 5 l5
              rw [v5] at e5
              refine Draws.wpOp_of (by rfl) rfl (State.wp_value (v := .agg #[.int .i64 y1_0, .int .i64 y1_1, .int .i64 y1_2, .int .i64 y1_3]) (w' := W) ?_ (hI.same hloc hL _ _ (Cell.grown_refl _) (Draws.upd_at _ _ _)))
              simp only [execOp]
              go_simp
            · obtain rfl := Option.some.inj ho
              refine Draws.wpOp_of (by rfl) rfl (State.wp_value (v := .pointer (some ⟨W.heap.size, 0, none⟩)) (w' := W.alloc (.cells #[.int .i64 0, .slice none 0 0, .slice none 0 0, .slice none 0 0, .slice none 0 0] 29)) ?_ ?_)
              · simp only [execOp]
                go_simp
              exact hI.made hloc hL _ _ (Law.boxG W.heap.size 29 #[.int .i64 0, .slice none 0 0, .slice none 0 0, .slice none 0 0, .slice none 0 0]) (hI.hd.fill 13 (g' := Law.boxG W.heap.size 29 #[.int .i64 0, .slice none 0 0, .slice none 0 0, .slice none 0 0, .slice none 0 0]) (congrArg some (hI.no 8 hL)) (World.grownBy_alloc W _ none) (World.alloc_heap_new W _) (fun b hb => by have : b = W.heap.size := (by simpa [Law.boxG] using hb); subst this; simp)) ⟨W.heap.size, _, _, _, _, _, Draws.upd_at _ _ _, Draws.upd_at _ _ _⟩
            · obtain rfl := Option.some.inj ho
              refine Draws.wpOp_of (by rfl) rfl (State.wp_value (v := .pointer (some ⟨W.heap.size, 0, none⟩)) (w' := W.alloc (.cells #[.int .i64 0, .int .i64 0, .int .i64 0, .int .i64 0] 35)) ?_ ?_)
              · simp only [execOp]
                go_simp
              exact hI.made hloc hL _ _ (Law.boxG W.heap.size 35 #[.int .i64 0, .int .i64 0, .int .i64 0, .int .i64 0]) (hI.hd.fill 14 (g' := Law.boxG W.heap.size 35 #[.int .i64 0, .int .i64 0, .int .i64 0, .int .i64 0]) (congrArg some (hI.no 9 hL)) (World.grownBy_alloc W _ none) (World.alloc_heap_new W _) (fun b hb => by have : b = W.heap.size := (by simpa [Law.boxG] using hb); subst this; simp)) ⟨W.heap.size, _, _, _, _, Draws.upd_at _ _ _, Draws.upd_at _ _ _⟩
            · obtain rfl := Option.some.inj ho
              have l8 := hd 8 (by simp [State.ExApplyBorder24Dep])
              have e8 := (hI.at_ 8 14 rfl l8).get
              have l6 := hd 6 (by simp [State.ExApplyBorder24Dep])
              have e6 := (hI.at_ 6 87 rfl l6).get
              obtain ⟨b14_8, o8_0, o8_1, o8_2, o8_3, o8_4, v8, -⟩ := hI.gd 8 l8
              rw [v8] at e8
              obtain ⟨q14_1, d14_1, q14_2, d14_2, q14_3, d14_3, q14_4, d14_4, v6, -⟩ := hI.gd 6 l6
              rw [v6] at e6
              obtain ⟨b14_8', o8_0, o8_1, o8_2, o8_3, o8_4, v8', g8⟩ := hI.gd 8 l8
              rw [v8] at v8'
              cases v8'
              obtain ⟨y0, y1, y2, y3, y4⟩ := Law.box5 (hI.hd.nth 13 (congrArg some g8))
              obtain ⟨f0, f1, f2, f3, f4⟩ := Law.free5 (hI.hd.nth 13 (congrArg some g8))
              refine Draws.wpOp_of (by rfl) rfl (State.wp_skip (w' := ((((W.setCell ⟨b14_8, 0, none⟩ (.int .i64 R9)).setCell ⟨b14_8, 1, none⟩ (.slice q14_1 m1 d14_1)).setCell ⟨b14_8, 2, none⟩ (.slice q14_2 m2 d14_2)).setCell ⟨b14_8, 3, none⟩ (.slice q14_3 m3 d14_3)).setCell ⟨b14_8, 4, none⟩ (.slice q14_4 m4 d14_4)) ?_ ?_)
              · simp only [execOp]
                go_simp
              exact hI.turned (c := 8) hloc hL _ undef (Law.boxG b14_8 29 #[.int .i64 R9, .slice q14_1 m1 d14_1, .slice q14_2 m2 d14_2, .slice q14_3 m3 d14_3, .slice q14_4 m4 d14_4]) (hI.hd.put5 13 (congrArg some g8) (.int .i64 R9) (.slice q14_1 m1 d14_1) (.slice q14_2 m2 d14_2) (.slice q14_3 m3 d14_3) (.slice q14_4 m4 d14_4)) l8 (by kernel_rfl) ⟨b14_8, _, _, _, _, _, v8, Draws.upd_at _ _ _⟩ ⟨b14_8, q14_1, d14_1, q14_2, d14_2, q14_3, d14_3, q14_4, d14_4, v8, v6, Draws.upd_at _ _ _⟩
            · obtain rfl := Option.some.inj ho
              have l9 := hd 9 (by simp [State.ExApplyBorder24Dep])
              have e9 := (hI.at_ 9 15 rfl l9).get
              have l7 := hd 7 (by simp [State.ExApplyBorder24Dep])
              have e7 := (hI.at_ 7 88 rfl l7).get
              obtain ⟨b14_9, o9_0, o9_1, o9_2, o9_3, v9, -⟩ := hI.gd 9 l9
              rw [v9] at e9
              rw [show val 7 = _ from hI.gd 7 l7] at e7
              obtain ⟨b14_9', o9_0, o9_1, o9_2, o9_3, v9', g9⟩ := hI.gd 9 l9
              rw [v9] at v9'
              cases v9'
              obtain ⟨y0, y1, y2, y3⟩ := Law.cells4 (hI.hd.nth 14 (congrArg some g9))
              obtain ⟨f0, f1, f2, f3⟩ := Law.frees4 (hI.hd.nth 14 (congrArg some g9))
              refine Draws.wpOp_of (by rfl) rfl (State.wp_skip (w' := (((W.setCell ⟨b14_9, 0, none⟩ (.int .i64 y1_0)).setCell ⟨b14_9, 1, none⟩ (.int .i64 y1_1)).setCell ⟨b14_9, 2, none⟩ (.int .i64 y1_2)).setCell ⟨b14_9, 3, none⟩ (.int .i64 y1_3)) ?_ ?_)
              · simp only [execOp]
                go_simp
              exact hI.turned (c := 9) hloc hL _ undef (Law.boxG b14_9 35 #[.int .i64 y1_0, .int .i64 y1_1, .int .i64 y1_2, .int .i64 y1_3]) (hI.hd.put4 14 (congrArg some g9) (.int .i64 y1_0) (.int .i64 y1_1) (.int .i64 y1_2) (.int .i64 y1_3)) l9 (by kernel_rfl) ⟨b14_9, _, _, _, _, v9, Draws.upd_at _ _ _⟩ ⟨b14_9, v9, (show val 7 = _ from hI.gd 7 l7), Draws.upd_at _ _ _⟩
          case last =>
            intro L a W val G hI hall
            have al : ∀ i, i < 12 → L i = true := fun i hi => hall i (by simpa using hi)
            obtain ⟨x1_1, x1_2, x1_3, x1_4, v1, r1⟩ := hI.gd 1 (al 1 (by decide))
            obtain ⟨q14_1, d14_1, q14_2, d14_2, q14_3, d14_3, q14_4, d14_4, v4, r4⟩ := hI.gd 4 (al 4 (by decide))
            obtain ⟨q14_1', d14_1', q14_2', d14_2', q14_3', d14_3', q14_4', d14_4', v5, u⟩ := hI.gd 5 (al 5 (by decide))
            rw [v4] at u
            cases u
            obtain ⟨q14_1', d14_1', q14_2', d14_2', q14_3', d14_3', q14_4', d14_4', v6, u⟩ := hI.gd 6 (al 6 (by decide))
            rw [v5] at u
            cases u
            obtain ⟨b14_8, q14_1', d14_1', q14_2', d14_2', q14_3', d14_3', q14_4', d14_4', v8, u, r8⟩ := hI.gd 10 (al 10 (by decide))
            rw [v6] at u
            cases u
            obtain ⟨b14_9, v9, -, r9⟩ := hI.gd 11 (al 11 (by decide))
            have hH := hI.hd
            dsimp only [Law.gsOf] at hH
            simp only [List.map_cons, List.map_nil] at hH
            rw [r1, r4, r8, r9] at hH
            have HE14 := Lib.hid hH
            have ha := hI.frame (by kernel_rfl) hall
            refine hKK _ _ ?_
            clear hKK hI hH hall al r1 r4 r8 r9
            simp [Draws.frameOf, Draws.slotOf, Act.put, List.range, List.range.loop] at ha
            subst ha
            rw [v8, v9]
            go_upto_region 25 with fail
            obtain ⟨e0, e1, e2, e3, e4⟩ := Law.box5 (HE14.out.nth 13 rfl)
            obtain ⟨f0, f1, f2, f3, f4⟩ := Law.box5 (HE14.out.nth 4 rfl)
            go_upto_region 28 with (first | (go_at_call 23; ((with_reducible refine (State.eqState_is _ _ _ _ _ _ _ _ _ _ _ _ _ _ _ _ _ _ _ _ _ ys mr tr br _ (State.OwnS.reads (HE14.out.nth 12 rfl)) (State.OwnS.reads (HE14.out.nth 3 rfl)) Hm1.out Hm2.out Hm3.out Hm4.out).mono ?_); rintro e u15 ⟨rfl, hg⟩; have HE15 := Lib.hid (HE14.out.on hg); clear hg; obtain ⟨s0, s1, s2, s3⟩ := Law.cells4 (HE15.out.nth 14 rfl); obtain ⟨t0, t1, t2, t3⟩ := Law.cells4 (HE15.out.nth 5 rfl))) | (go_at_call 24; ((with_reducible refine (State.eqLedger_is y1_0 y1_1 y1_2 y1_3 _).mono ?_); rintro e u16 ⟨rfl, hg⟩; have HE16 := Lib.hid (HE15.out.on hg); clear hg)))
            clear e0 e1 e2 e3 e4 f0 f1 f2 f3 f4 s0 s1 s2 s3 t0 t1 t2 t3 HE14 HE15
            obtain ⟨e0, e1, e2, e3, e4⟩ := Law.box5 (HE16.out.nth 9 rfl)
            go_wp2_with (go_at_call 26; ((with_reducible refine (State.heldState1 _ Hm1.out Hm2.out Hm3.out Hm4.out (State.OwnS.reads (HE16.out.nth 8 rfl))).mono ?_); rw [← EKG.out]; rintro e u17 ⟨rfl, hg⟩; have HE17 := Lib.hid (HE16.out.on hg); clear hg))
            go_ret
            exact ⟨rfl, Cell.grown_below HE17.out.gr (Nat.le_refl _)⟩

set_option maxRecDepth 100000 in
theorem lifted (os : Os) (started : os.Started) (H : Type) (enc : TypeId × Value → H) :
    ReturnsInHanded {} Try.checked os 6 .any (Rows.fnExactApplyBorderSpec.pre6 enc Try.prog Try.f6 Rows.fnExactApplyBorderRow.domain false) (Rows.fnExactApplyBorderSpec.post enc Try.prog Try.f6 false true false false) := by
  refine returnsInHanded_of_change (C := Try.checked) own started (by kernel_rfl) Try.func6
    (ChangeSpec.witness6 (enc := enc) (C := Try.checked) false ⟨#[], #[.agg #[.int .i64 0, .slice none 0 0, .slice none 0 0, .slice none 0 0, .slice none 0 0], .agg #[.int .i64 0, .int .i64 0, .int .i64 0]], []⟩ 8 (by kernel_rfl) (by kernel_rfl) (by kernel_rfl) (by kernel_rfl)) ?_
  intro W base args ds gs before hval0 hW hcnd _
  have hval : ∀ (j : Nat) t v, Try.f6.params[j]? = some t → args[j]? = some v → Value.okWide Try.prog W .any base t v := hval0
  have hW' := hW
  obtain ⟨p, q, hA0, hV, rfl, hfz, hnd⟩ := hW
  have hA : DataW.TrodAll enc Try.prog W 0 (fun _ => true) true Try.f6.params.toList args.toList ds p := hA0
  rw [Try.params6] at hA hval
  obtain ⟨v0, vs0, d0, ds0, p0, q0, hargs, rfl, rfl, h0, r0⟩ := trodAll_cons hA
  obtain ⟨v1, vs1, d1, ds1, p1, q1, rfl, rfl, rfl, h1, r1⟩ := trodAll_cons r0
  obtain ⟨rfl, rfl, rfl⟩ := trodAll_nil r1
  obtain rfl : args = #[v0, v1] := by cases args; simp_all
  obtain ⟨rfl, rfl⟩ := trodVars_none hV
  have lt0 : ∀ x ∈ p0, x.block < W.heap.size := by obtain ⟨m, hm⟩ := h0; exact DataW.trod_lt m _ _ _ hm
  obtain ⟨a0_0, a0_1, n0_1, c0_1, a0_2, n0_2, c0_2, a0_3, n0_3, c0_3, a0_4, n0_4, c0_4, xs0, ms0, ts0, bs0, rfl, hn0_1, hn0_2, hn0_3, hn0_4, hr0⟩ := State.open_state (hval 0 50 v0 rfl rfl) h0
  obtain ⟨c1_0, c1_1, c1_2, y1_0, y1_1, y1_2, m1, rfl, rfl, rfl, hy1_0, hy1_1, hy1_2⟩ := open_agg3 Try.underlying43 (by kernel_rfl) cells43 (hval 1 43 v1 rfl rfl) h1
  obtain ⟨a1_0, e1_0, rfl, w1_0⟩ := DataW.trod_int Try.underlying3 hy1_0
  obtain ⟨a1_1, e1_1, rfl, w1_1⟩ := DataW.trod_int Try.underlying3 hy1_1
  obtain ⟨a1_2, e1_2, rfl, w1_2⟩ := DataW.trod_int Try.underlying3 hy1_2
  simp at e1_0 e1_1 e1_2
  subst e1_0 e1_1 e1_2
  have shut1 : ∀ (W' : World) (sp : Nat → Bool), DataW.Trod enc Try.prog W' 0 sp true 43 (.agg #[.int .i64 a1_0, .int .i64 a1_1, .int .i64 a1_2]) (.agg [.lit (.int .i64 a1_0), .lit (.int .i64 a1_1), .lit (.int .i64 a1_2)]) [] := fun W' sp =>
    shut_agg3 (y0 := (.lit (.int .i64 a1_0), [])) (y1 := (.lit (.int .i64 a1_1), [])) (y2 := (.lit (.int .i64 a1_2), [])) Try.underlying43 (by kernel_rfl) cells43 ⟨1, by simp [DataW.trod, Try.underlying3, w1_0]⟩ ⟨1, by simp [DataW.trod, Try.underlying3, w1_1]⟩ ⟨1, by simp [DataW.trod, Try.underlying3, w1_2]⟩
  clear hA0 hval0
  simp only [List.append_nil] at hW'
  refine (walk a0_0 a0_1 n0_1 c0_1 a0_2 n0_2 c0_2 a0_3 n0_3 c0_3 a0_4 n0_4 c0_4 xs0 ms0 ts0 bs0 a1_0 a1_1 a1_2 w1_0 w1_1 w1_2 W hn0_1 hn0_2 hn0_3 hn0_4 hr0).mono fun e W' ⟨he, bel⟩ => ?_
  subst he
  exact ⟨_, rfl, _, _, _, [], _, [], hW', (trodAll_cons_mk (shut_bool Try.underlying4 _) trodAll_mk0), (trodAll_cons_mk (Below.trod laidOut (by kernel_rfl) (of_decide_eq_true (by kernel_rfl)) h0 bel lt0) (trodAll_cons_mk (shut1 _ _) trodAll_mk0)), rfl, bel.frame _, fun h => by cases h⟩

theorem over : Rows.fnExactApplyBorderRow.holds Try.pinned (OpenSpec.ofChange Rows.fnExactApplyBorderSpec) :=
  OpenClaim.holds_of_wide 6 Try.f6 rfl rfl rfl rfl rfl rfl rfl ⟨rfl, rfl, rfl, rfl, rfl⟩ rfl rfl rfl rfl rfl (by kernel_rfl) Try.func6 (by kernel_rfl)
    (of_decide_eq_true (by kernel_rfl)) (by unfold Func.isWrapper; first | (rw [if_pos (by decide +kernel)]; kernel_rfl) | (rw [if_neg (by decide +kernel)]; exact ⟨rfl, rfl⟩))
    (fun os started H enc _ => lifted os started H enc)

theorem proved : Rows.FnExactApplyBorderSaid := over
#print axioms proved
end Go.Proofs.Ytngacnckejnllaa.fnExactApplyBorder
