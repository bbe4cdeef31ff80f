/- Steps: what leaves a leaf, as the program's closure in stepThrough reckons it: the table of its region that draws its order, and its contract (written by wip/tools/stleave.py).
   Conditions: at most 2^20 leaves. -/
import Derived.Test.YtnaofcbbdlhjpaaStStepP
import Derived.Test.YtnaofcbbdlhjpaaStTrcT
import Derived.Test.YtnaofcbbdlhjpaaStTrcI
set_option maxRecDepth 100000
namespace Go.Proofs.Ytnaofcbbdlhjpaa.State
open Go.ChangeShapes Go.WideShapes Go.ChangeAt Go.RowKit Go.Joins Go.Proofs.Ytnaofcbbdlhjpaa.Cell Go.Proofs.Ytnaofcbbdlhjpaa.Mesh Go.Proofs.Ytnaofcbbdlhjpaa.Law Go.Proofs.Ytnaofcbbdlhjpaa.Ints Go.Proofs.Ytnaofcbbdlhjpaa.Draws Go.Deep
set_option linter.unusedVariables false

/-- What each operation leaves. -/
def Leav (Sb Fb g2 o2 g3 o3 gf n c2 c3 nf cf k : Nat) (m t f0 f1 r l A C : Int) (val : Nat → Value) (G : Nat → Grp) : Nat → Prop
  | 0 => val 0 = .pointer (some ⟨Sb, 3, none⟩)
  | 1 => val 1 = .slice (some ⟨g3, o3, none⟩) n c3
  | 2 => val 2 = .int .i64 (k : Int)
  | 3 => val 3 = .pointer (some ⟨g3, (o3 + k), none⟩)
  | 4 => val 4 = .int .i64 t
  | 5 => val 5 = .pointer (some ⟨Sb, 2, none⟩)
  | 6 => val 6 = .slice (some ⟨g2, o2, none⟩) n c2
  | 7 => val 7 = .int .i64 (k : Int)
  | 8 => val 8 = .pointer (some ⟨g2, (o2 + k), none⟩)
  | 9 => val 9 = .int .i64 m
  | 10 => val 10 = .slice (some ⟨gf, 0, none⟩) nf cf
  | 11 => val 11 = .int .i64 (k : Int)
  | 12 => val 12 = .int .i64 ((k : Int) + 1)
  | 13 => val 13 = .pointer (some ⟨gf, (k + 1), none⟩)
  | 14 => val 14 = .int .i64 f1
  | 15 => val 15 = .int .i64 r
  | 16 => val 16 = .slice (some ⟨gf, 0, none⟩) nf cf
  | 17 => val 17 = .int .i64 (k : Int)
  | 18 => val 18 = .pointer (some ⟨gf, k, none⟩)
  | 19 => val 19 = .int .i64 f0
  | 20 => val 20 = .int .i64 (-f0)
  | 21 => val 21 = .int .i64 l
  | 22 => val 22 = .tuple #[.int .i64 A, .int .i64 C]
  | 23 => val 23 = .int .i64 A
  | 24 => val 24 = .int .i64 C
  | 25 => val 25 = .int .i64 A
  | 26 => val 26 = .int .i64 C
  | _ => True
def LeavDep : Nat → List Nat
  | 1 => [0] | 3 => [1, 2] | 4 => [3] | 6 => [5] | 8 => [6, 7] | 9 => [8] | 12 => [11] | 13 => [10, 12] | 14 => [13] | 15 => [14] | 18 => [16, 17] | 19 => [18] | 20 => [19] | 21 => [20] | 22 => [4, 9, 15, 21] | 23 => [22] | 24 => [22] | 25 => [23] | 26 => [24] | _ => []
theorem Leav_local (Sb Fb g2 o2 g3 o3 gf n c2 c3 nf cf k : Nat) (m t f0 f1 r l A C : Int) : Local LeavDep (Leav Sb Fb g2 o2 g3 o3 gf n c2 c3 nf cf k m t f0 f1 r l A C) := by
  intro val val' G G' j hk h
  match j with
  | 0 => exact (hk 0 (.inl rfl)).1.trans h
  | 1 => exact (hk 1 (.inl rfl)).1.trans h
  | 2 => exact (hk 2 (.inl rfl)).1.trans h
  | 3 => exact (hk 3 (.inl rfl)).1.trans h
  | 4 => exact (hk 4 (.inl rfl)).1.trans h
  | 5 => exact (hk 5 (.inl rfl)).1.trans h
  | 6 => exact (hk 6 (.inl rfl)).1.trans h
  | 7 => exact (hk 7 (.inl rfl)).1.trans h
  | 8 => exact (hk 8 (.inl rfl)).1.trans h
  | 9 => exact (hk 9 (.inl rfl)).1.trans h
  | 10 => exact (hk 10 (.inl rfl)).1.trans h
  | 11 => exact (hk 11 (.inl rfl)).1.trans h
  | 12 => exact (hk 12 (.inl rfl)).1.trans h
  | 13 => exact (hk 13 (.inl rfl)).1.trans h
  | 14 => exact (hk 14 (.inl rfl)).1.trans h
  | 15 => exact (hk 15 (.inl rfl)).1.trans h
  | 16 => exact (hk 16 (.inl rfl)).1.trans h
  | 17 => exact (hk 17 (.inl rfl)).1.trans h
  | 18 => exact (hk 18 (.inl rfl)).1.trans h
  | 19 => exact (hk 19 (.inl rfl)).1.trans h
  | 20 => exact (hk 20 (.inl rfl)).1.trans h
  | 21 => exact (hk 21 (.inl rfl)).1.trans h
  | 22 => exact (hk 22 (.inl rfl)).1.trans h
  | 23 => exact (hk 23 (.inl rfl)).1.trans h
  | 24 => exact (hk 24 (.inl rfl)).1.trans h
  | 25 => exact (hk 25 (.inl rfl)).1.trans h
  | 26 => exact (hk 26 (.inl rfl)).1.trans h
  | _ + 27 => trivial

set_option maxHeartbeats 8000000 in
theorem leaving_is (Sb Fb g2 o2 g3 o3 gf n c2 c3 nf cf k : Nat) (m t f0 f1 r l : Int) (w : World) (hk : k < n) (hn : n ≤ 1048576) (hnf : nf = n + 1)
    (hc : w.cell? ⟨Sb, 2, none⟩ = some (.slice (some ⟨g2, o2, none⟩) n c2) ∧ w.cell? ⟨Sb, 3, none⟩ = some (.slice (some ⟨g3, o3, none⟩) n c3) ∧ w.cell? ⟨Fb, 0, none⟩ = some (.slice (some ⟨gf, 0, none⟩) nf cf) ∧ w.cell? ⟨g2, o2 + k, none⟩ = some (.int .i64 m) ∧ w.cell? ⟨g3, o3 + k, none⟩ = some (.int .i64 t) ∧ w.cell? ⟨gf, k, none⟩ = some (.int .i64 f0) ∧ w.cell? ⟨gf, k + 1, none⟩ = some (.int .i64 f1))
    (b0 : -2500000 ≤ f0 ∧ f0 ≤ 2500000) (b1 : -2500000 ≤ f1 ∧ f1 ≤ 2500000) (hr : r = max f1 0) (hl : l = max (-f0) 0) :
    Calls Try.prog 85 #[.int .i64 (k : Int), .pointer (some ⟨Sb, 0, none⟩), .pointer (some ⟨Fb, 0, none⟩)] w fun e w' => e = .returned (.tuple #[.int .i64 (outR t m r l), .int .i64 (outL t m r l)]) ∧ w.grownBy w' none := by
  have HCel := Lib.hid (show ∀ u, w.grownBy u none → u.cell? ⟨Sb, 2, none⟩ = some (.slice (some ⟨g2, o2, none⟩) n c2) ∧ u.cell? ⟨Sb, 3, none⟩ = some (.slice (some ⟨g3, o3, none⟩) n c3) ∧ u.cell? ⟨Fb, 0, none⟩ = some (.slice (some ⟨gf, 0, none⟩) nf cf) ∧ u.cell? ⟨g2, o2 + k, none⟩ = some (.int .i64 m) ∧ u.cell? ⟨g3, o3 + k, none⟩ = some (.int .i64 t) ∧ u.cell? ⟨gf, k, none⟩ = some (.int .i64 f0) ∧ u.cell? ⟨gf, k + 1, none⟩ = some (.int .i64 f1) from
    fun u hu => ⟨hu.cell hc.1 (by simp), hu.cell hc.2.1 (by simp), hu.cell hc.2.2.1 (by simp), hu.cell hc.2.2.2.1 (by simp), hu.cell hc.2.2.2.2.1 (by simp), hu.cell hc.2.2.2.2.2.1 (by simp), hu.cell hc.2.2.2.2.2.2 (by simp)⟩)
  have HP := Lib.hid fun u => leafOut_is t m r l (by omega) (by omega) u
  have e3 : (if f1 < 0 then (0 : Int) else f1) = r := by rw [hr]; split <;> omega
  have e4 : (if 0 < f0 then (0 : Int) else -f0) = l := by rw [hl]; split <;> omega
  have e1 : IntKind.i64.wrap ((k : Int) + 1) = (k : Int) + 1 := IntWalk.i64_in _ (by omega)
  have e2 : IntKind.i64.wrap (-f0) = -f0 := IntWalk.i64_in _ (by omega)
  have hki : (k : Int) < n := by omega
  have hni : (n : Int) ≤ 1048576 := by omega
  have hfi : (nf : Int) = n + 1 := by omega
  clear hc hk hn hnf hr hl
  generalize outR t m r l = A at *
  generalize outL t m r l = C at *
  go_enter Try.func85, Try.ntmps85
  go_upto_region 1 with fail
  rename_i K_ hK
  refine Draws.wp_region_tabG (w := w) rfl (by kernel_rfl) (by kernel_rfl) State.LeavDep (by kernel_rfl) [] [] (fun _ => Law.emptyG) (State.Leav Sb Fb g2 o2 g3 o3 gf n c2 c3 nf cf k m t f0 f1 r l A C) ?start ?step ?last
  case start => exact (Held.nil w).on (Mesh.gr_drew (Cell.grown_refl _))
  case step =>
    clear hK
    intro L a W val G i o hI ho hL hd
    have hi : i < 27 := by have := (Array.getElem?_eq_some_iff.1 ho).1; simpa using this
    have hloc := State.Leav_local Sb Fb g2 o2 g3 o3 gf n c2 c3 nf cf k m t f0 f1 r l A C
    obtain ⟨z2, z3, z4, x0, x1, y0, y1⟩ := HCel.out W hI.hd.gr
    rcases (show i = 0 ∨ i = 1 ∨ i = 2 ∨ i = 3 ∨ i = 4 ∨ i = 5 ∨ i = 6 ∨ i = 7 ∨ i = 8 ∨ i = 9 ∨ i = 10 ∨ i = 11 ∨ i = 12 ∨ i = 13 ∨ i = 14 ∨ i = 15 ∨ i = 16 ∨ i = 17 ∨ i = 18 ∨ i = 19 ∨ i = 20 ∨ i = 21 ∨ i = 22 ∨ i = 23 ∨ i = 24 ∨ i = 25 ∨ i = 26 by omega) with rfl | rfl | rfl | rfl | rfl | rfl | rfl | rfl | rfl | rfl | rfl | rfl | rfl | rfl | rfl | rfl | rfl | rfl | rfl | rfl | rfl | rfl | rfl | rfl | rfl | rfl | rfl
    · obtain rfl := Option.some.inj ho
      have p1 := (hI.old 1 (by kernel_rfl) rfl).get
      refine Draws.wpOp_of (by rfl) rfl (State.wp_value (v := .pointer (some ⟨Sb, 3, none⟩)) (w' := W) ?_ (hI.same hloc hL _ _ (Cell.grown_refl _) (Draws.upd_at _ _ _)))
      simp only [execOp]
      go_simp
    · obtain rfl := Option.some.inj ho
      have l0 := hd 0 (by simp [State.LeavDep])
      have e0 := (hI.at_ 0 6 rfl l0).get
      rw [show val 0 = _ from hI.gd 0 l0] at e0
      refine Draws.wpOp_of (by rfl) rfl (State.wp_value (v := .slice (some ⟨g3, o3, none⟩) n c3) (w' := W) ?_ (hI.same hloc hL _ _ (Cell.grown_refl _) (Draws.upd_at _ _ _)))
      simp only [execOp]
      go_simp
    · obtain rfl := Option.some.inj ho
      have p0 := (hI.old 0 (by kernel_rfl) rfl).get
      refine Draws.wpOp_of (by rfl) rfl (State.wp_value (v := .int .i64 (k : Int)) (w' := W) ?_ (hI.same hloc hL _ _ (Cell.grown_refl _) (Draws.upd_at _ _ _)))
      simp only [execOp]
      go_simp
    · obtain rfl := Option.some.inj ho
      have l1 := hd 1 (by simp [State.LeavDep])
      have e1 := (hI.at_ 1 7 rfl l1).get
      have l2 := hd 2 (by simp [State.LeavDep])
      have e2 := (hI.at_ 2 8 rfl l2).get
      rw [show val 1 = _ from hI.gd 1 l1] at e1
      rw [show val 2 = _ from hI.gd 2 l2] at e2
      refine Draws.wpOp_of (by rfl) rfl (State.wp_value (v := .pointer (some ⟨g3, (o3 + k), none⟩)) (w' := W) ?_ (hI.same hloc hL _ _ (Cell.grown_refl _) (Draws.upd_at _ _ _)))
      simp only [execOp]
      go_simp
      all_goals (intro hh; exfalso; omega)
    · obtain rfl := Option.some.inj ho
      have l3 := hd 3 (by simp [State.LeavDep])
      have e3 := (hI.at_ 3 9 rfl l3).get
      rw [show val 3 = _ from hI.gd 3 l3] at e3
      refine Draws.wpOp_of (by rfl) rfl (State.wp_value (v := .int .i64 t) (w' := W) ?_ (hI.same hloc hL _ _ (Cell.grown_refl _) (Draws.upd_at _ _ _)))
      simp only [execOp]
      go_simp
    · obtain rfl := Option.some.inj ho
      have p1 := (hI.old 1 (by kernel_rfl) rfl).get
      refine Draws.wpOp_of (by rfl) rfl (State.wp_value (v := .pointer (some ⟨Sb, 2, none⟩)) (w' := W) ?_ (hI.same hloc hL _ _ (Cell.grown_refl _) (Draws.upd_at _ _ _)))
      simp only [execOp]
      go_simp
    · obtain rfl := Option.some.inj ho
      have l5 := hd 5 (by simp [State.LeavDep])
      have e5 := (hI.at_ 5 11 rfl l5).get
      rw [show val 5 = _ from hI.gd 5 l5] at e5
      refine Draws.wpOp_of (by rfl) rfl (State.wp_value (v := .slice (some ⟨g2, o2, none⟩) n c2) (w' := W) ?_ (hI.same hloc hL _ _ (Cell.grown_refl _) (Draws.upd_at _ _ _)))
      simp only [execOp]
      go_simp
    · obtain rfl := Option.some.inj ho
      have p0 := (hI.old 0 (by kernel_rfl) rfl).get
      refine Draws.wpOp_of (by rfl) rfl (State.wp_value (v := .int .i64 (k : Int)) (w' := W) ?_ (hI.same hloc hL _ _ (Cell.grown_refl _) (Draws.upd_at _ _ _)))
      simp only [execOp]
      go_simp
    · obtain rfl := Option.some.inj ho
      have l6 := hd 6 (by simp [State.LeavDep])
      have e6 := (hI.at_ 6 12 rfl l6).get
      have l7 := hd 7 (by simp [State.LeavDep])
      have e7 := (hI.at_ 7 13 rfl l7).get
      rw [show val 6 = _ from hI.gd 6 l6] at e6
      rw [show val 7 = _ from hI.gd 7 l7] at e7
      refine Draws.wpOp_of (by rfl) rfl (State.wp_value (v := .pointer (some ⟨g2, (o2 + k), none⟩)) (w' := W) ?_ (hI.same hloc hL _ _ (Cell.grown_refl _) (Draws.upd_at _ _ _)))
      simp only [execOp]
      go_simp
      all_goals (intro hh; exfalso; omega)
    · obtain rfl := Option.some.inj ho
      have l8 := hd 8 (by simp [State.LeavDep])
      have e8 := (hI.at_ 8 14 rfl l8).get
      rw [show val 8 = _ from hI.gd 8 l8] at e8
      refine Draws.wpOp_of (by rfl) rfl (State.wp_value (v := .int .i64 m) (w' := W) ?_ (hI.same hloc hL _ _ (Cell.grown_refl _) (Draws.upd_at _ _ _)))
      simp only [execOp]
      go_simp
    · obtain rfl := Option.some.inj ho
      have p2 := (hI.old 2 (by kernel_rfl) rfl).get
      refine Draws.wpOp_of (by rfl) rfl (State.wp_value (v := .slice (some ⟨gf, 0, none⟩) nf cf) (w' := W) ?_ (hI.same hloc hL _ _ (Cell.grown_refl _) (Draws.upd_at _ _ _)))
      simp only [execOp]
      go_simp
    · obtain rfl := Option.some.inj ho
      have p0 := (hI.old 0 (by kernel_rfl) rfl).get
      refine Draws.wpOp_of (by rfl) rfl (State.wp_value (v := .int .i64 (k : Int)) (w' := W) ?_ (hI.same hloc hL _ _ (Cell.grown_refl _) (Draws.upd_at _ _ _)))
      simp only [execOp]
      go_simp
    · obtain rfl := Option.some.inj ho
      have l11 := hd 11 (by simp [State.LeavDep])
      have e11 := (hI.at_ 11 17 rfl l11).get
      rw [show val 11 = _ from hI.gd 11 l11] at e11
      refine Draws.wpOp_of (by rfl) rfl (State.wp_value (v := .int .i64 ((k : Int) + 1)) (w' := W) ?_ (hI.same hloc hL _ _ (Cell.grown_refl _) (Draws.upd_at _ _ _)))
      simp only [execOp]
      go_simp
    · obtain rfl := Option.some.inj ho
      have l10 := hd 10 (by simp [State.LeavDep])
      have e10 := (hI.at_ 10 16 rfl l10).get
      have l12 := hd 12 (by simp [State.LeavDep])
      have e12 := (hI.at_ 12 18 rfl l12).get
      rw [show val 10 = _ from hI.gd 10 l10] at e10
      rw [show val 12 = _ from hI.gd 12 l12] at e12
      refine Draws.wpOp_of (by rfl) rfl (State.wp_value (v := .pointer (some ⟨gf, (k + 1), none⟩)) (w' := W) ?_ (hI.same hloc hL _ _ (Cell.grown_refl _) (Draws.upd_at _ _ _)))
      simp only [execOp]
      go_simp
      all_goals (intro hh; exfalso; omega)
    · obtain rfl := Option.some.inj ho
      have l13 := hd 13 (by simp [State.LeavDep])
      have e13 := (hI.at_ 13 19 rfl l13).get
      rw [show val 13 = _ from hI.gd 13 l13] at e13
      refine Draws.wpOp_of (by rfl) rfl (State.wp_value (v := .int .i64 f1) (w' := W) ?_ (hI.same hloc hL _ _ (Cell.grown_refl _) (Draws.upd_at _ _ _)))
      simp only [execOp]
      go_simp
    · obtain rfl := Option.some.inj ho
      have l14 := hd 14 (by simp [State.LeavDep])
      have e14 := (hI.at_ 14 20 rfl l14).get
      rw [show val 14 = _ from hI.gd 14 l14] at e14
      refine Draws.wpOp_of (by rfl) rfl (State.wp_value (v := .int .i64 r) (w' := W) ?_ (hI.same hloc hL _ _ (Cell.grown_refl _) (Draws.upd_at _ _ _)))
      simp only [execOp]
      go_simp
      all_goals exact e3
    · obtain rfl := Option.some.inj ho
      have p2 := (hI.old 2 (by kernel_rfl) rfl).get
      refine Draws.wpOp_of (by rfl) rfl (State.wp_value (v := .slice (some ⟨gf, 0, none⟩) nf cf) (w' := W) ?_ (hI.same hloc hL _ _ (Cell.grown_refl _) (Draws.upd_at _ _ _)))
      simp only [execOp]
      go_simp
    · obtain rfl := Option.some.inj ho
      have p0 := (hI.old 0 (by kernel_rfl) rfl).get
      refine Draws.wpOp_of (by rfl) rfl (State.wp_value (v := .int .i64 (k : Int)) (w' := W) ?_ (hI.same hloc hL _ _ (Cell.grown_refl _) (Draws.upd_at _ _ _)))
      simp only [execOp]
      go_simp
    · obtain rfl := Option.some.inj ho
      have l16 := hd 16 (by simp [State.LeavDep])
      have e16 := (hI.at_ 16 22 rfl l16).get
      have l17 := hd 17 (by simp [State.LeavDep])
      have e17 := (hI.at_ 17 23 rfl l17).get
      rw [show val 16 = _ from hI.gd 16 l16] at e16
      rw [show val 17 = _ from hI.gd 17 l17] at e17
      refine Draws.wpOp_of (by rfl) rfl (State.wp_value (v := .pointer (some ⟨gf, k, none⟩)) (w' := W) ?_ (hI.same hloc hL _ _ (Cell.grown_refl _) (Draws.upd_at _ _ _)))
      simp only [execOp]
      go_simp
      all_goals (intro hh; exfalso; omega)
    · obtain rfl := Option.some.inj ho
      have l18 := hd 18 (by simp [State.LeavDep])
      have e18 := (hI.at_ 18 24 rfl l18).get
      rw [show val 18 = _ from hI.gd 18 l18] at e18
      refine Draws.wpOp_of (by rfl) rfl (State.wp_value (v := .int .i64 f0) (w' := W) ?_ (hI.same hloc hL _ _ (Cell.grown_refl _) (Draws.upd_at _ _ _)))
      simp only [execOp]
      go_simp
    · obtain rfl := Option.some.inj ho
      have l19 := hd 19 (by simp [State.LeavDep])
      have e19 := (hI.at_ 19 25 rfl l19).get
      rw [show val 19 = _ from hI.gd 19 l19] at e19
      refine Draws.wpOp_of (by rfl) rfl (State.wp_value (v := .int .i64 (-f0)) (w' := W) ?_ (hI.same hloc hL _ _ (Cell.grown_refl _) (Draws.upd_at _ _ _)))
      simp only [execOp]
      go_simp
    · obtain rfl := Option.some.inj ho
      have l20 := hd 20 (by simp [State.LeavDep])
      have e20 := (hI.at_ 20 26 rfl l20).get
      rw [show val 20 = _ from hI.gd 20 l20] at e20
      refine Draws.wpOp_of (by rfl) rfl (State.wp_value (v := .int .i64 l) (w' := W) ?_ (hI.same hloc hL _ _ (Cell.grown_refl _) (Draws.upd_at _ _ _)))
      simp only [execOp]
      go_simp
      all_goals exact e4
    · obtain rfl := Option.some.inj ho
      have l4 := hd 4 (by simp [State.LeavDep])
      have e4 := (hI.at_ 4 10 rfl l4).get
      have l9 := hd 9 (by simp [State.LeavDep])
      have e9 := (hI.at_ 9 15 rfl l9).get
      have l15 := hd 15 (by simp [State.LeavDep])
      have e15 := (hI.at_ 15 21 rfl l15).get
      have l21 := hd 21 (by simp [State.LeavDep])
      have e21 := (hI.at_ 21 27 rfl l21).get
      rw [show val 4 = _ from hI.gd 4 l4] at e4
      rw [show val 9 = _ from hI.gd 9 l9] at e9
      rw [show val 15 = _ from hI.gd 15 l15] at e15
      rw [show val 21 = _ from hI.gd 21 l21] at e21
      refine Draws.wpOp_of (by rfl) rfl ?_
      unfold Oper.wp
      simp only [execOp]
      go_simp
      refine Calls.mono (P := Try.prog) (HP.out W) ?_
      rintro e w1 ⟨rfl, hg⟩
      exact hI.same hloc hL _ (.tuple #[.int .i64 A, .int .i64 C]) hg (Draws.upd_at _ _ _)
    · obtain rfl := Option.some.inj ho
      have l22 := hd 22 (by simp [State.LeavDep])
      have e22 := (hI.at_ 22 28 rfl l22).get
      rw [show val 22 = _ from hI.gd 22 l22] at e22
      refine Draws.wpOp_of (by rfl) rfl (State.wp_value (v := .int .i64 A) (w' := W) ?_ (hI.same hloc hL _ _ (Cell.grown_refl _) (Draws.upd_at _ _ _)))
      simp only [execOp]
      go_simp
    · obtain rfl := Option.some.inj ho
      have l22 := hd 22 (by simp [State.LeavDep])
      have e22 := (hI.at_ 22 28 rfl l22).get
      rw [show val 22 = _ from hI.gd 22 l22] at e22
      refine Draws.wpOp_of (by rfl) rfl (State.wp_value (v := .int .i64 C) (w' := W) ?_ (hI.same hloc hL _ _ (Cell.grown_refl _) (Draws.upd_at _ _ _)))
      simp only [execOp]
      go_simp
    · obtain rfl := Option.some.inj ho
      have l23 := hd 23 (by simp [State.LeavDep])
      have e23 := (hI.at_ 23 29 rfl l23).get
      rw [show val 23 = _ from hI.gd 23 l23] at e23
      refine Draws.wpOp_of (by rfl) rfl (State.wp_value (v := .int .i64 A) (w' := W) ?_ (hI.same hloc hL _ _ (Cell.grown_refl _) (Draws.upd_at _ _ _)))
      simp only [execOp]
      go_simp
    · obtain rfl := Option.some.inj ho
      have l24 := hd 24 (by simp [State.LeavDep])
      have e24 := (hI.at_ 24 30 rfl l24).get
      rw [show val 24 = _ from hI.gd 24 l24] at e24
      refine Draws.wpOp_of (by rfl) rfl (State.wp_value (v := .int .i64 C) (w' := W) ?_ (hI.same hloc hL _ _ (Cell.grown_refl _) (Draws.upd_at _ _ _)))
      simp only [execOp]
      go_simp
  case last =>
    intro L a_ W val G hI hall
    have vz0 : val 25 = .int .i64 A := hI.gd 25 (hall 25 (by simp))
    have vz1 : val 26 = .int .i64 C := hI.gd 26 (hall 26 (by simp))
    have HG := Lib.hid hI.hd.gr
    have ha := hI.frame (by kernel_rfl) hall
    refine hK _ _ ?_
    clear hK hI hall HP HCel
    simp [Draws.frameOf, Draws.slotOf, Act.put, List.range, List.range.loop] at ha
    subst ha
    rw [vz0, vz1]
    clear vz0 vz1
    go_wp2_with fail
    go_ret2
    exact ⟨rfl, HG.out⟩
end Go.Proofs.Ytnaofcbbdlhjpaa.State
