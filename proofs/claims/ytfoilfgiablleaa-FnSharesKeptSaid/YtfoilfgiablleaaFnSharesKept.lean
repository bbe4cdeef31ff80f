/- Proved: for every slice of bytes the law FnSharesKept returns true: refining a drawn leaf of a drawn state and balancing it again makes the greatest share no greater and the least share no less; the greatest share is the reference model's, at most 1000, and no less than the least one.
   Conditions: none besides those that the given row prints. -/
import Derived.Test.YtfoilfgiablleaaRows
import Derived.WalkKit
import Derived.ProofKit
import Derived.OpenShut
import Derived.ShutString
import Derived.Test.YtfoilfgiablleaaStTrcK
import Derived.Test.YtfoilfgiablleaaStDrawL
import Derived.ChangeOld
import Derived.Below
set_option maxRecDepth 100000
namespace Go.Proofs.Ytfoilfgiablleaa.fnSharesKept
open Go.ChangeShapes Go.WideShapes Go.ChangeAt Go.RowKit
open Go.ChangeMaps (open_string shut_string)
set_option linter.unusedVariables false

theorem own : ownKnob Try.prog.godebug = none := by kernel_rfl
theorem laidOut : laidOutB Try.prog = true := by kernel_rfl

def IsRow (k : IntKind) (w : World) (a : Option Addr) (len cap : Nat) (zs : List Int) : Prop :=
  (a = none ∧ len = 0 ∧ cap = 0 ∧ zs = []) ∨
  ∃ x, a = some x ∧ len ≤ cap ∧ cap ≤ maxLen ∧ zs.length = cap ∧ (∀ i, i < zs.length → w.cell? (x.add i) = some (.int k (zs.getD i 0))) ∧ ∀ n ∈ zs, (Lit.int k n).wf = true

set_option maxHeartbeats 32000000 in
theorem walk (a0 : Option Addr) (len0 cap0 : Nat) (z0 : List Int) (w : World) (w0 : IsRow .u8 w a0 len0 cap0 z0) :
    Calls Try.prog 5 #[.slice a0 len0 cap0] w fun e w' => e = .returned (.bool true) ∧ Below w.heap.size w w' := by
  have hb := Draw.bytes_of w0
  have HB := Lib.hid hb; clear hb
  clear w0
  by_cases hlen : 1048576 < len0
  · have hd : decide (1048576 < (len0 : Int)) = true := by simp; omega
    go_enter Try.func5, Try.ntmps5
    go_wp2_with fail
    refine Draw.big_any.mono ?_; rintro e w1 ⟨rfl, rfl⟩
    rw [hd]
    go_wp2_with fail
    go_ret
    exact ⟨rfl, Below.refl _ _⟩
  · have hd : decide (1048576 < (len0 : Int)) = false := by simp; omega
    have hlen' : len0 ≤ 1048576 := by omega
    have HLen := Lib.hid hlen'; clear hlen'
    go_enter Try.func5, Try.ntmps5
    go_wp2_with fail
    refine Draw.big_any.mono ?_; rintro e w1 ⟨rfl, rfl⟩
    rw [hd]
    clear hd hlen
    go_wp2_with fail
    refine (State.drawState_is HLen.out HB.out (Nat.le_refl _)).mono ?_
    rintro e w1 ⟨R, n1, n2, xs, ms, ts, bs, x1, c1, x2, c2, x3, c3, x4, c4, rfl, hd, ho, hg⟩
    obtain ⟨hn2, hn2', hR⟩ := hd.sizes
    have hn := hd.leaves
    obtain ⟨g1, c1', hv⟩ := Mesh.own_at1 ho.l (by omega)
    cases hv
    obtain ⟨g2, rfl, -, -⟩ := Ints.own_atI ho.m (by omega)
    obtain ⟨g3, rfl, -, -⟩ := Ints.own_atI ho.t (by omega)
    obtain ⟨g4, rfl, -, -⟩ := Ints.own_atI ho.b (by omega)
    have HE1 := Lib.hid ((State.Held.state (Law.Held.nil w) hg ho).box 29 #[.int .i64 R, .slice (some ⟨g1, 0, none⟩) n1 c1, .slice (some ⟨g2, 0, none⟩) n1 c2, .slice (some ⟨g3, 0, none⟩) n1 c3, .slice (some ⟨g4, 0, none⟩) n2 c4])
    have HD := Lib.hid hd
    have H1 := Lib.hid (show n1 ≤ 1048576 by omega); have H2 := Lib.hid (show n2 ≤ 1048576 by omega)
    have HN := Lib.hid hn
    have hn1 : 1 ≤ (n1 : Int) := by omega
    have hn1' : (n1 : Int) ≤ 128 := by omega
    have HBW := Lib.hid (HB.out.kept (fun b hb' => (hg.block b hb' (by simp))))
    have HSZ := Lib.hid hg.size
    clear ho hg hd hn hn2 hn2' hR HB
    go_upto_region 4 with fail
    obtain ⟨B3, hB3⟩ : ∃ B, B = w1.heap.size := ⟨_, rfl⟩
    rw [← hB3] at HE1 ⊢
    clear hB3
    have HBX := Lib.hid (HBW.out.kept (fun b hb' => (World.grownBy_alloc w1 (.cells #[.int .i64 R, .slice (some ⟨g1, 0, none⟩) n1 c1, .slice (some ⟨g2, 0, none⟩) n1 c2, .slice (some ⟨g3, 0, none⟩) n1 c3, .slice (some ⟨g4, 0, none⟩) n2 c4] 29) none).block b (by have := HSZ.out; omega) (by simp)))
    have HSX := Lib.hid (Nat.le_trans HSZ.out (World.grownBy_alloc w1 (.cells #[.int .i64 R, .slice (some ⟨g1, 0, none⟩) n1 c1, .slice (some ⟨g2, 0, none⟩) n1 c2, .slice (some ⟨g3, 0, none⟩) n1 c3, .slice (some ⟨g4, 0, none⟩) n2 c4] 29) none).size)
    clear HBW HSZ
    generalize w1.alloc (.cells #[.int .i64 R, .slice (some ⟨g1, 0, none⟩) n1 c1, .slice (some ⟨g2, 0, none⟩) n1 c2, .slice (some ⟨g3, 0, none⟩) n1 c3, .slice (some ⟨g4, 0, none⟩) n2 c4] 29) = W1 at *
    go_upto_region 5 with (go_at_call 17; ((with_reducible refine (State.places_new HLen.out HBX.out HSX.out).mono ?_); rintro e w2 ⟨gp, cp, p0, p1, p2, rfl, q0, q1, q2, hp, hlo, hg⟩; have HE2 := Lib.hid (HE1.out.add hg hp (fun b hb => by rw [List.mem_singleton.1 hb]; exact hlo)); clear hp hlo hg))
    clear HE1 HBX HSX HLen
    obtain ⟨z0, z1, z2, z3, z4⟩ := Law.box5 (HE2.out.nth 1 rfl)
    obtain ⟨c4', c5, c6⟩ := HE2.out.nth 2 rfl
    have hk0 : (p0 : Int).tmod (n1 : Int) = ((p0 % n1 : Int).toNat : Int) := by
      rw [Int.tmod_eq_emod_of_nonneg q0.1, Int.toNat_of_nonneg (Int.emod_nonneg _ (by omega))]
    have HK := Lib.hid (show (p0 % n1 : Int).toNat < n1 by have := Int.emod_lt_of_pos p0 (show (0 : Int) < n1 by omega); have := Int.emod_nonneg p0 (show (n1 : Int) ≠ 0 by omega); omega)
    have hki : (((p0 % n1 : Int).toNat : Nat) : Int) < n1 := by have := HK.out; omega
    generalize (p0 % n1 : Int).toNat = k at *
    have hn0 : ¬ (n1 : Int) = 0 := by omega
    have hl2 := HD.out.len
    have hl1 := HD.out.l1
    have hok := HD.out.ok
    obtain ⟨hro, -, -⟩ := State.br_ok (i := (k : Int)) hok
    obtain ⟨q6, q7, q8, q9⟩ := State.shares_kept (i := (k : Int)) hok
    have hrf := fun u (h : State.RoomS u (some ⟨g1, 0, none⟩) (some ⟨g2, 0, none⟩) (some ⟨g3, 0, none⟩) (some ⟨g4, 0, none⟩) n1 n1 n1 n2 c1 c2 c3 c4 xs ms ts bs) => State.specBalRef_is R g1 g2 g3 g4 n1 n1 n1 n2 c1 c2 c3 c4 xs ms ts bs k u h H1.out H1.out H1.out H2.out
    obtain ⟨ys, mr, tr, hres⟩ : ∃ ys mr tr, State.brS R xs ms ts bs (k : Int) = (ys, mr, tr) := ⟨_, _, _, rfl⟩
    obtain ⟨b, hb⟩ : ∃ q, q = State.brB R xs ms ts bs (k : Int) := ⟨_, rfl⟩
    simp only [hres] at hro q6 q7
    simp only [hres, ← hb] at hrf
    obtain ⟨m, hm⟩ : ∃ q, q = ys.length := ⟨_, rfl⟩
    obtain ⟨l2, l3, m1, m2⟩ := State.ok_sizesK hro
    rw [← hm] at l2 l3 m1 m2
    simp only [l2, l3, ← hm] at hrf
    have HP := Lib.hid hrf
    obtain ⟨A, hA⟩ : ∃ q, q = State.greatG R xs ms ts bs := ⟨_, rfl⟩
    obtain ⟨B, hB⟩ : ∃ q, q = State.leastG R xs ms ts bs := ⟨_, rfl⟩
    obtain ⟨C, hC⟩ : ∃ q, q = State.greatG R ys mr tr bs := ⟨_, rfl⟩
    obtain ⟨D, hD⟩ : ∃ q, q = State.leastG R ys mr tr bs := ⟨_, rfl⟩
    have HMi := Lib.hid (show m ≤ 1048576 by omega)
    have HGS := Lib.hid (show ∀ u, State.ReadsS u (some ⟨g1, 0, none⟩) (some ⟨g2, 0, none⟩) (some ⟨g3, 0, none⟩) (some ⟨g4, 0, none⟩) n1 n1 n1 n2 xs ms ts bs → Calls Try.prog 27 #[.agg #[.int .i64 R, .slice (some ⟨g1, 0, none⟩) n1 c1, .slice (some ⟨g2, 0, none⟩) n1 c2, .slice (some ⟨g3, 0, none⟩) n1 c3, .slice (some ⟨g4, 0, none⟩) n2 c4]] u fun e w' => e = .returned (.int .i64 A) ∧ u.grownBy w' none from fun u h => by
      have q := State.greatest_is R _ _ _ _ n1 n1 n1 n2 c1 c2 c3 c4 xs ms ts bs u h H1.out H1.out H1.out H2.out
      rw [← hA] at q
      exact q)
    have HLS := Lib.hid (show ∀ u, State.ReadsS u (some ⟨g1, 0, none⟩) (some ⟨g2, 0, none⟩) (some ⟨g3, 0, none⟩) (some ⟨g4, 0, none⟩) n1 n1 n1 n2 xs ms ts bs → Calls Try.prog 28 #[.agg #[.int .i64 R, .slice (some ⟨g1, 0, none⟩) n1 c1, .slice (some ⟨g2, 0, none⟩) n1 c2, .slice (some ⟨g3, 0, none⟩) n1 c3, .slice (some ⟨g4, 0, none⟩) n2 c4]] u fun e w' => e = .returned (.int .i64 B) ∧ u.grownBy w' none from fun u h => by
      have q := State.least_is R _ _ _ _ n1 n1 n1 n2 c1 c2 c3 c4 xs ms ts bs u h H1.out H1.out H1.out H2.out
      rw [← hB] at q
      exact q)
    have HGM := Lib.hid (show ∀ u, State.ReadsS u (some ⟨g1, 0, none⟩) (some ⟨g2, 0, none⟩) (some ⟨g3, 0, none⟩) (some ⟨g4, 0, none⟩) n1 n1 n1 n2 xs ms ts bs → Calls Try.prog 29 #[.agg #[.int .i64 R, .slice (some ⟨g1, 0, none⟩) n1 c1, .slice (some ⟨g2, 0, none⟩) n1 c2, .slice (some ⟨g3, 0, none⟩) n1 c3, .slice (some ⟨g4, 0, none⟩) n2 c4]] u fun e w' => e = .returned (.int .i64 A) ∧ u.grownBy w' none from fun u h => by
      have q := State.specGreatest_is R _ _ _ _ n1 n1 n1 n2 c1 c2 c3 c4 xs ms ts bs u h H1.out H1.out H1.out H2.out
      rw [← hA] at q
      exact q)
    have HGX := Lib.hid (show ∀ u (b1 b2 b3 b4 : Option Addr) (d1 d2 d3 d4 : Nat), State.ReadsS u b1 b2 b3 b4 m m m n2 ys mr tr bs → Calls Try.prog 27 #[.agg #[.int .i64 R, .slice b1 m d1, .slice b2 m d2, .slice b3 m d3, .slice b4 n2 d4]] u fun e w' => e = .returned (.int .i64 C) ∧ u.grownBy w' none from fun u b1 b2 b3 b4 d1 d2 d3 d4 h => by
      have q := State.greatest_is R _ _ _ _ m m m n2 d1 d2 d3 d4 ys mr tr bs u h HMi.out HMi.out HMi.out H2.out
      rw [← hC] at q
      exact q)
    have HLX := Lib.hid (show ∀ u (b1 b2 b3 b4 : Option Addr) (d1 d2 d3 d4 : Nat), State.ReadsS u b1 b2 b3 b4 m m m n2 ys mr tr bs → Calls Try.prog 28 #[.agg #[.int .i64 R, .slice b1 m d1, .slice b2 m d2, .slice b3 m d3, .slice b4 n2 d4]] u fun e w' => e = .returned (.int .i64 D) ∧ u.grownBy w' none from fun u b1 b2 b3 b4 d1 d2 d3 d4 h => by
      have q := State.least_is R _ _ _ _ m m m n2 d1 d2 d3 d4 ys mr tr bs u h HMi.out HMi.out HMi.out H2.out
      rw [← hD] at q
      exact q)
    rw [← hA, ← hC] at q6
    rw [← hB, ← hD] at q7
    rw [← hA, ← hB] at q8
    rw [← hA] at q9
    clear hA hB hC hD hl1 hl2 hok hro hrf hres hb hm l2 l3 m1 m2 HD HN z0 z1 z2 z3 z4 c4' c5 c6 q0 q1 q2
    rename_i K hK
    refine Draws.wp_region_tabG (w := w) rfl (by kernel_rfl) (by kernel_rfl) State.ShkGDep (by kernel_rfl) [State.stateG (.slice (some ⟨g1, 0, none⟩) n1 c1) (.slice (some ⟨g2, 0, none⟩) n1 c2) (.slice (some ⟨g3, 0, none⟩) n1 c3) (.slice (some ⟨g4, 0, none⟩) n2 c4) n1 n1 n1 n2 xs ms ts bs, Law.boxG B3 29 #[.int .i64 R, .slice (some ⟨g1, 0, none⟩) n1 c1, .slice (some ⟨g2, 0, none⟩) n1 c2, .slice (some ⟨g3, 0, none⟩) n1 c3, .slice (some ⟨g4, 0, none⟩) n2 c4], State.placesG gp p0 p1 p2] [8, 12] (fun _ => Law.emptyG) (State.ShkG R g1 g2 g3 g4 n1 n2 m c1 c2 c3 c4 k gp cp B3 b p0 ys mr tr bs) ?start ?step ?last
    case start => exact ((HE2.out.on (Mesh.gr_drew (Cell.grown_refl _))).addE).addE
    case step =>
      clear hK
      intro L a W val G i o hI ho hL hd
      have hi : i < 15 := by have := (Array.getElem?_eq_some_iff.1 ho).1; simpa using this
      have hloc := State.ShkG_local R g1 g2 g3 g4 n1 n2 m c1 c2 c3 c4 k gp cp B3 b p0 ys mr tr bs
      obtain ⟨z0, z1, z2, z3, z4⟩ := Law.box5 (hI.hd.nth 1 rfl)
      obtain ⟨c4', c5, c6⟩ := hI.hd.nth 2 rfl
      rcases (show i = 0 ∨ i = 1 ∨ i = 2 ∨ i = 3 ∨ i = 4 ∨ i = 5 ∨ i = 6 ∨ i = 7 ∨ i = 8 ∨ i = 9 ∨ i = 10 ∨ i = 11 ∨ i = 12 ∨ i = 13 ∨ i = 14 by omega) with rfl | rfl | rfl | rfl | rfl | rfl | rfl | rfl | rfl | rfl | rfl | rfl | rfl | rfl | rfl
      · obtain rfl := Option.some.inj ho
        have p3 := (hI.old 3 (by kernel_rfl) rfl).get
        refine Draws.wpOp_of (by rfl) rfl (State.wp_value (v := .agg #[.int .i64 R, .slice (some ⟨g1, 0, none⟩) n1 c1, .slice (some ⟨g2, 0, none⟩) n1 c2, .slice (some ⟨g3, 0, none⟩) n1 c3, .slice (some ⟨g4, 0, none⟩) n2 c4]) (w' := W) ?_ (hI.same hloc hL _ _ (Cell.grown_refl _) (Draws.upd_at _ _ _)))
        simp only [execOp]
        go_simp
      · obtain rfl := Option.some.inj ho
        have p4 := (hI.old 4 (by kernel_rfl) rfl).get
        refine Draws.wpOp_of (by rfl) rfl (State.wp_value (v := .slice (some ⟨gp, 0, none⟩) 12 cp) (w' := W) ?_ (hI.same hloc hL _ _ (Cell.grown_refl _) (Draws.upd_at _ _ _)))
        simp only [execOp]
        go_simp
      · obtain rfl := Option.some.inj ho
        have l1 := hd 1 (by simp [State.ShkGDep])
        have e1 := (hI.at_ 1 17 rfl l1).get
        rw [show val 1 = _ from hI.gd 1 l1] at e1
        refine Draws.wpOp_of (by rfl) rfl (State.wp_value (v := .pointer (some ⟨gp, 0, none⟩)) (w' := W) ?_ (hI.same hloc hL _ _ (Cell.grown_refl _) (Draws.upd_at _ _ _)))
        simp only [execOp]
        go_simp
      · obtain rfl := Option.some.inj ho
        have l2 := hd 2 (by simp [State.ShkGDep])
        have e2 := (hI.at_ 2 18 rfl l2).get
        rw [show val 2 = _ from hI.gd 2 l2] at e2
        refine Draws.wpOp_of (by rfl) rfl (State.wp_value (v := .int .i64 p0) (w' := W) ?_ (hI.same hloc hL _ _ (Cell.grown_refl _) (Draws.upd_at _ _ _)))
        simp only [execOp]
        go_simp
      · obtain rfl := Option.some.inj ho
        have p3 := (hI.old 3 (by kernel_rfl) rfl).get
        refine Draws.wpOp_of (by rfl) rfl (State.wp_value (v := .pointer (some ⟨B3, 2, none⟩)) (w' := W) ?_ (hI.same hloc hL _ _ (Cell.grown_refl _) (Draws.upd_at _ _ _)))
        simp only [execOp]
        go_simp
      · obtain rfl := Option.some.inj ho
        have l4 := hd 4 (by simp [State.ShkGDep])
        have e4 := (hI.at_ 4 20 rfl l4).get
        rw [show val 4 = _ from hI.gd 4 l4] at e4
        refine Draws.wpOp_of (by rfl) rfl (State.wp_value (v := .slice (some ⟨g2, 0, none⟩) n1 c2) (w' := W) ?_ (hI.same hloc hL _ _ (Cell.grown_refl _) (Draws.upd_at _ _ _)))
        simp only [execOp]
        go_simp
      · obtain rfl := Option.some.inj ho
        have l5 := hd 5 (by simp [State.ShkGDep])
        have e5 := (hI.at_ 5 21 rfl l5).get
        rw [show val 5 = _ from hI.gd 5 l5] at e5
        refine Draws.wpOp_of (by rfl) rfl (State.wp_value (v := .int .i64 (n1 : Int)) (w' := W) ?_ (hI.same hloc hL _ _ (Cell.grown_refl _) (Draws.upd_at _ _ _)))
        simp only [execOp]
        go_simp
      · obtain rfl := Option.some.inj ho
        have l3 := hd 3 (by simp [State.ShkGDep])
        have e3 := (hI.at_ 3 19 rfl l3).get
        have l6 := hd 6 (by simp [State.ShkGDep])
        have e6 := (hI.at_ 6 22 rfl l6).get
        rw [show val 3 = _ from hI.gd 3 l3] at e3
        rw [show val 6 = _ from hI.gd 6 l6] at e6
        refine Draws.wpOp_of (by rfl) rfl (State.wp_value (v := .int .i64 (k : Int)) (w' := W) ?_ (hI.same hloc hL _ _ (Cell.grown_refl _) (Draws.upd_at _ _ _)))
        simp only [execOp]
        go_simp
        omega
      · obtain rfl := Option.some.inj ho
        have l0 := hd 0 (by simp [State.ShkGDep])
        have e0 := (hI.at_ 0 16 rfl l0).get
        have l7 := hd 7 (by simp [State.ShkGDep])
        have e7 := (hI.at_ 7 23 rfl l7).get
        rw [show val 0 = _ from hI.gd 0 l0] at e0
        rw [show val 7 = _ from hI.gd 7 l7] at e7
        refine Draws.wpOp_of (by rfl) rfl ?_
        unfold Oper.wp
        simp only [execOp]
        go_simp
        refine Calls.mono (P := Try.prog) (HP.out W (State.OwnS.room (hI.hd.nth 0 rfl))) ?_
        rintro e w1 ⟨b1, d1, b2, d2, b3, d3, b4, d4, rfl, ho, hg⟩
        exact hI.made hloc hL _ (.tuple #[.agg #[.int .i64 R, .slice b1 m d1, .slice b2 m d2, .slice b3 m d3, .slice b4 n2 d4], .bool b]) (State.stateG (.slice b1 m d1) (.slice b2 m d2) (.slice b3 m d3) (.slice b4 n2 d4) m m m n2 ys mr tr bs) (hI.hd.fill 3 (g' := State.stateG (.slice b1 m d1) (.slice b2 m d2) (.slice b3 m d3) (.slice b4 n2 d4) m m m n2 ys mr tr bs) (congrArg some (hI.no 8 hL)) hg (ho.from (Nat.zero_le _)) ho.blocks) ⟨b1, d1, b2, d2, b3, d3, b4, d4, Draws.upd_at _ _ _, Draws.upd_at _ _ _⟩
      · obtain rfl := Option.some.inj ho
        have l8 := hd 8 (by simp [State.ShkGDep])
        have e8 := (hI.at_ 8 24 rfl l8).get
        obtain ⟨b1, d1, b2, d2, b3, d3, b4, d4, v8, -⟩ := hI.gd 8 l8
        rw [v8] at e8
        refine Draws.wpOp_of (by rfl) rfl (State.wp_value (v := .tuple #[.agg #[.int .i64 R, .slice b1 m d1, .slice b2 m d2, .slice b3 m d3, .slice b4 n2 d4], .bool b]) (w' := W) ?_ (hI.same hloc hL _ _ (Cell.grown_refl _) ⟨b1, d1, b2, d2, b3, d3, b4, d4, Draws.upd_at _ _ _, v8⟩))
        simp only [execOp]
        go_simp
      · obtain rfl := Option.some.inj ho
        have l9 := hd 9 (by simp [State.ShkGDep])
        have e9 := (hI.at_ 9 15 rfl l9).get
        obtain ⟨b1, d1, b2, d2, b3, d3, b4, d4, v9, -⟩ := hI.gd 9 l9
        rw [v9] at e9
        refine Draws.wpOp_of (by rfl) rfl (State.wp_value (v := .agg #[.int .i64 R, .slice b1 m d1, .slice b2 m d2, .slice b3 m d3, .slice b4 n2 d4]) (w' := W) ?_ (hI.same hloc hL _ _ (Cell.grown_refl _) ⟨b1, d1, b2, d2, b3, d3, b4, d4, Draws.upd_at _ _ _, v9⟩))
        simp only [execOp]
        go_simp
      · obtain rfl := Option.some.inj ho
        have l9 := hd 9 (by simp [State.ShkGDep])
        have e9 := (hI.at_ 9 15 rfl l9).get
        obtain ⟨b1, d1, b2, d2, b3, d3, b4, d4, v9, -⟩ := hI.gd 9 l9
        rw [v9] at e9
        refine Draws.wpOp_of (by rfl) rfl (State.wp_value (v := .bool b) (w' := W) ?_ (hI.same hloc hL _ _ (Cell.grown_refl _) (Draws.upd_at _ _ _)))
        simp only [execOp]
        go_simp
      · obtain rfl := Option.some.inj ho
        refine Draws.wpOp_of (by rfl) rfl (State.wp_value (v := .pointer (some ⟨W.heap.size, 0, none⟩)) (w' := W.alloc (.cells #[.int .i64 0, .slice none 0 0, .slice none 0 0, .slice none 0 0, .slice none 0 0] 29)) ?_ ?_)
        · simp only [execOp]
          go_simp
        exact hI.made hloc hL _ _ (Law.boxG W.heap.size 29 #[.int .i64 0, .slice none 0 0, .slice none 0 0, .slice none 0 0, .slice none 0 0]) (hI.hd.fill 4 (g' := Law.boxG W.heap.size 29 #[.int .i64 0, .slice none 0 0, .slice none 0 0, .slice none 0 0, .slice none 0 0]) (congrArg some (hI.no 12 hL)) (World.grownBy_alloc W _ none) (World.alloc_heap_new W _) (fun b hb => by have : b = W.heap.size := (by simpa [Law.boxG] using hb); subst this; simp)) ⟨W.heap.size, _, _, _, _, _, Draws.upd_at _ _ _, Draws.upd_at _ _ _⟩
      · obtain rfl := Option.some.inj ho
        have l12 := hd 12 (by simp [State.ShkGDep])
        have e12 := (hI.at_ 12 5 rfl l12).get
        have l10 := hd 10 (by simp [State.ShkGDep])
        have e10 := (hI.at_ 10 25 rfl l10).get
        obtain ⟨B6, o0, o1, o2, o3, o4, v12, -⟩ := hI.gd 12 l12
        rw [v12] at e12
        obtain ⟨b1, d1, b2, d2, b3, d3, b4, d4, v10, -⟩ := hI.gd 10 l10
        rw [v10] at e10
        obtain ⟨B6', o0, o1, o2, o3, o4, v12', g12⟩ := hI.gd 12 l12
        rw [v12] at v12'
        cases v12'
        obtain ⟨y0, y1, y2, y3, y4⟩ := Law.box5 (hI.hd.nth 4 (congrArg some g12))
        obtain ⟨f0, f1, f2, f3, f4⟩ := Law.free5 (hI.hd.nth 4 (congrArg some g12))
        refine Draws.wpOp_of (by rfl) rfl (State.wp_skip (w' := ((((W.setCell ⟨B6, 0, none⟩ (.int .i64 R)).setCell ⟨B6, 1, none⟩ (.slice b1 m d1)).setCell ⟨B6, 2, none⟩ (.slice b2 m d2)).setCell ⟨B6, 3, none⟩ (.slice b3 m d3)).setCell ⟨B6, 4, none⟩ (.slice b4 n2 d4)) ?_ ?_)
        · simp only [execOp]
          go_simp
        exact hI.turned (c := 12) hloc hL _ undef (Law.boxG B6 29 #[.int .i64 R, .slice b1 m d1, .slice b2 m d2, .slice b3 m d3, .slice b4 n2 d4]) (hI.hd.put5 4 (congrArg some g12) (.int .i64 R) (.slice b1 m d1) (.slice b2 m d2) (.slice b3 m d3) (.slice b4 n2 d4)) l12 (by kernel_rfl) ⟨B6, _, _, _, _, _, v12, Draws.upd_at _ _ _⟩ ⟨B6, b1, d1, b2, d2, b3, d3, b4, d4, v12, v10, Draws.upd_at _ _ _⟩
      · obtain rfl := Option.some.inj ho
        have l11 := hd 11 (by simp [State.ShkGDep])
        have e11 := (hI.at_ 11 26 rfl l11).get
        rw [show val 11 = _ from hI.gd 11 l11] at e11
        refine Draws.wpOp_of (by rfl) rfl (State.wp_value (v := .bool b) (w' := W) ?_ (hI.same hloc hL _ _ (Cell.grown_refl _) (Draws.upd_at _ _ _)))
        simp only [execOp]
        go_simp
    case last =>
      intro L a W val G hI hall
      have al : ∀ i, i < 15 → L i = true := fun i hi => hall i (by simpa using hi)
      obtain ⟨b1, d1, b2, d2, b3, d3, b4, d4, v8, r8⟩ := hI.gd 8 (al 8 (by decide))
      obtain ⟨b1', d1', b2', d2', b3', d3', b4', d4', v9, u⟩ := hI.gd 9 (al 9 (by decide))
      rw [v8] at u
      cases u
      obtain ⟨b1', d1', b2', d2', b3', d3', b4', d4', v10, u⟩ := hI.gd 10 (al 10 (by decide))
      rw [v9] at u
      cases u
      obtain ⟨B6, b1', d1', b2', d2', b3', d3', b4', d4', v12, u, r12⟩ := hI.gd 13 (al 13 (by decide))
      rw [v10] at u
      cases u
      have v11 : val 11 = .bool b := hI.gd 11 (al 11 (by decide))
      have v14 : val 14 = .bool b := hI.gd 14 (al 14 (by decide))
      have hH : Law.Held w W [State.stateG (.slice (some ⟨g1, 0, none⟩) n1 c1) (.slice (some ⟨g2, 0, none⟩) n1 c2) (.slice (some ⟨g3, 0, none⟩) n1 c3) (.slice (some ⟨g4, 0, none⟩) n2 c4) n1 n1 n1 n2 xs ms ts bs, Law.boxG B3 29 #[.int .i64 R, .slice (some ⟨g1, 0, none⟩) n1 c1, .slice (some ⟨g2, 0, none⟩) n1 c2, .slice (some ⟨g3, 0, none⟩) n1 c3, .slice (some ⟨g4, 0, none⟩) n2 c4], State.placesG gp p0 p1 p2, G 8, G 12] := hI.hd
      rw [r8, r12] at hH
      have HE3 := Lib.hid hH
      have ha := hI.frame (by kernel_rfl) hall
      refine hK _ _ ?_
      clear hK hI hH r8 r12 hall al HP HE2
      simp [Draws.frameOf, Draws.slotOf, Act.put, List.range, List.range.loop] at ha
      subst ha
      rw [v12, v14]
      clear v8 v9 v10 v11 v12 v14
      obtain ⟨z0, z1, z2, z3, z4⟩ := Law.box5 (HE3.out.nth 1 rfl)
      go_upto_region 7 with (go_at_call 27; ((with_reducible refine (HGS.out _ (State.OwnS.reads (HE3.out.nth 0 rfl))).mono ?_); rintro e w4 ⟨rfl, hg⟩; have HE4 := Lib.hid (HE3.out.on hg); clear hg))
      clear z0 z1 z2 z3 z4 HE3 HGS
      obtain ⟨z0, z1, z2, z3, z4⟩ := Law.box5 (HE4.out.nth 1 rfl)
      go_upto_region 8 with (go_at_call 28; ((with_reducible refine (HLS.out _ (State.OwnS.reads (HE4.out.nth 0 rfl))).mono ?_); rintro e w5 ⟨rfl, hg⟩; have HE5 := Lib.hid (HE4.out.on hg); clear hg))
      clear z0 z1 z2 z3 z4 HE4 HLS
      obtain ⟨z0, z1, z2, z3, z4⟩ := Law.box5 (HE5.out.nth 1 rfl)
      go_wp2_with (first
        | (go_at_call 29; ((with_reducible refine (HGM.out _ (State.OwnS.reads (HE5.out.nth 0 rfl))).mono ?_); rintro e w6 ⟨rfl, hg⟩; have HE6 := Lib.hid (HE5.out.on hg); obtain ⟨y0, y1, y2, y3, y4⟩ := Law.box5 (HE6.out.nth 4 rfl); clear hg))
        | (go_at_call 27; ((with_reducible refine (HGX.out _ _ _ _ _ _ _ _ _ (State.OwnS.reads (HE6.out.nth 3 rfl))).mono ?_); rintro e w7 ⟨rfl, hg⟩; have HE7 := Lib.hid (HE6.out.on hg); obtain ⟨x0, x1, x2, x3, x4⟩ := Law.box5 (HE7.out.nth 4 rfl); clear hg))
        | (go_at_call 28; ((with_reducible refine (HLX.out _ _ _ _ _ _ _ _ _ (State.OwnS.reads (HE7.out.nth 3 rfl))).mono ?_); rintro e w8 ⟨rfl, hg⟩; have HE8 := Lib.hid (HE7.out.on hg); clear hg)))
      go_ret
      exact ⟨rfl, Cell.grown_below HE8.out.gr (Nat.le_refl _)⟩

set_option maxRecDepth 100000 in
theorem lifted (os : Os) (started : os.Started) (H : Type) (enc : TypeId × Value → H) :
    ReturnsInHanded {} Try.checked os 5 .any (Rows.fnSharesKeptSpec.pre6 enc Try.prog Try.f5 Rows.fnSharesKeptRow.domain false) (Rows.fnSharesKeptSpec.post enc Try.prog Try.f5 false true false false) := by
  refine returnsInHanded_of_change (C := Try.checked) own started (by kernel_rfl) Try.func5
    (ChangeSpec.witness6 (enc := enc) (C := Try.checked) false ⟨#[], #[.slice none 0 0], []⟩ 8 (by kernel_rfl) (by kernel_rfl) (by kernel_rfl) (by kernel_rfl)) ?_
  intro W base args ds gs before hval0 hW hcnd _
  have hval : ∀ (j : Nat) t v, Try.f5.params[j]? = some t → args[j]? = some v → Value.okWide Try.prog W .any base t v := hval0
  have hW' := hW
  obtain ⟨p, q, hA0, hV, rfl, hfz, hnd⟩ := hW
  have hA : DataW.TrodAll enc Try.prog W 0 (fun _ => true) true Try.f5.params.toList args.toList ds p := hA0
  rw [Try.params5] at hA hval
  obtain ⟨v0, vs0, d0, ds0, p0, q0, hargs, rfl, rfl, h0, r0⟩ := trodAll_cons hA
  obtain ⟨rfl, rfl, rfl⟩ := trodAll_nil r0
  obtain rfl : args = #[v0] := by cases args; simp_all
  obtain ⟨rfl, rfl⟩ := trodVars_none hV
  obtain ⟨a0, len0, cap0, rfl⟩ := okWide_slice Try.underlying22 (hval 0 22 v0 rfl rfl)
  have k0 := h0
  have lt0 : ∀ x ∈ p0, x.block < W.heap.size := by obtain ⟨m, hm⟩ := k0; exact DataW.trod_lt m _ _ _ hm
  obtain ⟨z0, w0⟩ : ∃ zs, IsRow .u8 W a0 len0 cap0 zs := by
    obtain ⟨fuel, hf⟩ := h0
    rcases open_ints Try.underlying22 Try.underlying5 (by kernel_rfl) hf with ⟨hcs, _⟩ | ⟨x, l, c, zs, hcs, _, hl, hm, hz, _, hcell, hwz⟩
    · simp [Value.cells] at hcs
      obtain ⟨rfl, rfl, rfl⟩ := hcs
      exact ⟨[], .inl ⟨rfl, rfl, rfl, rfl⟩⟩
    · simp [Value.cells] at hcs
      obtain ⟨rfl, rfl, rfl⟩ := hcs
      exact ⟨zs, .inr ⟨_, rfl, hl, hm, by simpa using hz, hcell, hwz⟩⟩
  clear hA0 hval0
  refine (walk a0 len0 cap0 z0 W w0).mono fun e W' ⟨he, bel⟩ => ?_
  subst he
  exact ⟨_, rfl, _, _, _, [], _, [], hW', trodAll_mk1 (shut_bool Try.underlying4 _), (trodAll_cons_mk (Below.trod laidOut (by kernel_rfl) (of_decide_eq_true (by kernel_rfl)) k0 bel lt0) trodAll_mk0), rfl, bel.frame _, fun h => by cases h⟩

theorem over : Rows.fnSharesKeptRow.holds Try.pinned (OpenSpec.ofChange Rows.fnSharesKeptSpec) :=
  OpenClaim.holds_of_wide 5 Try.f5 rfl rfl rfl rfl rfl rfl rfl ⟨rfl, rfl, rfl, rfl, rfl⟩ rfl rfl rfl rfl rfl (by kernel_rfl) Try.func5 (by kernel_rfl)
    (of_decide_eq_true (by kernel_rfl)) (by unfold Func.isWrapper; first | (rw [if_pos (by decide +kernel)]; kernel_rfl) | (rw [if_neg (by decide +kernel)]; exact ⟨rfl, rfl⟩))
    (fun os started H enc _ => lifted os started H enc)

theorem proved : Rows.FnSharesKeptSaid := over
#print axioms proved
end Go.Proofs.Ytfoilfgiablleaa.fnSharesKept
