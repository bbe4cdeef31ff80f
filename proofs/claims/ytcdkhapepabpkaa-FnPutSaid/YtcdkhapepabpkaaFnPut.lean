/- Proved: for every slice of bytes the law FnPut returns true: a drawn state takes a drawn mass and its tracer into a leaf, refuses a tracer that is too great, and its totals change by what is put.
   Conditions: none besides those that the given row prints. -/
import Derived.Test.YtcdkhapepabpkaaRows
import Derived.WalkKit
import Derived.ProofKit
import Derived.OpenShut
import Derived.ShutString
import Derived.Test.YtcdkhapepabpkaaStPutT
import Derived.ChangeOld
import Derived.Below
set_option maxRecDepth 100000
namespace Go.Proofs.Ytcdkhapepabpkaa.fnPut
open Go.ChangeShapes Go.WideShapes Go.ChangeAt Go.RowKit
open Go.ChangeMaps (open_string shut_string)
set_option linter.unusedVariables false

theorem own : ownKnob Try.prog.godebug = none := by kernel_rfl
theorem laidOut : laidOutB Try.prog = true := by kernel_rfl

def IsRow (k : IntKind) (w : World) (a : Option Addr) (len cap : Nat) (zs : List Int) : Prop :=
  (a = none ∧ len = 0 ∧ cap = 0 ∧ zs = []) ∨
  ∃ x, a = some x ∧ len ≤ cap ∧ cap ≤ maxLen ∧ zs.length = cap ∧ (∀ i, i < zs.length → w.cell? (x.add i) = some (.int k (zs.getD i 0))) ∧ ∀ n ∈ zs, (Lit.int k n).wf = true

set_option maxHeartbeats 32000000 in
theorem walk (a0 : Option Addr) (len0 cap0 : Nat) (z0 : List Int) (w : World) (w0 : IsRow .u8 w a0 len0 cap0 z0) :
    Calls Try.prog 4 #[.slice a0 len0 cap0] w fun e w' => e = .returned (.bool true) ∧ Below w.heap.size w w' := by
  have hb := Draw.bytes_of w0
  have HB := Lib.hid hb; clear hb
  clear w0
  by_cases hlen : 1048576 < len0
  · have hd : decide (1048576 < (len0 : Int)) = true := by simp; omega
    go_enter Try.func4, Try.ntmps4
    go_wp2_with fail
    refine Draw.big_any.mono ?_; rintro e w1 ⟨rfl, rfl⟩
    rw [hd]
    go_wp2_with fail
    go_ret
    exact ⟨rfl, Below.refl _ _⟩
  · have hd : decide (1048576 < (len0 : Int)) = false := by simp; omega
    have hlen' : len0 ≤ 1048576 := by omega
    have HLen := Lib.hid hlen'; clear hlen'
    go_enter Try.func4, Try.ntmps4
    go_wp2_with fail
    refine Draw.big_any.mono ?_; rintro e w1 ⟨rfl, rfl⟩
    rw [hd]
    clear hd hlen
    go_wp2_with fail
    refine (State.drawState_is HLen.out HB.out (Nat.le_refl _)).mono ?_
    rintro e w1 ⟨R, n1, n2, xs, ms, ts, bs, x1, c1, x2, c2, x3, c3, x4, c4, rfl, hd, ho, hg⟩
    obtain ⟨hn2, hn2', hR⟩ := hd.sizes
    have hn := hd.leaves
    obtain ⟨g1, c1', hv⟩ := Mesh.own_at1 ho.l (by omega)
    cases hv
    obtain ⟨g2, rfl, -, -⟩ := Ints.own_atI ho.m (by omega)
    obtain ⟨g3, rfl, -, -⟩ := Ints.own_atI ho.t (by omega)
    obtain ⟨g4, rfl, -, -⟩ := Ints.own_atI ho.b (by omega)
    have HE1 := Lib.hid ((State.Held.state (Law.Held.nil w) hg ho).box 31 #[.int .i64 R, .slice (some ⟨g1, 0, none⟩) n1 c1, .slice (some ⟨g2, 0, none⟩) n1 c2, .slice (some ⟨g3, 0, none⟩) n1 c3, .slice (some ⟨g4, 0, none⟩) n2 c4])
    have HD := Lib.hid hd
    have H1 := Lib.hid (show n1 ≤ 1048576 by omega); have H2 := Lib.hid (show n2 ≤ 1048576 by omega)
    have HN := Lib.hid hn
    have hn1 : 1 ≤ (n1 : Int) := by omega
    have hn1' : (n1 : Int) ≤ 128 := by omega
    have HBW := Lib.hid (HB.out.kept (fun b hb' => (hg.block b hb' (by simp))))
    have HSZ := Lib.hid hg.size
    clear ho hg hd hn hn2 hn2' hR HB
    go_upto_region 4 with fail
    obtain ⟨B3, hB3⟩ : ∃ B, B = w1.heap.size := ⟨_, rfl⟩
    rw [← hB3] at HE1 ⊢
    clear hB3
    have HBX := Lib.hid (HBW.out.kept (fun b hb' => (World.grownBy_alloc w1 (.cells #[.int .i64 R, .slice (some ⟨g1, 0, none⟩) n1 c1, .slice (some ⟨g2, 0, none⟩) n1 c2, .slice (some ⟨g3, 0, none⟩) n1 c3, .slice (some ⟨g4, 0, none⟩) n2 c4] 31) none).block b (by have := HSZ.out; omega) (by simp)))
    have HSX := Lib.hid (Nat.le_trans HSZ.out (World.grownBy_alloc w1 (.cells #[.int .i64 R, .slice (some ⟨g1, 0, none⟩) n1 c1, .slice (some ⟨g2, 0, none⟩) n1 c2, .slice (some ⟨g3, 0, none⟩) n1 c3, .slice (some ⟨g4, 0, none⟩) n2 c4] 31) none).size)
    clear HBW HSZ
    generalize w1.alloc (.cells #[.int .i64 R, .slice (some ⟨g1, 0, none⟩) n1 c1, .slice (some ⟨g2, 0, none⟩) n1 c2, .slice (some ⟨g3, 0, none⟩) n1 c3, .slice (some ⟨g4, 0, none⟩) n2 c4] 31) = W1 at *
    go_upto_region 5 with (go_at_call 16; ((with_reducible refine (State.places_new HLen.out HBX.out HSX.out).mono ?_); rintro e w2 ⟨gp, cp, p0, p1, p2, rfl, q0, q1, q2, hp, hlo, hg⟩; have HE2 := Lib.hid (HE1.out.add hg hp (fun b hb => by rw [List.mem_singleton.1 hb]; exact hlo)); clear hp hlo hg))
    clear HE1 HBX HSX HLen
    obtain ⟨z0, z1, z2, z3, z4⟩ := Law.box5 (HE2.out.nth 1 rfl)
    obtain ⟨c4', c5, c6⟩ := HE2.out.nth 2 rfl
    have hk0 : (p0 : Int).tmod (n1 : Int) = ((p0 % n1 : Int).toNat : Int) := by
      rw [Int.tmod_eq_emod_of_nonneg q0.1, Int.toNat_of_nonneg (Int.emod_nonneg _ (by omega))]
    have HK := Lib.hid (show (p0 % n1 : Int).toNat < n1 by have := Int.emod_lt_of_pos p0 (show (0 : Int) < n1 by omega); have := Int.emod_nonneg p0 (show (n1 : Int) ≠ 0 by omega); omega)
    have hki : (((p0 % n1 : Int).toNat : Nat) : Int) < n1 := by have := HK.out; omega
    generalize (p0 % n1 : Int).toNat = k at *
    have hn0 : ¬ (n1 : Int) = 0 := by omega
    go_quiet (fail)
    go_upto_region 6 with fail
    have hq0 : 0 ≤ p1 * p2 := Int.mul_nonneg q1.1 q2.1
    have hq1 : p1 * p2 ≤ 9999 * 9999 := Int.mul_le_mul q1.2 q2.2 q2.1 (by decide)
    have hwa : IntKind.i64.wrap (p1 * p2) = p1 * p2 := IntWalk.i64_in _ (by omega)
    obtain ⟨q, hq⟩ : ∃ q, q = p1 * p2 % 1000 := ⟨_, rfl⟩
    have hqr : (p1 * p2).tmod 1000 = q := by rw [Int.tmod_eq_emod_of_nonneg hq0, hq]
    have hqb : 0 ≤ q ∧ q ≤ 999 := by omega
    have hqm : q ≤ 1000 * p1 := by
      by_cases h0 : p1 = 0
      · subst h0; rw [Int.zero_mul] at hq; omega
      · omega
    have hwq : IntKind.i64.wrap q = q := IntWalk.i64_in _ (by omega)
    clear hq hk0 z0 z1 z2 z3 z4 c4' c5 c6 hn0
    have hp := State.putB_ok HD.out HK.out q1 (And.intro hqb.1 hqm)
    have hpb := State.putB_bad HD.out HK.out (p := p1)
    have HP := Lib.hid (show ∀ u, State.ReadsS u (some ⟨g1, 0, none⟩) (some ⟨g2, 0, none⟩) (some ⟨g3, 0, none⟩) (some ⟨g4, 0, none⟩) n1 n1 n1 n2 xs ms ts bs → Calls Try.prog 17 #[.agg #[.int .i64 R, .slice (some ⟨g1, 0, none⟩) n1 c1, .slice (some ⟨g2, 0, none⟩) n1 c2, .slice (some ⟨g3, 0, none⟩) n1 c3, .slice (some ⟨g4, 0, none⟩) n2 c4], .int .i64 (k : Int), .int .i64 p1, .int .i64 q] u (State.GivesSB true R n1 n1 n1 n2 xs (ms.set k p1) (ts.set k q) bs u) from fun u h => by
      have := State.putCell_is R g1 g2 g3 g4 n1 n1 n1 n2 c1 c2 c3 c4 xs ms ts bs k p1 q u h H1.out H1.out H1.out H2.out
      rw [hp.1, hp.2.1, hp.2.2] at this
      exact this)
    have HQ := Lib.hid (show ∀ u, State.ReadsS u (some ⟨g1, 0, none⟩) (some ⟨g2, 0, none⟩) (some ⟨g3, 0, none⟩) (some ⟨g4, 0, none⟩) n1 n1 n1 n2 xs ms ts bs → Calls Try.prog 17 #[.agg #[.int .i64 R, .slice (some ⟨g1, 0, none⟩) n1 c1, .slice (some ⟨g2, 0, none⟩) n1 c2, .slice (some ⟨g3, 0, none⟩) n1 c3, .slice (some ⟨g4, 0, none⟩) n2 c4], .int .i64 (k : Int), .int .i64 p1, .int .i64 (1000 * p1 + 1)] u (State.GivesSB false R n1 n1 n1 n2 xs ms ts bs u) from fun u h => by
      have := State.putCell_is R g1 g2 g3 g4 n1 n1 n1 n2 c1 c2 c3 c4 xs ms ts bs k p1 (1000 * p1 + 1) u h H1.out H1.out H1.out H2.out
      rw [hpb.1, hpb.2.1, hpb.2.2] at this
      exact this)
    obtain ⟨m, hm⟩ := Ints.getI HD.out.len.1 HK.out
    obtain ⟨t, ht⟩ := Ints.getI HD.out.len.2 HK.out
    have hX := State.put_ok HD.out HK.out q1 (And.intro hqb.1 hqm)
    obtain ⟨hMb, hTb⟩ := HD.out.sums
    have hmb := State.mass_bounds (State.stOk_parts HD.out.ok).2.2.1 (HD.out.len.2.trans HD.out.len.1.symm) (List.mem_of_getElem? hm)
    have htb := State.tracer_bounds (State.stOk_parts HD.out.ok).2.2.1 (HD.out.len.2.trans HD.out.len.1.symm) (List.mem_of_getElem? ht)
    have hSM := State.sum_set (y := p1) hm
    have hST := State.sum_set (y := q) ht
    obtain ⟨M, hM⟩ : ∃ M, M = ms.sum := ⟨_, rfl⟩
    obtain ⟨T, hT⟩ : ∃ T, T = ts.sum := ⟨_, rfl⟩
    rw [← hM] at hSM hMb
    rw [← hT] at hST hTb
    have HMS := Lib.hid (show ∀ u, State.ReadsS u (some ⟨g1, 0, none⟩) (some ⟨g2, 0, none⟩) (some ⟨g3, 0, none⟩) (some ⟨g4, 0, none⟩) n1 n1 n1 n2 xs ms ts bs → Calls Try.prog 18 #[.agg #[.int .i64 R, .slice (some ⟨g1, 0, none⟩) n1 c1, .slice (some ⟨g2, 0, none⟩) n1 c2, .slice (some ⟨g3, 0, none⟩) n1 c3, .slice (some ⟨g4, 0, none⟩) n2 c4]] u fun e w' => e = .returned (.int .i64 M) ∧ u.grownBy w' none from fun u h => by
      have q := State.totalMass_is R _ _ _ _ n1 n1 n1 n2 c1 c2 c3 c4 xs ms ts bs u h H1.out H1.out H1.out H2.out
      rw [if_pos HD.out.ok, ← hM] at q
      exact q)
    have HTS := Lib.hid (show ∀ u, State.ReadsS u (some ⟨g1, 0, none⟩) (some ⟨g2, 0, none⟩) (some ⟨g3, 0, none⟩) (some ⟨g4, 0, none⟩) n1 n1 n1 n2 xs ms ts bs → Calls Try.prog 14 #[.agg #[.int .i64 R, .slice (some ⟨g1, 0, none⟩) n1 c1, .slice (some ⟨g2, 0, none⟩) n1 c2, .slice (some ⟨g3, 0, none⟩) n1 c3, .slice (some ⟨g4, 0, none⟩) n2 c4]] u fun e w' => e = .returned (.int .i64 T) ∧ u.grownBy w' none from fun u h => by
      have q := State.totalTracer_is R _ _ _ _ n1 n1 n1 n2 c1 c2 c3 c4 xs ms ts bs u h H1.out H1.out H1.out H2.out
      rw [if_pos HD.out.ok, ← hT] at q
      exact q)
    have HMY := Lib.hid (show ∀ u (b1 b2 b3 b4 : Option Addr) (d1 d2 d3 d4 : Nat), State.ReadsS u b1 b2 b3 b4 n1 n1 n1 n2 xs (ms.set k p1) (ts.set k q) bs → Calls Try.prog 18 #[.agg #[.int .i64 R, .slice b1 n1 d1, .slice b2 n1 d2, .slice b3 n1 d3, .slice b4 n2 d4]] u fun e w' => e = .returned (.int .i64 (M - m + p1)) ∧ u.grownBy w' none from fun u b1 b2 b3 b4 d1 d2 d3 d4 h => by
      have q := State.totalMass_is R _ _ _ _ n1 n1 n1 n2 d1 d2 d3 d4 xs (ms.set k p1) (ts.set k q) bs u h H1.out H1.out H1.out H2.out
      rw [if_pos hX, hSM] at q
      exact q)
    have HTY := Lib.hid (show ∀ u (b1 b2 b3 b4 : Option Addr) (d1 d2 d3 d4 : Nat), State.ReadsS u b1 b2 b3 b4 n1 n1 n1 n2 xs (ms.set k p1) (ts.set k q) bs → Calls Try.prog 14 #[.agg #[.int .i64 R, .slice b1 n1 d1, .slice b2 n1 d2, .slice b3 n1 d3, .slice b4 n2 d4]] u fun e w' => e = .returned (.int .i64 (T - t + q)) ∧ u.grownBy w' none from fun u b1 b2 b3 b4 d1 d2 d3 d4 h => by
      have q := State.totalTracer_is R _ _ _ _ n1 n1 n1 n2 d1 d2 d3 d4 xs (ms.set k p1) (ts.set k q) bs u h H1.out H1.out H1.out H2.out
      rw [if_pos hX, hST] at q
      exact q)
    have hw0 : IntKind.i64.wrap (1000 * p1) = 1000 * p1 := IntWalk.i64_in _ (by omega)
    have hw1 : IntKind.i64.wrap (1000 * p1 + 1) = 1000 * p1 + 1 := IntWalk.i64_in _ (by omega)
    have hw2 : IntKind.i64.wrap (M - m) = M - m := IntWalk.i64_in _ (by omega)
    have hw3 : IntKind.i64.wrap (M - m + p1) = M - m + p1 := IntWalk.i64_in _ (by omega)
    have hw4 : IntKind.i64.wrap (T - t) = T - t := IntWalk.i64_in _ (by omega)
    have hw5 : IntKind.i64.wrap (T - t + q) = T - t + q := IntWalk.i64_in _ (by omega)
    have HM := Lib.hid (And.intro hm ht)
    clear hp hpb hm ht hX hMb hTb hmb htb hSM hST hM hT HD HN H1 H2 hq0 hq1 hqb hqm q0 q1 q2 hn1 hn1'
    rename_i K hK
    refine Draws.wp_region_tabG (w := w) rfl (by kernel_rfl) (by kernel_rfl) State.PutGDep (by kernel_rfl) [State.stateG (.slice (some ⟨g1, 0, none⟩) n1 c1) (.slice (some ⟨g2, 0, none⟩) n1 c2) (.slice (some ⟨g3, 0, none⟩) n1 c3) (.slice (some ⟨g4, 0, none⟩) n2 c4) n1 n1 n1 n2 xs ms ts bs, Law.boxG B3 31 #[.int .i64 R, .slice (some ⟨g1, 0, none⟩) n1 c1, .slice (some ⟨g2, 0, none⟩) n1 c2, .slice (some ⟨g3, 0, none⟩) n1 c3, .slice (some ⟨g4, 0, none⟩) n2 c4], State.placesG gp p0 p1 p2] [13, 17] (fun _ => Law.emptyG) (State.PutG R g1 g2 g3 g4 n1 n2 c1 c2 c3 c4 k gp cp B3 p1 p2 q xs ms ts bs) ?start ?step ?last
    case start => exact ((HE2.out.on (Mesh.gr_drew (Cell.g_drewN (Cell.grown_refl _) _))).addE).addE
    case step =>
      clear hK
      intro L a W val G i o hI ho hL hd
      have hi : i < 20 := by have := (Array.getElem?_eq_some_iff.1 ho).1; simpa using this
      have hloc := State.PutG_local R g1 g2 g3 g4 n1 n2 c1 c2 c3 c4 k gp cp B3 p1 p2 q xs ms ts bs
      obtain ⟨z0, z1, z2, z3, z4⟩ := Law.box5 (hI.hd.nth 1 rfl)
      obtain ⟨-, c5, c6⟩ := hI.hd.nth 2 rfl
      rcases (show i = 0 ∨ i = 1 ∨ i = 2 ∨ i = 3 ∨ i = 4 ∨ i = 5 ∨ i = 6 ∨ i = 7 ∨ i = 8 ∨ i = 9 ∨ i = 10 ∨ i = 11 ∨ i = 12 ∨ i = 13 ∨ i = 14 ∨ i = 15 ∨ i = 16 ∨ i = 17 ∨ i = 18 ∨ i = 19 by omega) with rfl | rfl | rfl | rfl | rfl | rfl | rfl | rfl | rfl | rfl | rfl | rfl | rfl | rfl | rfl | rfl | rfl | rfl | rfl | rfl
      · obtain rfl := Option.some.inj ho
        have p3 := (hI.old 3 (by kernel_rfl) rfl).get
        refine Draws.wpOp_of (by rfl) rfl (State.wp_value (v := .agg #[.int .i64 R, .slice (some ⟨g1, 0, none⟩) n1 c1, .slice (some ⟨g2, 0, none⟩) n1 c2, .slice (some ⟨g3, 0, none⟩) n1 c3, .slice (some ⟨g4, 0, none⟩) n2 c4]) (w' := W) ?_ (hI.same hloc hL _ _ (Cell.grown_refl _) (Draws.upd_at _ _ _)))
        simp only [execOp]
        go_simp
      · obtain rfl := Option.some.inj ho
        have p5 := (hI.old 5 (by kernel_rfl) rfl).get
        refine Draws.wpOp_of (by rfl) rfl (State.wp_value (v := .int .i64 (k : Int)) (w' := W) ?_ (hI.same hloc hL _ _ (Cell.grown_refl _) (Draws.upd_at _ _ _)))
        simp only [execOp]
        go_simp
      · obtain rfl := Option.some.inj ho
        have p4 := (hI.old 4 (by kernel_rfl) rfl).get
        refine Draws.wpOp_of (by rfl) rfl (State.wp_value (v := .slice (some ⟨gp, 0, none⟩) 12 cp) (w' := W) ?_ (hI.same hloc hL _ _ (Cell.grown_refl _) (Draws.upd_at _ _ _)))
        simp only [execOp]
        go_simp
      · obtain rfl := Option.some.inj ho
        have l2 := hd 2 (by simp [State.PutGDep])
        have e2 := (hI.at_ 2 26 rfl l2).get
        rw [show val 2 = _ from hI.gd 2 l2] at e2
        refine Draws.wpOp_of (by rfl) rfl (State.wp_value (v := .pointer (some ⟨gp, 1, none⟩)) (w' := W) ?_ (hI.same hloc hL _ _ (Cell.grown_refl _) (Draws.upd_at _ _ _)))
        simp only [execOp]
        go_simp
      · obtain rfl := Option.some.inj ho
        have l3 := hd 3 (by simp [State.PutGDep])
        have e3 := (hI.at_ 3 27 rfl l3).get
        rw [show val 3 = _ from hI.gd 3 l3] at e3
        refine Draws.wpOp_of (by rfl) rfl (State.wp_value (v := .int .i64 p1) (w' := W) ?_ (hI.same hloc hL _ _ (Cell.grown_refl _) (Draws.upd_at _ _ _)))
        simp only [execOp]
        go_simp
      · obtain rfl := Option.some.inj ho
        have p4 := (hI.old 4 (by kernel_rfl) rfl).get
        refine Draws.wpOp_of (by rfl) rfl (State.wp_value (v := .slice (some ⟨gp, 0, none⟩) 12 cp) (w' := W) ?_ (hI.same hloc hL _ _ (Cell.grown_refl _) (Draws.upd_at _ _ _)))
        simp only [execOp]
        go_simp
      · obtain rfl := Option.some.inj ho
        have l5 := hd 5 (by simp [State.PutGDep])
        have e5 := (hI.at_ 5 29 rfl l5).get
        rw [show val 5 = _ from hI.gd 5 l5] at e5
        refine Draws.wpOp_of (by rfl) rfl (State.wp_value (v := .pointer (some ⟨gp, 1, none⟩)) (w' := W) ?_ (hI.same hloc hL _ _ (Cell.grown_refl _) (Draws.upd_at _ _ _)))
        simp only [execOp]
        go_simp
      · obtain rfl := Option.some.inj ho
        have l6 := hd 6 (by simp [State.PutGDep])
        have e6 := (hI.at_ 6 30 rfl l6).get
        rw [show val 6 = _ from hI.gd 6 l6] at e6
        refine Draws.wpOp_of (by rfl) rfl (State.wp_value (v := .int .i64 p1) (w' := W) ?_ (hI.same hloc hL _ _ (Cell.grown_refl _) (Draws.upd_at _ _ _)))
        simp only [execOp]
        go_simp
      · obtain rfl := Option.some.inj ho
        have p4 := (hI.old 4 (by kernel_rfl) rfl).get
        refine Draws.wpOp_of (by rfl) rfl (State.wp_value (v := .slice (some ⟨gp, 0, none⟩) 12 cp) (w' := W) ?_ (hI.same hloc hL _ _ (Cell.grown_refl _) (Draws.upd_at _ _ _)))
        simp only [execOp]
        go_simp
      · obtain rfl := Option.some.inj ho
        have l8 := hd 8 (by simp [State.PutGDep])
        have e8 := (hI.at_ 8 32 rfl l8).get
        rw [show val 8 = _ from hI.gd 8 l8] at e8
        refine Draws.wpOp_of (by rfl) rfl (State.wp_value (v := .pointer (some ⟨gp, 2, none⟩)) (w' := W) ?_ (hI.same hloc hL _ _ (Cell.grown_refl _) (Draws.upd_at _ _ _)))
        simp only [execOp]
        go_simp
      · obtain rfl := Option.some.inj ho
        have l9 := hd 9 (by simp [State.PutGDep])
        have e9 := (hI.at_ 9 33 rfl l9).get
        rw [show val 9 = _ from hI.gd 9 l9] at e9
        refine Draws.wpOp_of (by rfl) rfl (State.wp_value (v := .int .i64 p2) (w' := W) ?_ (hI.same hloc hL _ _ (Cell.grown_refl _) (Draws.upd_at _ _ _)))
        simp only [execOp]
        go_simp
      · obtain rfl := Option.some.inj ho
        have l7 := hd 7 (by simp [State.PutGDep])
        have e7 := (hI.at_ 7 31 rfl l7).get
        have l10 := hd 10 (by simp [State.PutGDep])
        have e10 := (hI.at_ 10 34 rfl l10).get
        rw [show val 7 = _ from hI.gd 7 l7] at e7
        rw [show val 10 = _ from hI.gd 10 l10] at e10
        refine Draws.wpOp_of (by rfl) rfl (State.wp_value (v := .int .i64 (p1 * p2)) (w' := W) ?_ (hI.same hloc hL _ _ (Cell.grown_refl _) (Draws.upd_at _ _ _)))
        simp only [execOp]
        go_simp
      · obtain rfl := Option.some.inj ho
        have l11 := hd 11 (by simp [State.PutGDep])
        have e11 := (hI.at_ 11 35 rfl l11).get
        rw [show val 11 = _ from hI.gd 11 l11] at e11
        refine Draws.wpOp_of (by rfl) rfl (State.wp_value (v := .int .i64 q) (w' := W) ?_ (hI.same hloc hL _ _ (Cell.grown_refl _) (Draws.upd_at _ _ _)))
        simp only [execOp]
        go_simp
      · obtain rfl := Option.some.inj ho
        have l0 := hd 0 (by simp [State.PutGDep])
        have e0 := (hI.at_ 0 24 rfl l0).get
        have l1 := hd 1 (by simp [State.PutGDep])
        have e1 := (hI.at_ 1 25 rfl l1).get
        have l4 := hd 4 (by simp [State.PutGDep])
        have e4 := (hI.at_ 4 28 rfl l4).get
        have l12 := hd 12 (by simp [State.PutGDep])
        have e12 := (hI.at_ 12 36 rfl l12).get
        rw [show val 0 = _ from hI.gd 0 l0] at e0
        rw [show val 1 = _ from hI.gd 1 l1] at e1
        rw [show val 4 = _ from hI.gd 4 l4] at e4
        rw [show val 12 = _ from hI.gd 12 l12] at e12
        refine Draws.wpOp_of (by rfl) rfl ?_
        unfold Oper.wp
        simp only [execOp]
        go_simp
        refine Calls.mono (P := Try.prog) (HP.out W (State.OwnS.reads (hI.hd.nth 0 rfl))) ?_
        rintro e w1 ⟨b1, d1, b2, d2, b3, d3, b4, d4, rfl, ho, hg⟩
        exact hI.made hloc hL _ (.tuple #[.agg #[.int .i64 R, .slice b1 n1 d1, .slice b2 n1 d2, .slice b3 n1 d3, .slice b4 n2 d4], .bool true]) (State.stateG (.slice b1 n1 d1) (.slice b2 n1 d2) (.slice b3 n1 d3) (.slice b4 n2 d4) n1 n1 n1 n2 xs (ms.set k p1) (ts.set k q) bs) (hI.hd.fill 3 (g' := State.stateG (.slice b1 n1 d1) (.slice b2 n1 d2) (.slice b3 n1 d3) (.slice b4 n2 d4) n1 n1 n1 n2 xs (ms.set k p1) (ts.set k q) bs) (congrArg some (hI.no 13 hL)) hg (ho.from (Nat.zero_le _)) ho.blocks) ⟨b1, d1, b2, d2, b3, d3, b4, d4, Draws.upd_at _ _ _, Draws.upd_at _ _ _⟩
      · obtain rfl := Option.some.inj ho
        have l13 := hd 13 (by simp [State.PutGDep])
        have e13 := (hI.at_ 13 37 rfl l13).get
        obtain ⟨b1, d1, b2, d2, b3, d3, b4, d4, v13, -⟩ := hI.gd 13 l13
        rw [v13] at e13
        refine Draws.wpOp_of (by rfl) rfl (State.wp_value (v := .tuple #[.agg #[.int .i64 R, .slice b1 n1 d1, .slice b2 n1 d2, .slice b3 n1 d3, .slice b4 n2 d4], .bool true]) (w' := W) ?_ (hI.same hloc hL _ _ (Cell.grown_refl _) ⟨b1, d1, b2, d2, b3, d3, b4, d4, Draws.upd_at _ _ _, v13⟩))
        simp only [execOp]
        go_simp
      · obtain rfl := Option.some.inj ho
        have l14 := hd 14 (by simp [State.PutGDep])
        have e14 := (hI.at_ 14 23 rfl l14).get
        obtain ⟨b1, d1, b2, d2, b3, d3, b4, d4, v14, -⟩ := hI.gd 14 l14
        rw [v14] at e14
        refine Draws.wpOp_of (by rfl) rfl (State.wp_value (v := .agg #[.int .i64 R, .slice b1 n1 d1, .slice b2 n1 d2, .slice b3 n1 d3, .slice b4 n2 d4]) (w' := W) ?_ (hI.same hloc hL _ _ (Cell.grown_refl _) ⟨b1, d1, b2, d2, b3, d3, b4, d4, Draws.upd_at _ _ _, v14⟩))
        simp only [execOp]
        go_simp
      · obtain rfl := Option.some.inj ho
        have l14 := hd 14 (by simp [State.PutGDep])
        have e14 := (hI.at_ 14 23 rfl l14).get
        obtain ⟨b1, d1, b2, d2, b3, d3, b4, d4, v14, -⟩ := hI.gd 14 l14
        rw [v14] at e14
        refine Draws.wpOp_of (by rfl) rfl (State.wp_value (v := .bool true) (w' := W) ?_ (hI.same hloc hL _ _ (Cell.grown_refl _) (Draws.upd_at _ _ _)))
        simp only [execOp]
        go_simp
      · obtain rfl := Option.some.inj ho
        refine Draws.wpOp_of (by rfl) rfl (State.wp_value (v := .pointer (some ⟨W.heap.size, 0, none⟩)) (w' := W.alloc (.cells #[.int .i64 0, .slice none 0 0, .slice none 0 0, .slice none 0 0, .slice none 0 0] 31)) ?_ ?_)
        · simp only [execOp]
          go_simp
        exact hI.made hloc hL _ _ (Law.boxG W.heap.size 31 #[.int .i64 0, .slice none 0 0, .slice none 0 0, .slice none 0 0, .slice none 0 0]) (hI.hd.fill 4 (g' := Law.boxG W.heap.size 31 #[.int .i64 0, .slice none 0 0, .slice none 0 0, .slice none 0 0, .slice none 0 0]) (congrArg some (hI.no 17 hL)) (World.grownBy_alloc W _ none) (World.alloc_heap_new W _) (fun b hb => by have : b = W.heap.size := (by simpa [Law.boxG] using hb); subst this; simp)) ⟨W.heap.size, _, _, _, _, _, Draws.upd_at _ _ _, Draws.upd_at _ _ _⟩
      · obtain rfl := Option.some.inj ho
        have l17 := hd 17 (by simp [State.PutGDep])
        have e17 := (hI.at_ 17 6 rfl l17).get
        have l15 := hd 15 (by simp [State.PutGDep])
        have e15 := (hI.at_ 15 38 rfl l15).get
        obtain ⟨B6, o0, o1, o2, o3, o4, v17, -⟩ := hI.gd 17 l17
        rw [v17] at e17
        obtain ⟨b1, d1, b2, d2, b3, d3, b4, d4, v15, -⟩ := hI.gd 15 l15
        rw [v15] at e15
        obtain ⟨B6', o0, o1, o2, o3, o4, v17', g17⟩ := hI.gd 17 l17
        rw [v17] at v17'
        cases v17'
        obtain ⟨y0, y1, y2, y3, y4⟩ := Law.box5 (hI.hd.nth 4 (congrArg some g17))
        obtain ⟨f0, f1, f2, f3, f4⟩ := Law.free5 (hI.hd.nth 4 (congrArg some g17))
        refine Draws.wpOp_of (by rfl) rfl (State.wp_skip (w' := ((((W.setCell ⟨B6, 0, none⟩ (.int .i64 R)).setCell ⟨B6, 1, none⟩ (.slice b1 n1 d1)).setCell ⟨B6, 2, none⟩ (.slice b2 n1 d2)).setCell ⟨B6, 3, none⟩ (.slice b3 n1 d3)).setCell ⟨B6, 4, none⟩ (.slice b4 n2 d4)) ?_ ?_)
        · simp only [execOp]
          go_simp
        exact hI.turned (c := 17) hloc hL _ undef (Law.boxG B6 31 #[.int .i64 R, .slice b1 n1 d1, .slice b2 n1 d2, .slice b3 n1 d3, .slice b4 n2 d4]) (hI.hd.put5 4 (congrArg some g17) (.int .i64 R) (.slice b1 n1 d1) (.slice b2 n1 d2) (.slice b3 n1 d3) (.slice b4 n2 d4)) l17 (by kernel_rfl) ⟨B6, _, _, _, _, _, v17, Draws.upd_at _ _ _⟩ ⟨B6, b1, d1, b2, d2, b3, d3, b4, d4, v17, v15, Draws.upd_at _ _ _⟩
      · obtain rfl := Option.some.inj ho
        have l16 := hd 16 (by simp [State.PutGDep])
        have e16 := (hI.at_ 16 39 rfl l16).get
        rw [show val 16 = _ from hI.gd 16 l16] at e16
        refine Draws.wpOp_of (by rfl) rfl (State.wp_value (v := .bool true) (w' := W) ?_ (hI.same hloc hL _ _ (Cell.grown_refl _) (Draws.upd_at _ _ _)))
        simp only [execOp]
        go_simp
    case last =>
      intro L a W val G hI hall
      have al : ∀ i, i < 20 → L i = true := fun i hi => hall i (by simpa using hi)
      obtain ⟨b1, d1, b2, d2, b3, d3, b4, d4, v13, r13⟩ := hI.gd 13 (al 13 (by decide))
      obtain ⟨b1', d1', b2', d2', b3', d3', b4', d4', v14, u⟩ := hI.gd 14 (al 14 (by decide))
      rw [v13] at u
      cases u
      obtain ⟨b1', d1', b2', d2', b3', d3', b4', d4', v15, u⟩ := hI.gd 15 (al 15 (by decide))
      rw [v14] at u
      cases u
      obtain ⟨B6, b1', d1', b2', d2', b3', d3', b4', d4', v17, u, r17⟩ := hI.gd 18 (al 18 (by decide))
      rw [v15] at u
      cases u
      have v19 : val 19 = .bool true := hI.gd 19 (al 19 (by decide))
      have hH : Law.Held w W [State.stateG (.slice (some ⟨g1, 0, none⟩) n1 c1) (.slice (some ⟨g2, 0, none⟩) n1 c2) (.slice (some ⟨g3, 0, none⟩) n1 c3) (.slice (some ⟨g4, 0, none⟩) n2 c4) n1 n1 n1 n2 xs ms ts bs, Law.boxG B3 31 #[.int .i64 R, .slice (some ⟨g1, 0, none⟩) n1 c1, .slice (some ⟨g2, 0, none⟩) n1 c2, .slice (some ⟨g3, 0, none⟩) n1 c3, .slice (some ⟨g4, 0, none⟩) n2 c4], State.placesG gp p0 p1 p2, G 13, G 17] := hI.hd
      rw [r13, r17] at hH
      have HE3 := Lib.hid hH
      have ha := hI.frame (by kernel_rfl) hall
      refine hK _ _ ?_
      clear hK hI hH r13 r17 hall al HP HE2
      simp [Draws.frameOf, Draws.slotOf, Act.put, List.range, List.range.loop] at ha
      subst ha
      rw [v17, v19]
      clear v13 v14 v15 v17 v19
      go_upto_region 7 with fail
      rename_i K hK
      refine Draws.wp_region_tabG (w := w) rfl (by kernel_rfl) (by kernel_rfl) State.BadGDep (by kernel_rfl) [State.stateG (.slice (some ⟨g1, 0, none⟩) n1 c1) (.slice (some ⟨g2, 0, none⟩) n1 c2) (.slice (some ⟨g3, 0, none⟩) n1 c3) (.slice (some ⟨g4, 0, none⟩) n2 c4) n1 n1 n1 n2 xs ms ts bs, Law.boxG B3 31 #[.int .i64 R, .slice (some ⟨g1, 0, none⟩) n1 c1, .slice (some ⟨g2, 0, none⟩) n1 c2, .slice (some ⟨g3, 0, none⟩) n1 c3, .slice (some ⟨g4, 0, none⟩) n2 c4], State.placesG gp p0 p1 p2, State.stateG (.slice b1 n1 d1) (.slice b2 n1 d2) (.slice b3 n1 d3) (.slice b4 n2 d4) n1 n1 n1 n2 xs (ms.set k p1) (ts.set k q) bs, Law.boxG B6 31 #[.int .i64 R, .slice b1 n1 d1, .slice b2 n1 d2, .slice b3 n1 d3, .slice b4 n2 d4]] [10, 14] (fun _ => Law.emptyG) (State.BadG R g1 g2 g3 g4 n1 n2 c1 c2 c3 c4 k gp cp B3 p1 p2 q xs ms ts bs) ?start ?step ?last
      case start => exact ((HE3.out.on (Mesh.gr_drew (Cell.grown_refl _))).addE).addE
      case step =>
        clear hK
        intro L a W val G i o hI ho hL hd
        have hi : i < 17 := by have := (Array.getElem?_eq_some_iff.1 ho).1; simpa using this
        have hloc := State.BadG_local R g1 g2 g3 g4 n1 n2 c1 c2 c3 c4 k gp cp B3 p1 p2 q xs ms ts bs
        obtain ⟨z0, z1, z2, z3, z4⟩ := Law.box5 (hI.hd.nth 1 rfl)
        obtain ⟨-, c5, c6⟩ := hI.hd.nth 2 rfl
        rcases (show i = 0 ∨ i = 1 ∨ i = 2 ∨ i = 3 ∨ i = 4 ∨ i = 5 ∨ i = 6 ∨ i = 7 ∨ i = 8 ∨ i = 9 ∨ i = 10 ∨ i = 11 ∨ i = 12 ∨ i = 13 ∨ i = 14 ∨ i = 15 ∨ i = 16 by omega) with rfl | rfl | rfl | rfl | rfl | rfl | rfl | rfl | rfl | rfl | rfl | rfl | rfl | rfl | rfl | rfl | rfl
        · obtain rfl := Option.some.inj ho
          have p3 := (hI.old 3 (by kernel_rfl) rfl).get
          refine Draws.wpOp_of (by rfl) rfl (State.wp_value (v := .agg #[.int .i64 R, .slice (some ⟨g1, 0, none⟩) n1 c1, .slice (some ⟨g2, 0, none⟩) n1 c2, .slice (some ⟨g3, 0, none⟩) n1 c3, .slice (some ⟨g4, 0, none⟩) n2 c4]) (w' := W) ?_ (hI.same hloc hL _ _ (Cell.grown_refl _) (Draws.upd_at _ _ _)))
          simp only [execOp]
          go_simp
        · obtain rfl := Option.some.inj ho
          have p5 := (hI.old 5 (by kernel_rfl) rfl).get
          refine Draws.wpOp_of (by rfl) rfl (State.wp_value (v := .int .i64 (k : Int)) (w' := W) ?_ (hI.same hloc hL _ _ (Cell.grown_refl _) (Draws.upd_at _ _ _)))
          simp only [execOp]
          go_simp
        · obtain rfl := Option.some.inj ho
          have p4 := (hI.old 4 (by kernel_rfl) rfl).get
          refine Draws.wpOp_of (by rfl) rfl (State.wp_value (v := .slice (some ⟨gp, 0, none⟩) 12 cp) (w' := W) ?_ (hI.same hloc hL _ _ (Cell.grown_refl _) (Draws.upd_at _ _ _)))
          simp only [execOp]
          go_simp
        · obtain rfl := Option.some.inj ho
          have l2 := hd 2 (by simp [State.BadGDep])
          have e2 := (hI.at_ 2 43 rfl l2).get
          rw [show val 2 = _ from hI.gd 2 l2] at e2
          refine Draws.wpOp_of (by rfl) rfl (State.wp_value (v := .pointer (some ⟨gp, 1, none⟩)) (w' := W) ?_ (hI.same hloc hL _ _ (Cell.grown_refl _) (Draws.upd_at _ _ _)))
          simp only [execOp]
          go_simp
        · obtain rfl := Option.some.inj ho
          have l3 := hd 3 (by simp [State.BadGDep])
          have e3 := (hI.at_ 3 44 rfl l3).get
          rw [show val 3 = _ from hI.gd 3 l3] at e3
          refine Draws.wpOp_of (by rfl) rfl (State.wp_value (v := .int .i64 p1) (w' := W) ?_ (hI.same hloc hL _ _ (Cell.grown_refl _) (Draws.upd_at _ _ _)))
          simp only [execOp]
          go_simp
        · obtain rfl := Option.some.inj ho
          have p4 := (hI.old 4 (by kernel_rfl) rfl).get
          refine Draws.wpOp_of (by rfl) rfl (State.wp_value (v := .slice (some ⟨gp, 0, none⟩) 12 cp) (w' := W) ?_ (hI.same hloc hL _ _ (Cell.grown_refl _) (Draws.upd_at _ _ _)))
          simp only [execOp]
          go_simp
        · obtain rfl := Option.some.inj ho
          have l5 := hd 5 (by simp [State.BadGDep])
          have e5 := (hI.at_ 5 46 rfl l5).get
          rw [show val 5 = _ from hI.gd 5 l5] at e5
          refine Draws.wpOp_of (by rfl) rfl (State.wp_value (v := .pointer (some ⟨gp, 1, none⟩)) (w' := W) ?_ (hI.same hloc hL _ _ (Cell.grown_refl _) (Draws.upd_at _ _ _)))
          simp only [execOp]
          go_simp
        · obtain rfl := Option.some.inj ho
          have l6 := hd 6 (by simp [State.BadGDep])
          have e6 := (hI.at_ 6 47 rfl l6).get
          rw [show val 6 = _ from hI.gd 6 l6] at e6
          refine Draws.wpOp_of (by rfl) rfl (State.wp_value (v := .int .i64 p1) (w' := W) ?_ (hI.same hloc hL _ _ (Cell.grown_refl _) (Draws.upd_at _ _ _)))
          simp only [execOp]
          go_simp
        · obtain rfl := Option.some.inj ho
          have l7 := hd 7 (by simp [State.BadGDep])
          have e7 := (hI.at_ 7 48 rfl l7).get
          rw [show val 7 = _ from hI.gd 7 l7] at e7
          refine Draws.wpOp_of (by rfl) rfl (State.wp_value (v := .int .i64 (1000 * p1)) (w' := W) ?_ (hI.same hloc hL _ _ (Cell.grown_refl _) (Draws.upd_at _ _ _)))
          simp only [execOp]
          go_simp
        · obtain rfl := Option.some.inj ho
          have l8 := hd 8 (by simp [State.BadGDep])
          have e8 := (hI.at_ 8 49 rfl l8).get
          rw [show val 8 = _ from hI.gd 8 l8] at e8
          refine Draws.wpOp_of (by rfl) rfl (State.wp_value (v := .int .i64 (1000 * p1 + 1)) (w' := W) ?_ (hI.same hloc hL _ _ (Cell.grown_refl _) (Draws.upd_at _ _ _)))
          simp only [execOp]
          go_simp
        · obtain rfl := Option.some.inj ho
          have l0 := hd 0 (by simp [State.BadGDep])
          have e0 := (hI.at_ 0 41 rfl l0).get
          have l1 := hd 1 (by simp [State.BadGDep])
          have e1 := (hI.at_ 1 42 rfl l1).get
          have l4 := hd 4 (by simp [State.BadGDep])
          have e4 := (hI.at_ 4 45 rfl l4).get
          have l9 := hd 9 (by simp [State.BadGDep])
          have e9 := (hI.at_ 9 50 rfl l9).get
          rw [show val 0 = _ from hI.gd 0 l0] at e0
          rw [show val 1 = _ from hI.gd 1 l1] at e1
          rw [show val 4 = _ from hI.gd 4 l4] at e4
          rw [show val 9 = _ from hI.gd 9 l9] at e9
          refine Draws.wpOp_of (by rfl) rfl ?_
          unfold Oper.wp
          simp only [execOp]
          go_simp
          refine Calls.mono (P := Try.prog) (HQ.out W (State.OwnS.reads (hI.hd.nth 0 rfl))) ?_
          rintro e w1 ⟨r1, s1, r2, s2, r3, s3, r4, s4, rfl, ho, hg⟩
          exact hI.made hloc hL _ (.tuple #[.agg #[.int .i64 R, .slice r1 n1 s1, .slice r2 n1 s2, .slice r3 n1 s3, .slice r4 n2 s4], .bool false]) (State.stateG (.slice r1 n1 s1) (.slice r2 n1 s2) (.slice r3 n1 s3) (.slice r4 n2 s4) n1 n1 n1 n2 xs (ms) (ts) bs) (hI.hd.fill 5 (g' := State.stateG (.slice r1 n1 s1) (.slice r2 n1 s2) (.slice r3 n1 s3) (.slice r4 n2 s4) n1 n1 n1 n2 xs (ms) (ts) bs) (congrArg some (hI.no 10 hL)) hg (ho.from (Nat.zero_le _)) ho.blocks) ⟨r1, s1, r2, s2, r3, s3, r4, s4, Draws.upd_at _ _ _, Draws.upd_at _ _ _⟩
        · obtain rfl := Option.some.inj ho
          have l10 := hd 10 (by simp [State.BadGDep])
          have e10 := (hI.at_ 10 51 rfl l10).get
          obtain ⟨r1, s1, r2, s2, r3, s3, r4, s4, v10, -⟩ := hI.gd 10 l10
          rw [v10] at e10
          refine Draws.wpOp_of (by rfl) rfl (State.wp_value (v := .tuple #[.agg #[.int .i64 R, .slice r1 n1 s1, .slice r2 n1 s2, .slice r3 n1 s3, .slice r4 n2 s4], .bool false]) (w' := W) ?_ (hI.same hloc hL _ _ (Cell.grown_refl _) ⟨r1, s1, r2, s2, r3, s3, r4, s4, Draws.upd_at _ _ _, v10⟩))
          simp only [execOp]
          go_simp
        · obtain rfl := Option.some.inj ho
          have l11 := hd 11 (by simp [State.BadGDep])
          have e11 := (hI.at_ 11 40 rfl l11).get
          obtain ⟨r1, s1, r2, s2, r3, s3, r4, s4, v11, -⟩ := hI.gd 11 l11
          rw [v11] at e11
          refine Draws.wpOp_of (by rfl) rfl (State.wp_value (v := .agg #[.int .i64 R, .slice r1 n1 s1, .slice r2 n1 s2, .slice r3 n1 s3, .slice r4 n2 s4]) (w' := W) ?_ (hI.same hloc hL _ _ (Cell.grown_refl _) ⟨r1, s1, r2, s2, r3, s3, r4, s4, Draws.upd_at _ _ _, v11⟩))
          simp only [execOp]
          go_simp
        · obtain rfl := Option.some.inj ho
          have l11 := hd 11 (by simp [State.BadGDep])
          have e11 := (hI.at_ 11 40 rfl l11).get
          obtain ⟨r1, s1, r2, s2, r3, s3, r4, s4, v11, -⟩ := hI.gd 11 l11
          rw [v11] at e11
          refine Draws.wpOp_of (by rfl) rfl (State.wp_value (v := .bool false) (w' := W) ?_ (hI.same hloc hL _ _ (Cell.grown_refl _) (Draws.upd_at _ _ _)))
          simp only [execOp]
          go_simp
        · obtain rfl := Option.some.inj ho
          refine Draws.wpOp_of (by rfl) rfl (State.wp_value (v := .pointer (some ⟨W.heap.size, 0, none⟩)) (w' := W.alloc (.cells #[.int .i64 0, .slice none 0 0, .slice none 0 0, .slice none 0 0, .slice none 0 0] 31)) ?_ ?_)
          · simp only [execOp]
            go_simp
          exact hI.made hloc hL _ _ (Law.boxG W.heap.size 31 #[.int .i64 0, .slice none 0 0, .slice none 0 0, .slice none 0 0, .slice none 0 0]) (hI.hd.fill 6 (g' := Law.boxG W.heap.size 31 #[.int .i64 0, .slice none 0 0, .slice none 0 0, .slice none 0 0, .slice none 0 0]) (congrArg some (hI.no 14 hL)) (World.grownBy_alloc W _ none) (World.alloc_heap_new W _) (fun b hb => by have : b = W.heap.size := (by simpa [Law.boxG] using hb); subst this; simp)) ⟨W.heap.size, _, _, _, _, _, Draws.upd_at _ _ _, Draws.upd_at _ _ _⟩
        · obtain rfl := Option.some.inj ho
          have l14 := hd 14 (by simp [State.BadGDep])
          have e14 := (hI.at_ 14 8 rfl l14).get
          have l12 := hd 12 (by simp [State.BadGDep])
          have e12 := (hI.at_ 12 52 rfl l12).get
          obtain ⟨B8, o0, o1, o2, o3, o4, v14, -⟩ := hI.gd 14 l14
          rw [v14] at e14
          obtain ⟨r1, s1, r2, s2, r3, s3, r4, s4, v12, -⟩ := hI.gd 12 l12
          rw [v12] at e12
          obtain ⟨B8', o0, o1, o2, o3, o4, v14', g14⟩ := hI.gd 14 l14
          rw [v14] at v14'
          cases v14'
          obtain ⟨y0, y1, y2, y3, y4⟩ := Law.box5 (hI.hd.nth 6 (congrArg some g14))
          obtain ⟨f0, f1, f2, f3, f4⟩ := Law.free5 (hI.hd.nth 6 (congrArg some g14))
          refine Draws.wpOp_of (by rfl) rfl (State.wp_skip (w' := ((((W.setCell ⟨B8, 0, none⟩ (.int .i64 R)).setCell ⟨B8, 1, none⟩ (.slice r1 n1 s1)).setCell ⟨B8, 2, none⟩ (.slice r2 n1 s2)).setCell ⟨B8, 3, none⟩ (.slice r3 n1 s3)).setCell ⟨B8, 4, none⟩ (.slice r4 n2 s4)) ?_ ?_)
          · simp only [execOp]
            go_simp
          exact hI.turned (c := 14) hloc hL _ undef (Law.boxG B8 31 #[.int .i64 R, .slice r1 n1 s1, .slice r2 n1 s2, .slice r3 n1 s3, .slice r4 n2 s4]) (hI.hd.put5 6 (congrArg some g14) (.int .i64 R) (.slice r1 n1 s1) (.slice r2 n1 s2) (.slice r3 n1 s3) (.slice r4 n2 s4)) l14 (by kernel_rfl) ⟨B8, _, _, _, _, _, v14, Draws.upd_at _ _ _⟩ ⟨B8, r1, s1, r2, s2, r3, s3, r4, s4, v14, v12, Draws.upd_at _ _ _⟩
        · obtain rfl := Option.some.inj ho
          have l13 := hd 13 (by simp [State.BadGDep])
          have e13 := (hI.at_ 13 53 rfl l13).get
          rw [show val 13 = _ from hI.gd 13 l13] at e13
          refine Draws.wpOp_of (by rfl) rfl (State.wp_value (v := .bool false) (w' := W) ?_ (hI.same hloc hL _ _ (Cell.grown_refl _) (Draws.upd_at _ _ _)))
          simp only [execOp]
          go_simp
      case last =>
        intro L a W val G hI hall
        have al : ∀ i, i < 17 → L i = true := fun i hi => hall i (by simpa using hi)
        obtain ⟨r1, s1, r2, s2, r3, s3, r4, s4, v10, r10⟩ := hI.gd 10 (al 10 (by decide))
        obtain ⟨r1', s1', r2', s2', r3', s3', r4', s4', v11, u⟩ := hI.gd 11 (al 11 (by decide))
        rw [v10] at u
        cases u
        obtain ⟨r1', s1', r2', s2', r3', s3', r4', s4', v12, u⟩ := hI.gd 12 (al 12 (by decide))
        rw [v11] at u
        cases u
        obtain ⟨B8, r1', s1', r2', s2', r3', s3', r4', s4', v14, u, r14⟩ := hI.gd 15 (al 15 (by decide))
        rw [v12] at u
        cases u
        have v16 : val 16 = .bool false := hI.gd 16 (al 16 (by decide))
        have hH : Law.Held w W [State.stateG (.slice (some ⟨g1, 0, none⟩) n1 c1) (.slice (some ⟨g2, 0, none⟩) n1 c2) (.slice (some ⟨g3, 0, none⟩) n1 c3) (.slice (some ⟨g4, 0, none⟩) n2 c4) n1 n1 n1 n2 xs ms ts bs, Law.boxG B3 31 #[.int .i64 R, .slice (some ⟨g1, 0, none⟩) n1 c1, .slice (some ⟨g2, 0, none⟩) n1 c2, .slice (some ⟨g3, 0, none⟩) n1 c3, .slice (some ⟨g4, 0, none⟩) n2 c4], State.placesG gp p0 p1 p2, State.stateG (.slice b1 n1 d1) (.slice b2 n1 d2) (.slice b3 n1 d3) (.slice b4 n2 d4) n1 n1 n1 n2 xs (ms.set k p1) (ts.set k q) bs, Law.boxG B6 31 #[.int .i64 R, .slice b1 n1 d1, .slice b2 n1 d2, .slice b3 n1 d3, .slice b4 n2 d4], G 10, G 14] := hI.hd
        rw [r10, r14] at hH
        have HE4 := Lib.hid hH
        have ha := hI.frame (by kernel_rfl) hall
        refine hK _ _ ?_
        clear hK hI hH r10 r14 hall al HQ HE3
        simp [Draws.frameOf, Draws.slotOf, Act.put, List.range, List.range.loop] at ha
        subst ha
        rw [v14, v16]
        clear v10 v11 v12 v14 v16
        have HMX := Lib.hid (show ∀ u, State.ReadsS u b1 b2 b3 b4 n1 n1 n1 n2 xs (ms.set k p1) (ts.set k q) bs → Calls Try.prog 18 #[.agg #[.int .i64 R, .slice b1 n1 d1, .slice b2 n1 d2, .slice b3 n1 d3, .slice b4 n2 d4]] u fun e w' => e = .returned (.int .i64 (M - m + p1)) ∧ u.grownBy w' none from fun u h => HMY.out u _ _ _ _ d1 d2 d3 d4 h)
        have HTX := Lib.hid (show ∀ u, State.ReadsS u b1 b2 b3 b4 n1 n1 n1 n2 xs (ms.set k p1) (ts.set k q) bs → Calls Try.prog 14 #[.agg #[.int .i64 R, .slice b1 n1 d1, .slice b2 n1 d2, .slice b3 n1 d3, .slice b4 n2 d4]] u fun e w' => e = .returned (.int .i64 (T - t + q)) ∧ u.grownBy w' none from fun u h => HTY.out u _ _ _ _ d1 d2 d3 d4 h)
        clear HMY HTY hw0 hw1
        go_upto_region 8 with fail
        rename_i K hK
        refine Draws.wp_region_tabG (w := w) rfl (by kernel_rfl) (by kernel_rfl) State.LastGDep (by kernel_rfl) [State.stateG (.slice (some ⟨g1, 0, none⟩) n1 c1) (.slice (some ⟨g2, 0, none⟩) n1 c2) (.slice (some ⟨g3, 0, none⟩) n1 c3) (.slice (some ⟨g4, 0, none⟩) n2 c4) n1 n1 n1 n2 xs ms ts bs, Law.boxG B3 31 #[.int .i64 R, .slice (some ⟨g1, 0, none⟩) n1 c1, .slice (some ⟨g2, 0, none⟩) n1 c2, .slice (some ⟨g3, 0, none⟩) n1 c3, .slice (some ⟨g4, 0, none⟩) n2 c4], State.placesG gp p0 p1 p2, State.stateG (.slice b1 n1 d1) (.slice b2 n1 d2) (.slice b3 n1 d3) (.slice b4 n2 d4) n1 n1 n1 n2 xs (ms.set k p1) (ts.set k q) bs, Law.boxG B6 31 #[.int .i64 R, .slice b1 n1 d1, .slice b2 n1 d2, .slice b3 n1 d3, .slice b4 n2 d4], State.stateG (.slice r1 n1 s1) (.slice r2 n1 s2) (.slice r3 n1 s3) (.slice r4 n2 s4) n1 n1 n1 n2 xs (ms) (ts) bs, Law.boxG B8 31 #[.int .i64 R, .slice r1 n1 s1, .slice r2 n1 s2, .slice r3 n1 s3, .slice r4 n2 s4]] [] (fun _ => Law.emptyG) (State.LastG R g1 g2 g3 g4 n1 n2 c1 c2 c3 c4 k gp cp B3 B6 b1 b2 b3 b4 d1 d2 d3 d4 p1 p2 q M T m t) ?start ?step ?last
        case start => exact HE4.out.on (Mesh.gr_drew (Cell.grown_refl _))
        case step =>
          clear hK
          intro L a W val G i o hI ho hL hd
          have hi : i < 45 := by have := (Array.getElem?_eq_some_iff.1 ho).1; simpa using this
          have hloc := State.LastG_local R g1 g2 g3 g4 n1 n2 c1 c2 c3 c4 k gp cp B3 B6 b1 b2 b3 b4 d1 d2 d3 d4 p1 p2 q M T m t
          obtain ⟨z0, z1, z2, z3, z4⟩ := Law.box5 (hI.hd.nth 1 rfl)
          obtain ⟨-, c5, c6⟩ := hI.hd.nth 2 rfl
          obtain ⟨x0, x1, x2, x3, x4⟩ := Law.box5 (hI.hd.nth 4 rfl)
          have c7 := State.own_cellAt (State.OwnS.m (hI.hd.nth 0 rfl)) HM.out.1 HK.out
          have c8 := State.own_cellAt (State.OwnS.t (hI.hd.nth 0 rfl)) HM.out.2 HK.out
          rcases (show i = 0 ∨ i = 1 ∨ i = 2 ∨ i = 3 ∨ i = 4 ∨ i = 5 ∨ i = 6 ∨ i = 7 ∨ i = 8 ∨ i = 9 ∨ i = 10 ∨ i = 11 ∨ i = 12 ∨ i = 13 ∨ i = 14 ∨ i = 15 ∨ i = 16 ∨ i = 17 ∨ i = 18 ∨ i = 19 ∨ i = 20 ∨ i = 21 ∨ i = 22 ∨ i = 23 ∨ i = 24 ∨ i = 25 ∨ i = 26 ∨ i = 27 ∨ i = 28 ∨ i = 29 ∨ i = 30 ∨ i = 31 ∨ i = 32 ∨ i = 33 ∨ i = 34 ∨ i = 35 ∨ i = 36 ∨ i = 37 ∨ i = 38 ∨ i = 39 ∨ i = 40 ∨ i = 41 ∨ i = 42 ∨ i = 43 ∨ i = 44 by omega) with rfl | rfl | rfl | rfl | rfl | rfl | rfl | rfl | rfl | rfl | rfl | rfl | rfl | rfl | rfl | rfl | rfl | rfl | rfl | rfl | rfl | rfl | rfl | rfl | rfl | rfl | rfl | rfl | rfl | rfl | rfl | rfl | rfl | rfl | rfl | rfl | rfl | rfl | rfl | rfl | rfl | rfl | rfl | rfl | rfl
          · obtain rfl := Option.some.inj ho
            have p7 := (hI.old 7 (by kernel_rfl) rfl).get
            refine Draws.wpOp_of (by rfl) rfl (State.wp_value (v := .bool true) (w' := W) ?_ (hI.same hloc hL _ _ (Cell.grown_refl _) (Draws.upd_at _ _ _)))
            simp only [execOp]
            go_simp
          · obtain rfl := Option.some.inj ho
            have l0 := hd 0 (by simp [State.LastGDep])
            have e0 := (hI.at_ 0 54 rfl l0).get
            rw [show val 0 = _ from hI.gd 0 l0] at e0
            refine Draws.wpOp_of (by rfl) rfl (State.wp_value (v := .bool true) (w' := W) ?_ (hI.same hloc hL _ _ (Cell.grown_refl _) (Draws.upd_at _ _ _)))
            simp only [execOp]
            go_simp
          · obtain rfl := Option.some.inj ho
            have l1 := hd 1 (by simp [State.LastGDep])
            have e1 := (hI.at_ 1 55 rfl l1).get
            rw [show val 1 = _ from hI.gd 1 l1] at e1
            have ag := hI.at_ 1 55 rfl l1
            rw [show val 1 = _ from hI.gd 1 l1] at ag
            have p9 := (hI.old 9 (by kernel_rfl) rfl).get
            refine Draws.wpOp_want (by rfl) (Draws.want_at 1 55 rfl rfl ag) (State.wp_value (v := .bool false) (w' := W) ?_ (hI.same hloc hL _ _ (Cell.grown_refl _) (Draws.upd_at _ _ _)))
            simp only [execOp]
            go_simp
          · obtain rfl := Option.some.inj ho
            have l2 := hd 2 (by simp [State.LastGDep])
            have e2 := (hI.at_ 2 56 rfl l2).get
            have l1 := hd 1 (by simp [State.LastGDep])
            have e1 := (hI.at_ 1 55 rfl l1).get
            rw [show val 2 = _ from hI.gd 2 l2] at e2
            rw [show val 1 = _ from hI.gd 1 l1] at e1
            have ag := hI.at_ 1 55 rfl l1
            rw [show val 1 = _ from hI.gd 1 l1] at ag
            refine Draws.wpOp_want (by rfl) (Draws.want_at 1 55 rfl rfl ag) (State.wp_value (v := .bool true) (w' := W) ?_ (hI.same hloc hL _ _ (Cell.grown_refl _) (Draws.upd_at _ _ _)))
            simp only [execOp]
            go_simp
          · obtain rfl := Option.some.inj ho
            have l1 := hd 1 (by simp [State.LastGDep])
            have e1 := (hI.at_ 1 55 rfl l1).get
            have l3 := hd 3 (by simp [State.LastGDep])
            have e3 := (hI.at_ 3 57 rfl l3).get
            rw [show val 1 = _ from hI.gd 1 l1] at e1
            rw [show val 3 = _ from hI.gd 3 l3] at e3
            refine Draws.wpOp_of (by rfl) rfl (State.wp_value (v := .bool true) (w' := W) ?_ (hI.same hloc hL _ _ (Cell.grown_refl _) (Draws.upd_at _ _ _)))
            simp only [execOp]
            go_simp
          · obtain rfl := Option.some.inj ho
            have l4 := hd 4 (by simp [State.LastGDep])
            have e4 := (hI.at_ 4 58 rfl l4).get
            rw [show val 4 = _ from hI.gd 4 l4] at e4
            refine Draws.wpOp_of (by rfl) rfl (State.wp_value (v := .bool true) (w' := W) ?_ (hI.same hloc hL _ _ (Cell.grown_refl _) (Draws.upd_at _ _ _)))
            simp only [execOp]
            go_simp
          · obtain rfl := Option.some.inj ho
            have l5 := hd 5 (by simp [State.LastGDep])
            have e5 := (hI.at_ 5 59 rfl l5).get
            rw [show val 5 = _ from hI.gd 5 l5] at e5
            have ag := hI.at_ 5 59 rfl l5
            rw [show val 5 = _ from hI.gd 5 l5] at ag
            have p6 := (hI.old 6 (by kernel_rfl) rfl).get
            refine Draws.wpOp_want (by rfl) (Draws.want_at 5 59 rfl rfl ag) (State.wp_value (v := .agg #[.int .i64 R, .slice b1 n1 d1, .slice b2 n1 d2, .slice b3 n1 d3, .slice b4 n2 d4]) (w' := W) ?_ (hI.same hloc hL _ _ (Cell.grown_refl _) (Draws.upd_at _ _ _)))
            simp only [execOp]
            go_simp
          · obtain rfl := Option.some.inj ho
            have l6 := hd 6 (by simp [State.LastGDep])
            have e6 := (hI.at_ 6 60 rfl l6).get
            have l5 := hd 5 (by simp [State.LastGDep])
            have e5 := (hI.at_ 5 59 rfl l5).get
            rw [show val 6 = _ from hI.gd 6 l6] at e6
            rw [show val 5 = _ from hI.gd 5 l5] at e5
            have ag := hI.at_ 5 59 rfl l5
            rw [show val 5 = _ from hI.gd 5 l5] at ag
            refine Draws.wpOp_want (by rfl) (Draws.want_at 5 59 rfl rfl ag) ?_
            unfold Oper.wp
            simp only [execOp]
            go_simp
            refine Calls.mono (P := Try.prog) (HMX.out W (State.OwnS.reads (hI.hd.nth 3 rfl))) ?_
            rintro e w1 ⟨rfl, hg⟩
            exact hI.same hloc hL _ (.int .i64 (M - m + p1)) hg (Draws.upd_at _ _ _)
          · obtain rfl := Option.some.inj ho
            have l5 := hd 5 (by simp [State.LastGDep])
            have e5 := (hI.at_ 5 59 rfl l5).get
            rw [show val 5 = _ from hI.gd 5 l5] at e5
            have ag := hI.at_ 5 59 rfl l5
            rw [show val 5 = _ from hI.gd 5 l5] at ag
            have p3 := (hI.old 3 (by kernel_rfl) rfl).get
            refine Draws.wpOp_want (by rfl) (Draws.want_at 5 59 rfl rfl ag) (State.wp_value (v := .agg #[.int .i64 R, .slice (some ⟨g1, 0, none⟩) n1 c1, .slice (some ⟨g2, 0, none⟩) n1 c2, .slice (some ⟨g3, 0, none⟩) n1 c3, .slice (some ⟨g4, 0, none⟩) n2 c4]) (w' := W) ?_ (hI.same hloc hL _ _ (Cell.grown_refl _) (Draws.upd_at _ _ _)))
            simp only [execOp]
            go_simp
          · obtain rfl := Option.some.inj ho
            have l8 := hd 8 (by simp [State.LastGDep])
            have e8 := (hI.at_ 8 62 rfl l8).get
            have l5 := hd 5 (by simp [State.LastGDep])
            have e5 := (hI.at_ 5 59 rfl l5).get
            rw [show val 8 = _ from hI.gd 8 l8] at e8
            rw [show val 5 = _ from hI.gd 5 l5] at e5
            have ag := hI.at_ 5 59 rfl l5
            rw [show val 5 = _ from hI.gd 5 l5] at ag
            refine Draws.wpOp_want (by rfl) (Draws.want_at 5 59 rfl rfl ag) ?_
            unfold Oper.wp
            simp only [execOp]
            go_simp
            refine Calls.mono (P := Try.prog) (HMS.out W (State.OwnS.reads (hI.hd.nth 0 rfl))) ?_
            rintro e w1 ⟨rfl, hg⟩
            exact hI.same hloc hL _ (.int .i64 M) hg (Draws.upd_at _ _ _)
          · obtain rfl := Option.some.inj ho
            have l5 := hd 5 (by simp [State.LastGDep])
            have e5 := (hI.at_ 5 59 rfl l5).get
            rw [show val 5 = _ from hI.gd 5 l5] at e5
            have ag := hI.at_ 5 59 rfl l5
            rw [show val 5 = _ from hI.gd 5 l5] at ag
            have p3 := (hI.old 3 (by kernel_rfl) rfl).get
            refine Draws.wpOp_want (by rfl) (Draws.want_at 5 59 rfl rfl ag) (State.wp_value (v := .pointer (some ⟨B3, 2, none⟩)) (w' := W) ?_ (hI.same hloc hL _ _ (Cell.grown_refl _) (Draws.upd_at _ _ _)))
            simp only [execOp]
            go_simp
          · obtain rfl := Option.some.inj ho
            have l10 := hd 10 (by simp [State.LastGDep])
            have e10 := (hI.at_ 10 64 rfl l10).get
            have l5 := hd 5 (by simp [State.LastGDep])
            have e5 := (hI.at_ 5 59 rfl l5).get
            rw [show val 10 = _ from hI.gd 10 l10] at e10
            rw [show val 5 = _ from hI.gd 5 l5] at e5
            have ag := hI.at_ 5 59 rfl l5
            rw [show val 5 = _ from hI.gd 5 l5] at ag
            refine Draws.wpOp_want (by rfl) (Draws.want_at 5 59 rfl rfl ag) (State.wp_value (v := .slice (some ⟨g2, 0, none⟩) n1 c2) (w' := W) ?_ (hI.same hloc hL _ _ (Cell.grown_refl _) (Draws.upd_at _ _ _)))
            simp only [execOp]
            go_simp
          · obtain rfl := Option.some.inj ho
            have l5 := hd 5 (by simp [State.LastGDep])
            have e5 := (hI.at_ 5 59 rfl l5).get
            rw [show val 5 = _ from hI.gd 5 l5] at e5
            have ag := hI.at_ 5 59 rfl l5
            rw [show val 5 = _ from hI.gd 5 l5] at ag
            have p5 := (hI.old 5 (by kernel_rfl) rfl).get
            refine Draws.wpOp_want (by rfl) (Draws.want_at 5 59 rfl rfl ag) (State.wp_value (v := .int .i64 (k : Int)) (w' := W) ?_ (hI.same hloc hL _ _ (Cell.grown_refl _) (Draws.upd_at _ _ _)))
            simp only [execOp]
            go_simp
          · obtain rfl := Option.some.inj ho
            have l11 := hd 11 (by simp [State.LastGDep])
            have e11 := (hI.at_ 11 65 rfl l11).get
            have l12 := hd 12 (by simp [State.LastGDep])
            have e12 := (hI.at_ 12 66 rfl l12).get
            have l5 := hd 5 (by simp [State.LastGDep])
            have e5 := (hI.at_ 5 59 rfl l5).get
            rw [show val 11 = _ from hI.gd 11 l11] at e11
            rw [show val 12 = _ from hI.gd 12 l12] at e12
            rw [show val 5 = _ from hI.gd 5 l5] at e5
            have ag := hI.at_ 5 59 rfl l5
            rw [show val 5 = _ from hI.gd 5 l5] at ag
            refine Draws.wpOp_want (by rfl) (Draws.want_at 5 59 rfl rfl ag) (State.wp_value (v := .pointer (some ⟨g2, k, none⟩)) (w' := W) ?_ (hI.same hloc hL _ _ (Cell.grown_refl _) (Draws.upd_at _ _ _)))
            simp only [execOp]
            go_simp
          · obtain rfl := Option.some.inj ho
            have l13 := hd 13 (by simp [State.LastGDep])
            have e13 := (hI.at_ 13 67 rfl l13).get
            have l5 := hd 5 (by simp [State.LastGDep])
            have e5 := (hI.at_ 5 59 rfl l5).get
            rw [show val 13 = _ from hI.gd 13 l13] at e13
            rw [show val 5 = _ from hI.gd 5 l5] at e5
            have ag := hI.at_ 5 59 rfl l5
            rw [show val 5 = _ from hI.gd 5 l5] at ag
            refine Draws.wpOp_want (by rfl) (Draws.want_at 5 59 rfl rfl ag) (State.wp_value (v := .int .i64 m) (w' := W) ?_ (hI.same hloc hL _ _ (Cell.grown_refl _) (Draws.upd_at _ _ _)))
            simp only [execOp]
            go_simp
          · obtain rfl := Option.some.inj ho
            have l9 := hd 9 (by simp [State.LastGDep])
            have e9 := (hI.at_ 9 63 rfl l9).get
            have l14 := hd 14 (by simp [State.LastGDep])
            have e14 := (hI.at_ 14 68 rfl l14).get
            have l5 := hd 5 (by simp [State.LastGDep])
            have e5 := (hI.at_ 5 59 rfl l5).get
            rw [show val 9 = _ from hI.gd 9 l9] at e9
            rw [show val 14 = _ from hI.gd 14 l14] at e14
            rw [show val 5 = _ from hI.gd 5 l5] at e5
            have ag := hI.at_ 5 59 rfl l5
            rw [show val 5 = _ from hI.gd 5 l5] at ag
            refine Draws.wpOp_want (by rfl) (Draws.want_at 5 59 rfl rfl ag) (State.wp_value (v := .int .i64 (M - m)) (w' := W) ?_ (hI.same hloc hL _ _ (Cell.grown_refl _) (Draws.upd_at _ _ _)))
            simp only [execOp]
            go_simp
          · obtain rfl := Option.some.inj ho
            have l5 := hd 5 (by simp [State.LastGDep])
            have e5 := (hI.at_ 5 59 rfl l5).get
            rw [show val 5 = _ from hI.gd 5 l5] at e5
            have ag := hI.at_ 5 59 rfl l5
            rw [show val 5 = _ from hI.gd 5 l5] at ag
            have p4 := (hI.old 4 (by kernel_rfl) rfl).get
            refine Draws.wpOp_want (by rfl) (Draws.want_at 5 59 rfl rfl ag) (State.wp_value (v := .slice (some ⟨gp, 0, none⟩) 12 cp) (w' := W) ?_ (hI.same hloc hL _ _ (Cell.grown_refl _) (Draws.upd_at _ _ _)))
            simp only [execOp]
            go_simp
          · obtain rfl := Option.some.inj ho
            have l16 := hd 16 (by simp [State.LastGDep])
            have e16 := (hI.at_ 16 70 rfl l16).get
            have l5 := hd 5 (by simp [State.LastGDep])
            have e5 := (hI.at_ 5 59 rfl l5).get
            rw [show val 16 = _ from hI.gd 16 l16] at e16
            rw [show val 5 = _ from hI.gd 5 l5] at e5
            have ag := hI.at_ 5 59 rfl l5
            rw [show val 5 = _ from hI.gd 5 l5] at ag
            refine Draws.wpOp_want (by rfl) (Draws.want_at 5 59 rfl rfl ag) (State.wp_value (v := .pointer (some ⟨gp, 1, none⟩)) (w' := W) ?_ (hI.same hloc hL _ _ (Cell.grown_refl _) (Draws.upd_at _ _ _)))
            simp only [execOp]
            go_simp
          · obtain rfl := Option.some.inj ho
            have l17 := hd 17 (by simp [State.LastGDep])
            have e17 := (hI.at_ 17 71 rfl l17).get
            have l5 := hd 5 (by simp [State.LastGDep])
            have e5 := (hI.at_ 5 59 rfl l5).get
            rw [show val 17 = _ from hI.gd 17 l17] at e17
            rw [show val 5 = _ from hI.gd 5 l5] at e5
            have ag := hI.at_ 5 59 rfl l5
            rw [show val 5 = _ from hI.gd 5 l5] at ag
            refine Draws.wpOp_want (by rfl) (Draws.want_at 5 59 rfl rfl ag) (State.wp_value (v := .int .i64 p1) (w' := W) ?_ (hI.same hloc hL _ _ (Cell.grown_refl _) (Draws.upd_at _ _ _)))
            simp only [execOp]
            go_simp
          · obtain rfl := Option.some.inj ho
            have l15 := hd 15 (by simp [State.LastGDep])
            have e15 := (hI.at_ 15 69 rfl l15).get
            have l18 := hd 18 (by simp [State.LastGDep])
            have e18 := (hI.at_ 18 72 rfl l18).get
            have l5 := hd 5 (by simp [State.LastGDep])
            have e5 := (hI.at_ 5 59 rfl l5).get
            rw [show val 15 = _ from hI.gd 15 l15] at e15
            rw [show val 18 = _ from hI.gd 18 l18] at e18
            rw [show val 5 = _ from hI.gd 5 l5] at e5
            have ag := hI.at_ 5 59 rfl l5
            rw [show val 5 = _ from hI.gd 5 l5] at ag
            refine Draws.wpOp_want (by rfl) (Draws.want_at 5 59 rfl rfl ag) (State.wp_value (v := .int .i64 (M - m + p1)) (w' := W) ?_ (hI.same hloc hL _ _ (Cell.grown_refl _) (Draws.upd_at _ _ _)))
            simp only [execOp]
            go_simp
          · obtain rfl := Option.some.inj ho
            have l7 := hd 7 (by simp [State.LastGDep])
            have e7 := (hI.at_ 7 61 rfl l7).get
            have l19 := hd 19 (by simp [State.LastGDep])
            have e19 := (hI.at_ 19 73 rfl l19).get
            have l5 := hd 5 (by simp [State.LastGDep])
            have e5 := (hI.at_ 5 59 rfl l5).get
            rw [show val 7 = _ from hI.gd 7 l7] at e7
            rw [show val 19 = _ from hI.gd 19 l19] at e19
            rw [show val 5 = _ from hI.gd 5 l5] at e5
            have ag := hI.at_ 5 59 rfl l5
            rw [show val 5 = _ from hI.gd 5 l5] at ag
            refine Draws.wpOp_want (by rfl) (Draws.want_at 5 59 rfl rfl ag) (State.wp_value (v := .bool true) (w' := W) ?_ (hI.same hloc hL _ _ (Cell.grown_refl _) (Draws.upd_at _ _ _)))
            simp only [execOp]
            go_simp
          · obtain rfl := Option.some.inj ho
            have l5 := hd 5 (by simp [State.LastGDep])
            have e5 := (hI.at_ 5 59 rfl l5).get
            have l20 := hd 20 (by simp [State.LastGDep])
            have e20 := (hI.at_ 20 74 rfl l20).get
            rw [show val 5 = _ from hI.gd 5 l5] at e5
            rw [show val 20 = _ from hI.gd 20 l20] at e20
            refine Draws.wpOp_of (by rfl) rfl (State.wp_value (v := .bool true) (w' := W) ?_ (hI.same hloc hL _ _ (Cell.grown_refl _) (Draws.upd_at _ _ _)))
            simp only [execOp]
            go_simp
          · obtain rfl := Option.some.inj ho
            have l21 := hd 21 (by simp [State.LastGDep])
            have e21 := (hI.at_ 21 75 rfl l21).get
            rw [show val 21 = _ from hI.gd 21 l21] at e21
            refine Draws.wpOp_of (by rfl) rfl (State.wp_value (v := .bool true) (w' := W) ?_ (hI.same hloc hL _ _ (Cell.grown_refl _) (Draws.upd_at _ _ _)))
            simp only [execOp]
            go_simp
          · obtain rfl := Option.some.inj ho
            have l22 := hd 22 (by simp [State.LastGDep])
            have e22 := (hI.at_ 22 76 rfl l22).get
            rw [show val 22 = _ from hI.gd 22 l22] at e22
            have ag := hI.at_ 22 76 rfl l22
            rw [show val 22 = _ from hI.gd 22 l22] at ag
            have p6 := (hI.old 6 (by kernel_rfl) rfl).get
            refine Draws.wpOp_want (by rfl) (Draws.want_at 22 76 rfl rfl ag) (State.wp_value (v := .agg #[.int .i64 R, .slice b1 n1 d1, .slice b2 n1 d2, .slice b3 n1 d3, .slice b4 n2 d4]) (w' := W) ?_ (hI.same hloc hL _ _ (Cell.grown_refl _) (Draws.upd_at _ _ _)))
            simp only [execOp]
            go_simp
          · obtain rfl := Option.some.inj ho
            have l23 := hd 23 (by simp [State.LastGDep])
            have e23 := (hI.at_ 23 77 rfl l23).get
            have l22 := hd 22 (by simp [State.LastGDep])
            have e22 := (hI.at_ 22 76 rfl l22).get
            rw [show val 23 = _ from hI.gd 23 l23] at e23
            rw [show val 22 = _ from hI.gd 22 l22] at e22
            have ag := hI.at_ 22 76 rfl l22
            rw [show val 22 = _ from hI.gd 22 l22] at ag
            refine Draws.wpOp_want (by rfl) (Draws.want_at 22 76 rfl rfl ag) ?_
            unfold Oper.wp
            simp only [execOp]
            go_simp
            refine Calls.mono (P := Try.prog) (HTX.out W (State.OwnS.reads (hI.hd.nth 3 rfl))) ?_
            rintro e w1 ⟨rfl, hg⟩
            exact hI.same hloc hL _ (.int .i64 (T - t + q)) hg (Draws.upd_at _ _ _)
          · obtain rfl := Option.some.inj ho
            have l22 := hd 22 (by simp [State.LastGDep])
            have e22 := (hI.at_ 22 76 rfl l22).get
            rw [show val 22 = _ from hI.gd 22 l22] at e22
            have ag := hI.at_ 22 76 rfl l22
            rw [show val 22 = _ from hI.gd 22 l22] at ag
            have p3 := (hI.old 3 (by kernel_rfl) rfl).get
            refine Draws.wpOp_want (by rfl) (Draws.want_at 22 76 rfl rfl ag) (State.wp_value (v := .agg #[.int .i64 R, .slice (some ⟨g1, 0, none⟩) n1 c1, .slice (some ⟨g2, 0, none⟩) n1 c2, .slice (some ⟨g3, 0, none⟩) n1 c3, .slice (some ⟨g4, 0, none⟩) n2 c4]) (w' := W) ?_ (hI.same hloc hL _ _ (Cell.grown_refl _) (Draws.upd_at _ _ _)))
            simp only [execOp]
            go_simp
          · obtain rfl := Option.some.inj ho
            have l25 := hd 25 (by simp [State.LastGDep])
            have e25 := (hI.at_ 25 79 rfl l25).get
            have l22 := hd 22 (by simp [State.LastGDep])
            have e22 := (hI.at_ 22 76 rfl l22).get
            rw [show val 25 = _ from hI.gd 25 l25] at e25
            rw [show val 22 = _ from hI.gd 22 l22] at e22
            have ag := hI.at_ 22 76 rfl l22
            rw [show val 22 = _ from hI.gd 22 l22] at ag
            refine Draws.wpOp_want (by rfl) (Draws.want_at 22 76 rfl rfl ag) ?_
            unfold Oper.wp
            simp only [execOp]
            go_simp
            refine Calls.mono (P := Try.prog) (HTS.out W (State.OwnS.reads (hI.hd.nth 0 rfl))) ?_
            rintro e w1 ⟨rfl, hg⟩
            exact hI.same hloc hL _ (.int .i64 T) hg (Draws.upd_at _ _ _)
          · obtain rfl := Option.some.inj ho
            have l22 := hd 22 (by simp [State.LastGDep])
            have e22 := (hI.at_ 22 76 rfl l22).get
            rw [show val 22 = _ from hI.gd 22 l22] at e22
            have ag := hI.at_ 22 76 rfl l22
            rw [show val 22 = _ from hI.gd 22 l22] at ag
            have p3 := (hI.old 3 (by kernel_rfl) rfl).get
            refine Draws.wpOp_want (by rfl) (Draws.want_at 22 76 rfl rfl ag) (State.wp_value (v := .pointer (some ⟨B3, 3, none⟩)) (w' := W) ?_ (hI.same hloc hL _ _ (Cell.grown_refl _) (Draws.upd_at _ _ _)))
            simp only [execOp]
            go_simp
          · obtain rfl := Option.some.inj ho
            have l27 := hd 27 (by simp [State.LastGDep])
            have e27 := (hI.at_ 27 81 rfl l27).get
            have l22 := hd 22 (by simp [State.LastGDep])
            have e22 := (hI.at_ 22 76 rfl l22).get
            rw [show val 27 = _ from hI.gd 27 l27] at e27
            rw [show val 22 = _ from hI.gd 22 l22] at e22
            have ag := hI.at_ 22 76 rfl l22
            rw [show val 22 = _ from hI.gd 22 l22] at ag
            refine Draws.wpOp_want (by rfl) (Draws.want_at 22 76 rfl rfl ag) (State.wp_value (v := .slice (some ⟨g3, 0, none⟩) n1 c3) (w' := W) ?_ (hI.same hloc hL _ _ (Cell.grown_refl _) (Draws.upd_at _ _ _)))
            simp only [execOp]
            go_simp
          · obtain rfl := Option.some.inj ho
            have l22 := hd 22 (by simp [State.LastGDep])
            have e22 := (hI.at_ 22 76 rfl l22).get
            rw [show val 22 = _ from hI.gd 22 l22] at e22
            have ag := hI.at_ 22 76 rfl l22
            rw [show val 22 = _ from hI.gd 22 l22] at ag
            have p5 := (hI.old 5 (by kernel_rfl) rfl).get
            refine Draws.wpOp_want (by rfl) (Draws.want_at 22 76 rfl rfl ag) (State.wp_value (v := .int .i64 (k : Int)) (w' := W) ?_ (hI.same hloc hL _ _ (Cell.grown_refl _) (Draws.upd_at _ _ _)))
            simp only [execOp]
            go_simp
          · obtain rfl := Option.some.inj ho
            have l28 := hd 28 (by simp [State.LastGDep])
            have e28 := (hI.at_ 28 82 rfl l28).get
            have l29 := hd 29 (by simp [State.LastGDep])
            have e29 := (hI.at_ 29 83 rfl l29).get
            have l22 := hd 22 (by simp [State.LastGDep])
            have e22 := (hI.at_ 22 76 rfl l22).get
            rw [show val 28 = _ from hI.gd 28 l28] at e28
            rw [show val 29 = _ from hI.gd 29 l29] at e29
            rw [show val 22 = _ from hI.gd 22 l22] at e22
            have ag := hI.at_ 22 76 rfl l22
            rw [show val 22 = _ from hI.gd 22 l22] at ag
            refine Draws.wpOp_want (by rfl) (Draws.want_at 22 76 rfl rfl ag) (State.wp_value (v := .pointer (some ⟨g3, k, none⟩)) (w' := W) ?_ (hI.same hloc hL _ _ (Cell.grown_refl _) (Draws.upd_at _ _ _)))
            simp only [execOp]
            go_simp
          · obtain rfl := Option.some.inj ho
            have l30 := hd 30 (by simp [State.LastGDep])
            have e30 := (hI.at_ 30 84 rfl l30).get
            have l22 := hd 22 (by simp [State.LastGDep])
            have e22 := (hI.at_ 22 76 rfl l22).get
            rw [show val 30 = _ from hI.gd 30 l30] at e30
            rw [show val 22 = _ from hI.gd 22 l22] at e22
            have ag := hI.at_ 22 76 rfl l22
            rw [show val 22 = _ from hI.gd 22 l22] at ag
            refine Draws.wpOp_want (by rfl) (Draws.want_at 22 76 rfl rfl ag) (State.wp_value (v := .int .i64 t) (w' := W) ?_ (hI.same hloc hL _ _ (Cell.grown_refl _) (Draws.upd_at _ _ _)))
            simp only [execOp]
            go_simp
          · obtain rfl := Option.some.inj ho
            have l26 := hd 26 (by simp [State.LastGDep])
            have e26 := (hI.at_ 26 80 rfl l26).get
            have l31 := hd 31 (by simp [State.LastGDep])
            have e31 := (hI.at_ 31 85 rfl l31).get
            have l22 := hd 22 (by simp [State.LastGDep])
            have e22 := (hI.at_ 22 76 rfl l22).get
            rw [show val 26 = _ from hI.gd 26 l26] at e26
            rw [show val 31 = _ from hI.gd 31 l31] at e31
            rw [show val 22 = _ from hI.gd 22 l22] at e22
            have ag := hI.at_ 22 76 rfl l22
            rw [show val 22 = _ from hI.gd 22 l22] at ag
            refine Draws.wpOp_want (by rfl) (Draws.want_at 22 76 rfl rfl ag) (State.wp_value (v := .int .i64 (T - t)) (w' := W) ?_ (hI.same hloc hL _ _ (Cell.grown_refl _) (Draws.upd_at _ _ _)))
            simp only [execOp]
            go_simp
          · obtain rfl := Option.some.inj ho
            have l22 := hd 22 (by simp [State.LastGDep])
            have e22 := (hI.at_ 22 76 rfl l22).get
            rw [show val 22 = _ from hI.gd 22 l22] at e22
            have ag := hI.at_ 22 76 rfl l22
            rw [show val 22 = _ from hI.gd 22 l22] at ag
            have p4 := (hI.old 4 (by kernel_rfl) rfl).get
            refine Draws.wpOp_want (by rfl) (Draws.want_at 22 76 rfl rfl ag) (State.wp_value (v := .slice (some ⟨gp, 0, none⟩) 12 cp) (w' := W) ?_ (hI.same hloc hL _ _ (Cell.grown_refl _) (Draws.upd_at _ _ _)))
            simp only [execOp]
            go_simp
          · obtain rfl := Option.some.inj ho
            have l33 := hd 33 (by simp [State.LastGDep])
            have e33 := (hI.at_ 33 87 rfl l33).get
            have l22 := hd 22 (by simp [State.LastGDep])
            have e22 := (hI.at_ 22 76 rfl l22).get
            rw [show val 33 = _ from hI.gd 33 l33] at e33
            rw [show val 22 = _ from hI.gd 22 l22] at e22
            have ag := hI.at_ 22 76 rfl l22
            rw [show val 22 = _ from hI.gd 22 l22] at ag
            refine Draws.wpOp_want (by rfl) (Draws.want_at 22 76 rfl rfl ag) (State.wp_value (v := .pointer (some ⟨gp, 1, none⟩)) (w' := W) ?_ (hI.same hloc hL _ _ (Cell.grown_refl _) (Draws.upd_at _ _ _)))
            simp only [execOp]
            go_simp
          · obtain rfl := Option.some.inj ho
            have l34 := hd 34 (by simp [State.LastGDep])
            have e34 := (hI.at_ 34 88 rfl l34).get
            have l22 := hd 22 (by simp [State.LastGDep])
            have e22 := (hI.at_ 22 76 rfl l22).get
            rw [show val 34 = _ from hI.gd 34 l34] at e34
            rw [show val 22 = _ from hI.gd 22 l22] at e22
            have ag := hI.at_ 22 76 rfl l22
            rw [show val 22 = _ from hI.gd 22 l22] at ag
            refine Draws.wpOp_want (by rfl) (Draws.want_at 22 76 rfl rfl ag) (State.wp_value (v := .int .i64 p1) (w' := W) ?_ (hI.same hloc hL _ _ (Cell.grown_refl _) (Draws.upd_at _ _ _)))
            simp only [execOp]
            go_simp
          · obtain rfl := Option.some.inj ho
            have l22 := hd 22 (by simp [State.LastGDep])
            have e22 := (hI.at_ 22 76 rfl l22).get
            rw [show val 22 = _ from hI.gd 22 l22] at e22
            have ag := hI.at_ 22 76 rfl l22
            rw [show val 22 = _ from hI.gd 22 l22] at ag
            have p4 := (hI.old 4 (by kernel_rfl) rfl).get
            refine Draws.wpOp_want (by rfl) (Draws.want_at 22 76 rfl rfl ag) (State.wp_value (v := .slice (some ⟨gp, 0, none⟩) 12 cp) (w' := W) ?_ (hI.same hloc hL _ _ (Cell.grown_refl _) (Draws.upd_at _ _ _)))
            simp only [execOp]
            go_simp
          · obtain rfl := Option.some.inj ho
            have l36 := hd 36 (by simp [State.LastGDep])
            have e36 := (hI.at_ 36 90 rfl l36).get
            have l22 := hd 22 (by simp [State.LastGDep])
            have e22 := (hI.at_ 22 76 rfl l22).get
            rw [show val 36 = _ from hI.gd 36 l36] at e36
            rw [show val 22 = _ from hI.gd 22 l22] at e22
            have ag := hI.at_ 22 76 rfl l22
            rw [show val 22 = _ from hI.gd 22 l22] at ag
            refine Draws.wpOp_want (by rfl) (Draws.want_at 22 76 rfl rfl ag) (State.wp_value (v := .pointer (some ⟨gp, 2, none⟩)) (w' := W) ?_ (hI.same hloc hL _ _ (Cell.grown_refl _) (Draws.upd_at _ _ _)))
            simp only [execOp]
            go_simp
          · obtain rfl := Option.some.inj ho
            have l37 := hd 37 (by simp [State.LastGDep])
            have e37 := (hI.at_ 37 91 rfl l37).get
            have l22 := hd 22 (by simp [State.LastGDep])
            have e22 := (hI.at_ 22 76 rfl l22).get
            rw [show val 37 = _ from hI.gd 37 l37] at e37
            rw [show val 22 = _ from hI.gd 22 l22] at e22
            have ag := hI.at_ 22 76 rfl l22
            rw [show val 22 = _ from hI.gd 22 l22] at ag
            refine Draws.wpOp_want (by rfl) (Draws.want_at 22 76 rfl rfl ag) (State.wp_value (v := .int .i64 p2) (w' := W) ?_ (hI.same hloc hL _ _ (Cell.grown_refl _) (Draws.upd_at _ _ _)))
            simp only [execOp]
            go_simp
          · obtain rfl := Option.some.inj ho
            have l35 := hd 35 (by simp [State.LastGDep])
            have e35 := (hI.at_ 35 89 rfl l35).get
            have l38 := hd 38 (by simp [State.LastGDep])
            have e38 := (hI.at_ 38 92 rfl l38).get
            have l22 := hd 22 (by simp [State.LastGDep])
            have e22 := (hI.at_ 22 76 rfl l22).get
            rw [show val 35 = _ from hI.gd 35 l35] at e35
            rw [show val 38 = _ from hI.gd 38 l38] at e38
            rw [show val 22 = _ from hI.gd 22 l22] at e22
            have ag := hI.at_ 22 76 rfl l22
            rw [show val 22 = _ from hI.gd 22 l22] at ag
            refine Draws.wpOp_want (by rfl) (Draws.want_at 22 76 rfl rfl ag) (State.wp_value (v := .int .i64 (p1 * p2)) (w' := W) ?_ (hI.same hloc hL _ _ (Cell.grown_refl _) (Draws.upd_at _ _ _)))
            simp only [execOp]
            go_simp
          · obtain rfl := Option.some.inj ho
            have l39 := hd 39 (by simp [State.LastGDep])
            have e39 := (hI.at_ 39 93 rfl l39).get
            have l22 := hd 22 (by simp [State.LastGDep])
            have e22 := (hI.at_ 22 76 rfl l22).get
            rw [show val 39 = _ from hI.gd 39 l39] at e39
            rw [show val 22 = _ from hI.gd 22 l22] at e22
            have ag := hI.at_ 22 76 rfl l22
            rw [show val 22 = _ from hI.gd 22 l22] at ag
            refine Draws.wpOp_want (by rfl) (Draws.want_at 22 76 rfl rfl ag) (State.wp_value (v := .int .i64 q) (w' := W) ?_ (hI.same hloc hL _ _ (Cell.grown_refl _) (Draws.upd_at _ _ _)))
            simp only [execOp]
            go_simp
          · obtain rfl := Option.some.inj ho
            have l32 := hd 32 (by simp [State.LastGDep])
            have e32 := (hI.at_ 32 86 rfl l32).get
            have l40 := hd 40 (by simp [State.LastGDep])
            have e40 := (hI.at_ 40 94 rfl l40).get
            have l22 := hd 22 (by simp [State.LastGDep])
            have e22 := (hI.at_ 22 76 rfl l22).get
            rw [show val 32 = _ from hI.gd 32 l32] at e32
            rw [show val 40 = _ from hI.gd 40 l40] at e40
            rw [show val 22 = _ from hI.gd 22 l22] at e22
            have ag := hI.at_ 22 76 rfl l22
            rw [show val 22 = _ from hI.gd 22 l22] at ag
            refine Draws.wpOp_want (by rfl) (Draws.want_at 22 76 rfl rfl ag) (State.wp_value (v := .int .i64 (T - t + q)) (w' := W) ?_ (hI.same hloc hL _ _ (Cell.grown_refl _) (Draws.upd_at _ _ _)))
            simp only [execOp]
            go_simp
          · obtain rfl := Option.some.inj ho
            have l24 := hd 24 (by simp [State.LastGDep])
            have e24 := (hI.at_ 24 78 rfl l24).get
            have l41 := hd 41 (by simp [State.LastGDep])
            have e41 := (hI.at_ 41 95 rfl l41).get
            have l22 := hd 22 (by simp [State.LastGDep])
            have e22 := (hI.at_ 22 76 rfl l22).get
            rw [show val 24 = _ from hI.gd 24 l24] at e24
            rw [show val 41 = _ from hI.gd 41 l41] at e41
            rw [show val 22 = _ from hI.gd 22 l22] at e22
            have ag := hI.at_ 22 76 rfl l22
            rw [show val 22 = _ from hI.gd 22 l22] at ag
            refine Draws.wpOp_want (by rfl) (Draws.want_at 22 76 rfl rfl ag) (State.wp_value (v := .bool true) (w' := W) ?_ (hI.same hloc hL _ _ (Cell.grown_refl _) (Draws.upd_at _ _ _)))
            simp only [execOp]
            go_simp
          · obtain rfl := Option.some.inj ho
            have l22 := hd 22 (by simp [State.LastGDep])
            have e22 := (hI.at_ 22 76 rfl l22).get
            have l42 := hd 42 (by simp [State.LastGDep])
            have e42 := (hI.at_ 42 96 rfl l42).get
            rw [show val 22 = _ from hI.gd 22 l22] at e22
            rw [show val 42 = _ from hI.gd 42 l42] at e42
            refine Draws.wpOp_of (by rfl) rfl (State.wp_value (v := .bool true) (w' := W) ?_ (hI.same hloc hL _ _ (Cell.grown_refl _) (Draws.upd_at _ _ _)))
            simp only [execOp]
            go_simp
          · obtain rfl := Option.some.inj ho
            have l43 := hd 43 (by simp [State.LastGDep])
            have e43 := (hI.at_ 43 97 rfl l43).get
            rw [show val 43 = _ from hI.gd 43 l43] at e43
            refine Draws.wpOp_of (by rfl) rfl (State.wp_value (v := .bool true) (w' := W) ?_ (hI.same hloc hL _ _ (Cell.grown_refl _) (Draws.upd_at _ _ _)))
            simp only [execOp]
            go_simp
        case last =>
          intro L a W val G hI hall
          have v44 : val 44 = .bool true := hI.gd 44 (hall 44 (by simp))
          have hgr : w.grownBy W none := hI.hd.gr
          have ha := hI.frame (by kernel_rfl) hall
          refine hK _ _ ?_
          clear hK hI hall HMX HTX HMS HTS HE4 HM hw2 hw3 hw4 hw5
          simp [Draws.frameOf, Draws.slotOf, Act.put, List.range, List.range.loop] at ha
          subst ha
          rw [v44]
          clear v44
          go_wp2_with fail
          go_ret
          exact ⟨rfl, Cell.grown_below hgr (Nat.le_refl _)⟩

set_option maxRecDepth 100000 in
theorem lifted (os : Os) (started : os.Started) (H : Type) (enc : TypeId × Value → H) :
    ReturnsInHanded {} Try.checked os 4 .any (Rows.fnPutSpec.pre6 enc Try.prog Try.f4 Rows.fnPutRow.domain false) (Rows.fnPutSpec.post enc Try.prog Try.f4 false true false false) := by
  refine returnsInHanded_of_change (C := Try.checked) own started (by kernel_rfl) Try.func4
    (ChangeSpec.witness6 (enc := enc) (C := Try.checked) false ⟨#[], #[.slice none 0 0], []⟩ 8 (by kernel_rfl) (by kernel_rfl) (by kernel_rfl) (by kernel_rfl)) ?_
  intro W base args ds gs before hval0 hW hcnd _
  have hval : ∀ (j : Nat) t v, Try.f4.params[j]? = some t → args[j]? = some v → Value.okWide Try.prog W .any base t v := hval0
  have hW' := hW
  obtain ⟨p, q, hA0, hV, rfl, hfz, hnd⟩ := hW
  have hA : DataW.TrodAll enc Try.prog W 0 (fun _ => true) true Try.f4.params.toList args.toList ds p := hA0
  rw [Try.params4] at hA hval
  obtain ⟨v0, vs0, d0, ds0, p0, q0, hargs, rfl, rfl, h0, r0⟩ := trodAll_cons hA
  obtain ⟨rfl, rfl, rfl⟩ := trodAll_nil r0
  obtain rfl : args = #[v0] := by cases args; simp_all
  obtain ⟨rfl, rfl⟩ := trodVars_none hV
  obtain ⟨a0, len0, cap0, rfl⟩ := okWide_slice Try.underlying22 (hval 0 22 v0 rfl rfl)
  have k0 := h0
  have lt0 : ∀ x ∈ p0, x.block < W.heap.size := by obtain ⟨m, hm⟩ := k0; exact DataW.trod_lt m _ _ _ hm
  obtain ⟨z0, w0⟩ : ∃ zs, IsRow .u8 W a0 len0 cap0 zs := by
    obtain ⟨fuel, hf⟩ := h0
    rcases open_ints Try.underlying22 Try.underlying5 (by kernel_rfl) hf with ⟨hcs, _⟩ | ⟨x, l, c, zs, hcs, _, hl, hm, hz, _, hcell, hwz⟩
    · simp [Value.cells] at hcs
      obtain ⟨rfl, rfl, rfl⟩ := hcs
      exact ⟨[], .inl ⟨rfl, rfl, rfl, rfl⟩⟩
    · simp [Value.cells] at hcs
      obtain ⟨rfl, rfl, rfl⟩ := hcs
      exact ⟨zs, .inr ⟨_, rfl, hl, hm, by simpa using hz, hcell, hwz⟩⟩
  clear hA0 hval0
  refine (walk a0 len0 cap0 z0 W w0).mono fun e W' ⟨he, bel⟩ => ?_
  subst he
  exact ⟨_, rfl, _, _, _, [], _, [], hW', trodAll_mk1 (shut_bool Try.underlying4 _), (trodAll_cons_mk (Below.trod laidOut (by kernel_rfl) (of_decide_eq_true (by kernel_rfl)) k0 bel lt0) trodAll_mk0), rfl, bel.frame _, fun h => by cases h⟩

theorem over : Rows.fnPutRow.holds Try.pinned (OpenSpec.ofChange Rows.fnPutSpec) :=
  OpenClaim.holds_of_wide 4 Try.f4 rfl rfl rfl rfl rfl rfl rfl ⟨rfl, rfl, rfl, rfl, rfl⟩ rfl rfl rfl rfl rfl (by kernel_rfl) Try.func4 (by kernel_rfl)
    (of_decide_eq_true (by kernel_rfl)) (by unfold Func.isWrapper; first | (rw [if_pos (by decide +kernel)]; kernel_rfl) | (rw [if_neg (by decide +kernel)]; exact ⟨rfl, rfl⟩))
    (fun os started H enc _ => lifted os started H enc)

theorem proved : Rows.FnPutSaid := over
#print axioms proved
end Go.Proofs.Ytcdkhapepabpkaa.fnPut
