/- Proved: for every slice of bytes the law FnTransferred returns true: a drawn leaf of a drawn state is refined and the state balanced, unless the leaf is of the deepest level; every pair of leaves of that state can then be coarsened or not as the reference model says; each state on the way is valid, and has the totals of the drawn one.
   Conditions: none besides those that the given row prints. -/
import Derived.Test.YtfoilfgiablleaaRows
import Derived.WalkKit
import Derived.ProofKit
import Derived.OpenShut
import Derived.ShutString
import Derived.Test.YtfoilfgiablleaaStTransT
import Derived.ChangeOld
import Derived.Below
set_option maxRecDepth 100000
namespace Go.Proofs.Ytfoilfgiablleaa.fnTransferred
open Go.ChangeShapes Go.WideShapes Go.ChangeAt Go.RowKit
open Go.ChangeMaps (open_string shut_string)
set_option linter.unusedVariables false

theorem own : ownKnob Try.prog.godebug = none := by kernel_rfl
theorem laidOut : laidOutB Try.prog = true := by kernel_rfl

def IsRow (k : IntKind) (w : World) (a : Option Addr) (len cap : Nat) (zs : List Int) : Prop :=
  (a = none ∧ len = 0 ∧ cap = 0 ∧ zs = []) ∨
  ∃ x, a = some x ∧ len ≤ cap ∧ cap ≤ maxLen ∧ zs.length = cap ∧ (∀ i, i < zs.length → w.cell? (x.add i) = some (.int k (zs.getD i 0))) ∧ ∀ n ∈ zs, (Lit.int k n).wf = true

set_option maxHeartbeats 32000000 in
theorem walk (a0 : Option Addr) (len0 cap0 : Nat) (z0 : List Int) (w : World) (w0 : IsRow .u8 w a0 len0 cap0 z0) :
    Calls Try.prog 3 #[.slice a0 len0 cap0] w fun e w' => e = .returned (.bool true) ∧ Below w.heap.size w w' := by
  have hb := Draw.bytes_of w0
  have HB := Lib.hid hb; clear hb
  clear w0
  by_cases hlen : 1048576 < len0
  · have hd : decide (1048576 < (len0 : Int)) = true := by simp; omega
    go_enter Try.func3, Try.ntmps3
    go_wp2_with fail
    refine Draw.big_any.mono ?_; rintro e w1 ⟨rfl, rfl⟩
    rw [hd]
    go_wp2_with fail
    go_ret
    exact ⟨rfl, Below.refl _ _⟩
  · have hd : decide (1048576 < (len0 : Int)) = false := by simp; omega
    have hlen' : len0 ≤ 1048576 := by omega
    have HLen := Lib.hid hlen'; clear hlen'
    go_enter Try.func3, Try.ntmps3
    go_wp2_with fail
    refine Draw.big_any.mono ?_; rintro e w1 ⟨rfl, rfl⟩
    rw [hd]
    clear hd hlen
    go_wp2_with fail
    refine (State.drawState_is HLen.out HB.out (Nat.le_refl _)).mono ?_
    rintro e w1 ⟨R, n1, n2, xs, ms, ts, bs, x1, c1, x2, c2, x3, c3, x4, c4, rfl, hd, ho, hg⟩
    obtain ⟨hn2, hn2', hR⟩ := hd.sizes
    have hn := hd.leaves
    obtain ⟨g1, c1', hv⟩ := Mesh.own_at1 ho.l (by omega)
    cases hv
    obtain ⟨g2, rfl, -, -⟩ := Ints.own_atI ho.m (by omega)
    obtain ⟨g3, rfl, -, -⟩ := Ints.own_atI ho.t (by omega)
    obtain ⟨g4, rfl, -, -⟩ := Ints.own_atI ho.b (by omega)
    have HE1 := Lib.hid ((State.Held.state (Law.Held.nil w) hg ho).box 29 #[.int .i64 R, .slice (some ⟨g1, 0, none⟩) n1 c1, .slice (some ⟨g2, 0, none⟩) n1 c2, .slice (some ⟨g3, 0, none⟩) n1 c3, .slice (some ⟨g4, 0, none⟩) n2 c4])
    have HD := Lib.hid hd
    have H1 := Lib.hid (show n1 ≤ 1048576 by omega); have H2 := Lib.hid (show n2 ≤ 1048576 by omega)
    have HN := Lib.hid hn
    have hn1 : 1 ≤ (n1 : Int) := by omega
    have hn1' : (n1 : Int) ≤ 128 := by omega
    have HBW := Lib.hid (HB.out.kept (fun b hb' => (hg.block b hb' (by simp))))
    have HSZ := Lib.hid hg.size
    clear ho hg hd hn hn2 hn2' hR HB
    go_upto_region 4 with fail
    obtain ⟨B3, hB3⟩ : ∃ B, B = w1.heap.size := ⟨_, rfl⟩
    rw [← hB3] at HE1 ⊢
    clear hB3
    have HBX := Lib.hid (HBW.out.kept (fun b hb' => (World.grownBy_alloc w1 (.cells #[.int .i64 R, .slice (some ⟨g1, 0, none⟩) n1 c1, .slice (some ⟨g2, 0, none⟩) n1 c2, .slice (some ⟨g3, 0, none⟩) n1 c3, .slice (some ⟨g4, 0, none⟩) n2 c4] 29) none).block b (by have := HSZ.out; omega) (by simp)))
    have HSX := Lib.hid (Nat.le_trans HSZ.out (World.grownBy_alloc w1 (.cells #[.int .i64 R, .slice (some ⟨g1, 0, none⟩) n1 c1, .slice (some ⟨g2, 0, none⟩) n1 c2, .slice (some ⟨g3, 0, none⟩) n1 c3, .slice (some ⟨g4, 0, none⟩) n2 c4] 29) none).size)
    clear HBW HSZ
    generalize w1.alloc (.cells #[.int .i64 R, .slice (some ⟨g1, 0, none⟩) n1 c1, .slice (some ⟨g2, 0, none⟩) n1 c2, .slice (some ⟨g3, 0, none⟩) n1 c3, .slice (some ⟨g4, 0, none⟩) n2 c4] 29) = W1 at *
    go_upto_region 5 with (go_at_call 17; ((with_reducible refine (State.places_new HLen.out HBX.out HSX.out).mono ?_); rintro e w2 ⟨gp, cp, p0, p1, p2, rfl, q0, q1, q2, hp, hlo, hg⟩; have HE2 := Lib.hid (HE1.out.add hg hp (fun b hb => by rw [List.mem_singleton.1 hb]; exact hlo)); clear hp hlo hg))
    clear HE1 HBX HSX HLen
    obtain ⟨z0, z1, z2, z3, z4⟩ := Law.box5 (HE2.out.nth 1 rfl)
    obtain ⟨c4', c5, c6⟩ := HE2.out.nth 2 rfl
    have hk0 : (p0 : Int).tmod (n1 : Int) = ((p0 % n1 : Int).toNat : Int) := by
      rw [Int.tmod_eq_emod_of_nonneg q0.1, Int.toNat_of_nonneg (Int.emod_nonneg _ (by omega))]
    have HK := Lib.hid (show (p0 % n1 : Int).toNat < n1 by have := Int.emod_lt_of_pos p0 (show (0 : Int) < n1 by omega); have := Int.emod_nonneg p0 (show (n1 : Int) ≠ 0 by omega); omega)
    have hki : (((p0 % n1 : Int).toNat : Nat) : Int) < n1 := by have := HK.out; omega
    generalize (p0 % n1 : Int).toNat = k at *
    have hn0 : ¬ (n1 : Int) = 0 := by omega
    go_quiet (fail)
    go_upto_region 6 with fail
    clear hk0 z0 z1 z2 z3 z4 c4' c5 c6 hn0
    have HEq := Lib.hid (HE2.out.on (Cell.g_drewN (Cell.grown_refl w2) nq))
    clear HE2
    generalize w2.drewN nq = wq2 at *
    have HE2 := HEq
    clear HEq
    have hl2 := HD.out.len
    have hl1 := HD.out.l1
    have hok := HD.out.ok
    obtain ⟨lr, lv, li, hx⟩ := Mesh.get_of_lt hl1 HK.out
    have hbv := (State.brB_at hok hx).symm
    dsimp only at hbv
    obtain ⟨hro, hrm, hrt⟩ := State.br_ok (i := (k : Int)) hok
    have hrf := fun u (h : State.RoomS u (some ⟨g1, 0, none⟩) (some ⟨g2, 0, none⟩) (some ⟨g3, 0, none⟩) (some ⟨g4, 0, none⟩) n1 n1 n1 n2 c1 c2 c3 c4 xs ms ts bs) => State.balRef_is R g1 g2 g3 g4 n1 n1 n1 n2 c1 c2 c3 c4 xs ms ts bs k u h H1.out H1.out H1.out H2.out
    obtain ⟨ys, mr, tr, hres⟩ : ∃ ys mr tr, State.brS R xs ms ts bs (k : Int) = (ys, mr, tr) := ⟨_, _, _, rfl⟩
    obtain ⟨b, hb⟩ : ∃ q, q = State.brB R xs ms ts bs (k : Int) := ⟨_, rfl⟩
    rw [← hb] at hbv
    simp only [hres, ← hb] at hrf hro hrm hrt
    obtain ⟨m, hm⟩ : ∃ q, q = ys.length := ⟨_, rfl⟩
    obtain ⟨l2, l3, m1, m2⟩ := State.ok_sizes hro
    rw [← hm] at l2 l3 m1 m2
    simp only [l2, l3, ← hm] at hrf
    have HRF := Lib.hid hrf
    have hn2 := HD.out.sizes.1
    have HN2 := Lib.hid hn2
    obtain ⟨M, hM⟩ : ∃ q, q = ms.sum := ⟨_, rfl⟩
    obtain ⟨T, hT⟩ : ∃ q, q = ts.sum := ⟨_, rfl⟩
    rw [← hM] at hrm
    rw [← hT] at hrt
    have HM128 := Lib.hid (And.intro m1 m2)
    have hmi : (m : Int) ≤ 128 := by omega
    have HMi := Lib.hid (show m ≤ 1048576 by omega)
    have HMS := Lib.hid (show ∀ u, State.ReadsS u (some ⟨g1, 0, none⟩) (some ⟨g2, 0, none⟩) (some ⟨g3, 0, none⟩) (some ⟨g4, 0, none⟩) n1 n1 n1 n2 xs ms ts bs → Calls Try.prog 20 #[.agg #[.int .i64 R, .slice (some ⟨g1, 0, none⟩) n1 c1, .slice (some ⟨g2, 0, none⟩) n1 c2, .slice (some ⟨g3, 0, none⟩) n1 c3, .slice (some ⟨g4, 0, none⟩) n2 c4]] u fun e w' => e = .returned (.int .i64 M) ∧ u.grownBy w' none from fun u h => by
      have q := State.specTotalMass_is R _ _ _ _ n1 n1 n1 n2 c1 c2 c3 c4 xs ms ts bs u h H1.out H1.out H1.out H2.out
      rw [if_pos hok, ← hM] at q
      exact q)
    have HTS := Lib.hid (show ∀ u, State.ReadsS u (some ⟨g1, 0, none⟩) (some ⟨g2, 0, none⟩) (some ⟨g3, 0, none⟩) (some ⟨g4, 0, none⟩) n1 n1 n1 n2 xs ms ts bs → Calls Try.prog 21 #[.agg #[.int .i64 R, .slice (some ⟨g1, 0, none⟩) n1 c1, .slice (some ⟨g2, 0, none⟩) n1 c2, .slice (some ⟨g3, 0, none⟩) n1 c3, .slice (some ⟨g4, 0, none⟩) n2 c4]] u fun e w' => e = .returned (.int .i64 T) ∧ u.grownBy w' none from fun u h => by
      have q := State.specTotalTracer_is R _ _ _ _ n1 n1 n1 n2 c1 c2 c3 c4 xs ms ts bs u h H1.out H1.out H1.out H2.out
      rw [if_pos hok, ← hT] at q
      exact q)
    have HX := Lib.hid hx
    have HRO := Lib.hid (And.intro hro (And.intro hrm hrt)); have HYM := Lib.hid (show ys.length = m from hm.symm)
    clear hl1 hl2 hok hx hrf hro hrm hrt hres hb hm l2 l3 m1 m2 hn2 hM hT
    obtain ⟨z0, z1, z2, z3, z4⟩ := Law.box5 (HE2.out.nth 1 rfl)
    go_upto_region 7 with (go_at_call 18; ((with_reducible refine (HRF.out _ (State.OwnS.room (HE2.out.nth 0 rfl))).mono ?_); rintro e w3 ⟨b1, d1, b2, d2, b3, d3, b4, d4, rfl, ho, hg⟩; have hown := State.Held.state HE2.out hg ho; obtain ⟨v1, v2, v3, v4, rfl, rfl, rfl, rfl⟩ := State.OwnS.addr (hown.nth 3 rfl) HM128.out.1 HM128.out.1 HM128.out.1 HN2.out; have HE3 := Lib.hid hown; clear ho hg hown))
    clear z0 z1 z2 z3 z4 HE2 HRF
    have HE4 := Lib.hid (HE3.out.box 29 #[.int .i64 R, .slice (some ⟨v1, 0, none⟩) m d1, .slice (some ⟨v2, 0, none⟩) m d2, .slice (some ⟨v3, 0, none⟩) m d3, .slice (some ⟨v4, 0, none⟩) n2 d4]); clear HE3
    obtain ⟨B6, hB6⟩ : ∃ B, B = w3.heap.size := ⟨_, rfl⟩
    rw [← hB6] at HE4 ⊢
    clear hB6
    generalize w3.alloc (.cells #[.int .i64 R, .slice (some ⟨v1, 0, none⟩) m d1, .slice (some ⟨v2, 0, none⟩) m d2, .slice (some ⟨v3, 0, none⟩) m d3, .slice (some ⟨v4, 0, none⟩) n2 d4] 29) = W3 at *
    have HOX := Lib.hid (show ∀ u, State.ReadsS u (some ⟨v1, 0, none⟩) (some ⟨v2, 0, none⟩) (some ⟨v3, 0, none⟩) (some ⟨v4, 0, none⟩) m m m n2 ys mr tr bs → Calls Try.prog 19 #[.agg #[.int .i64 R, .slice (some ⟨v1, 0, none⟩) m d1, .slice (some ⟨v2, 0, none⟩) m d2, .slice (some ⟨v3, 0, none⟩) m d3, .slice (some ⟨v4, 0, none⟩) n2 d4]] u fun e w' => e = .returned (.bool true) ∧ u.grownBy w' none from fun u h => by
      have q := State.specStateOk_is R _ _ _ _ m m m n2 d1 d2 d3 d4 ys mr tr bs u h HMi.out HMi.out HMi.out H2.out
      rw [HRO.out.1] at q
      exact q)
    have HMX := Lib.hid (show ∀ u, State.ReadsS u (some ⟨v1, 0, none⟩) (some ⟨v2, 0, none⟩) (some ⟨v3, 0, none⟩) (some ⟨v4, 0, none⟩) m m m n2 ys mr tr bs → Calls Try.prog 20 #[.agg #[.int .i64 R, .slice (some ⟨v1, 0, none⟩) m d1, .slice (some ⟨v2, 0, none⟩) m d2, .slice (some ⟨v3, 0, none⟩) m d3, .slice (some ⟨v4, 0, none⟩) n2 d4]] u fun e w' => e = .returned (.int .i64 M) ∧ u.grownBy w' none from fun u h => by
      have q := State.specTotalMass_is R _ _ _ _ m m m n2 d1 d2 d3 d4 ys mr tr bs u h HMi.out HMi.out HMi.out H2.out
      rw [if_pos HRO.out.1, HRO.out.2.1] at q
      exact q)
    have HTX := Lib.hid (show ∀ u, State.ReadsS u (some ⟨v1, 0, none⟩) (some ⟨v2, 0, none⟩) (some ⟨v3, 0, none⟩) (some ⟨v4, 0, none⟩) m m m n2 ys mr tr bs → Calls Try.prog 21 #[.agg #[.int .i64 R, .slice (some ⟨v1, 0, none⟩) m d1, .slice (some ⟨v2, 0, none⟩) m d2, .slice (some ⟨v3, 0, none⟩) m d3, .slice (some ⟨v4, 0, none⟩) n2 d4]] u fun e w' => e = .returned (.int .i64 T) ∧ u.grownBy w' none from fun u h => by
      have q := State.specTotalTracer_is R _ _ _ _ m m m n2 d1 d2 d3 d4 ys mr tr bs u h HMi.out HMi.out HMi.out H2.out
      rw [if_pos HRO.out.1, HRO.out.2.2] at q
      exact q)
    rename_i K hK
    refine Draws.wp_region_tabG (w := w) rfl (by kernel_rfl) (by kernel_rfl) State.TrGaDep (by kernel_rfl) [State.stateG (.slice (some ⟨g1, 0, none⟩) n1 c1) (.slice (some ⟨g2, 0, none⟩) n1 c2) (.slice (some ⟨g3, 0, none⟩) n1 c3) (.slice (some ⟨g4, 0, none⟩) n2 c4) n1 n1 n1 n2 xs ms ts bs, Law.boxG B3 29 #[.int .i64 R, .slice (some ⟨g1, 0, none⟩) n1 c1, .slice (some ⟨g2, 0, none⟩) n1 c2, .slice (some ⟨g3, 0, none⟩) n1 c3, .slice (some ⟨g4, 0, none⟩) n2 c4], State.placesG gp p0 p1 p2, State.stateG (.slice (some ⟨v1, 0, none⟩) m d1) (.slice (some ⟨v2, 0, none⟩) m d2) (.slice (some ⟨v3, 0, none⟩) m d3) (.slice (some ⟨v4, 0, none⟩) n2 d4) m m m n2 ys mr tr bs, Law.boxG B6 29 #[.int .i64 R, .slice (some ⟨v1, 0, none⟩) m d1, .slice (some ⟨v2, 0, none⟩) m d2, .slice (some ⟨v3, 0, none⟩) m d3, .slice (some ⟨v4, 0, none⟩) n2 d4]] [] (fun _ => Law.emptyG) (State.TrGa R g1 g2 g3 g4 n1 n2 c1 c2 c3 c4 k B3 B6 v1 v2 v3 v4 m d1 d2 d3 d4 M T lv b) ?start ?step ?last
    case start => exact HE4.out.on (Mesh.gr_drew (Cell.grown_refl _))
    case step =>
      clear hK
      intro L a W val G i o hI ho hL hd
      have hi : i < 29 := by have := (Array.getElem?_eq_some_iff.1 ho).1; simpa using this
      have hloc := State.TrGa_local R g1 g2 g3 g4 n1 n2 c1 c2 c3 c4 k B3 B6 v1 v2 v3 v4 m d1 d2 d3 d4 M T lv b
      obtain ⟨z0, z1, z2, z3, z4⟩ := Law.box5 (hI.hd.nth 1 rfl)
      obtain ⟨x0, x1, x2, x3, x4⟩ := Law.box5 (hI.hd.nth 4 rfl)
      obtain ⟨g_, hg_, -, -, c7, -⟩ := (State.ReadsS.l (State.OwnS.reads (hI.hd.nth 0 rfl))).at_ k _ HX.out
      cases hg_
      dsimp only at c7
      rcases (show i = 0 ∨ i = 1 ∨ i = 2 ∨ i = 3 ∨ i = 4 ∨ i = 5 ∨ i = 6 ∨ i = 7 ∨ i = 8 ∨ i = 9 ∨ i = 10 ∨ i = 11 ∨ i = 12 ∨ i = 13 ∨ i = 14 ∨ i = 15 ∨ i = 16 ∨ i = 17 ∨ i = 18 ∨ i = 19 ∨ i = 20 ∨ i = 21 ∨ i = 22 ∨ i = 23 ∨ i = 24 ∨ i = 25 ∨ i = 26 ∨ i = 27 ∨ i = 28 by omega) with rfl | rfl | rfl | rfl | rfl | rfl | rfl | rfl | rfl | rfl | rfl | rfl | rfl | rfl | rfl | rfl | rfl | rfl | rfl | rfl | rfl | rfl | rfl | rfl | rfl | rfl | rfl | rfl | rfl
      · obtain rfl := Option.some.inj ho
        have p6 := (hI.old 6 (by kernel_rfl) rfl).get
        refine Draws.wpOp_of (by rfl) rfl (State.wp_value (v := .agg #[.int .i64 R, .slice (some ⟨v1, 0, none⟩) m d1, .slice (some ⟨v2, 0, none⟩) m d2, .slice (some ⟨v3, 0, none⟩) m d3, .slice (some ⟨v4, 0, none⟩) n2 d4]) (w' := W) ?_ (hI.same hloc hL _ _ (Cell.grown_refl _) (Draws.upd_at _ _ _)))
        simp only [execOp]
        go_simp
      · obtain rfl := Option.some.inj ho
        have l0 := hd 0 (by simp [State.TrGaDep])
        have e0 := (hI.at_ 0 30 rfl l0).get
        rw [show val 0 = _ from hI.gd 0 l0] at e0
        refine Draws.wpOp_of (by rfl) rfl ?_
        unfold Oper.wp
        simp only [execOp]
        go_simp
        refine Calls.mono (P := Try.prog) (HOX.out W (State.OwnS.reads (hI.hd.nth 3 rfl))) ?_
        rintro e w1 ⟨rfl, hg⟩
        exact hI.same hloc hL _ (.bool true) hg (Draws.upd_at _ _ _)
      · obtain rfl := Option.some.inj ho
        have l1 := hd 1 (by simp [State.TrGaDep])
        have e1 := (hI.at_ 1 31 rfl l1).get
        rw [show val 1 = _ from hI.gd 1 l1] at e1
        refine Draws.wpOp_of (by rfl) rfl (State.wp_value (v := .bool false) (w' := W) ?_ (hI.same hloc hL _ _ (Cell.grown_refl _) (Draws.upd_at _ _ _)))
        simp only [execOp]
        go_simp
      · obtain rfl := Option.some.inj ho
        have l2 := hd 2 (by simp [State.TrGaDep])
        have e2 := (hI.at_ 2 32 rfl l2).get
        rw [show val 2 = _ from hI.gd 2 l2] at e2
        refine Draws.wpOp_of (by rfl) rfl (State.wp_value (v := .bool false) (w' := W) ?_ (hI.same hloc hL _ _ (Cell.grown_refl _) (Draws.upd_at _ _ _)))
        simp only [execOp]
        go_simp
      · obtain rfl := Option.some.inj ho
        have l3 := hd 3 (by simp [State.TrGaDep])
        have e3 := (hI.at_ 3 33 rfl l3).get
        rw [show val 3 = _ from hI.gd 3 l3] at e3
        have ag := hI.at_ 3 33 rfl l3
        rw [show val 3 = _ from hI.gd 3 l3] at ag
        have p7 := (hI.old 7 (by kernel_rfl) rfl).get
        refine Draws.wpOp_want (by rfl) (Draws.want_at 3 33 rfl rfl ag) (State.wp_value (v := .bool b) (w' := W) ?_ (hI.same hloc hL _ _ (Cell.grown_refl _) (Draws.upd_at _ _ _)))
        simp only [execOp]
        go_simp
      · obtain rfl := Option.some.inj ho
        have l3 := hd 3 (by simp [State.TrGaDep])
        have e3 := (hI.at_ 3 33 rfl l3).get
        rw [show val 3 = _ from hI.gd 3 l3] at e3
        have ag := hI.at_ 3 33 rfl l3
        rw [show val 3 = _ from hI.gd 3 l3] at ag
        have p3 := (hI.old 3 (by kernel_rfl) rfl).get
        refine Draws.wpOp_want (by rfl) (Draws.want_at 3 33 rfl rfl ag) (State.wp_value (v := .pointer (some ⟨B3, 0, none⟩)) (w' := W) ?_ (hI.same hloc hL _ _ (Cell.grown_refl _) (Draws.upd_at _ _ _)))
        simp only [execOp]
        go_simp
      · obtain rfl := Option.some.inj ho
        have l5 := hd 5 (by simp [State.TrGaDep])
        have e5 := (hI.at_ 5 35 rfl l5).get
        have l3 := hd 3 (by simp [State.TrGaDep])
        have e3 := (hI.at_ 3 33 rfl l3).get
        rw [show val 5 = _ from hI.gd 5 l5] at e5
        rw [show val 3 = _ from hI.gd 3 l3] at e3
        have ag := hI.at_ 3 33 rfl l3
        rw [show val 3 = _ from hI.gd 3 l3] at ag
        refine Draws.wpOp_want (by rfl) (Draws.want_at 3 33 rfl rfl ag) (State.wp_value (v := .pointer (some ⟨B3, 1, none⟩)) (w' := W) ?_ (hI.same hloc hL _ _ (Cell.grown_refl _) (Draws.upd_at _ _ _)))
        simp only [execOp]
        go_simp
      · obtain rfl := Option.some.inj ho
        have l6 := hd 6 (by simp [State.TrGaDep])
        have e6 := (hI.at_ 6 36 rfl l6).get
        have l3 := hd 3 (by simp [State.TrGaDep])
        have e3 := (hI.at_ 3 33 rfl l3).get
        rw [show val 6 = _ from hI.gd 6 l6] at e6
        rw [show val 3 = _ from hI.gd 3 l3] at e3
        have ag := hI.at_ 3 33 rfl l3
        rw [show val 3 = _ from hI.gd 3 l3] at ag
        refine Draws.wpOp_want (by rfl) (Draws.want_at 3 33 rfl rfl ag) (State.wp_value (v := .slice (some ⟨g1, 0, none⟩) n1 c1) (w' := W) ?_ (hI.same hloc hL _ _ (Cell.grown_refl _) (Draws.upd_at _ _ _)))
        simp only [execOp]
        go_simp
      · obtain rfl := Option.some.inj ho
        have l3 := hd 3 (by simp [State.TrGaDep])
        have e3 := (hI.at_ 3 33 rfl l3).get
        rw [show val 3 = _ from hI.gd 3 l3] at e3
        have ag := hI.at_ 3 33 rfl l3
        rw [show val 3 = _ from hI.gd 3 l3] at ag
        have p5 := (hI.old 5 (by kernel_rfl) rfl).get
        refine Draws.wpOp_want (by rfl) (Draws.want_at 3 33 rfl rfl ag) (State.wp_value (v := .int .i64 (k : Int)) (w' := W) ?_ (hI.same hloc hL _ _ (Cell.grown_refl _) (Draws.upd_at _ _ _)))
        simp only [execOp]
        go_simp
      · obtain rfl := Option.some.inj ho
        have l7 := hd 7 (by simp [State.TrGaDep])
        have e7 := (hI.at_ 7 37 rfl l7).get
        have l8 := hd 8 (by simp [State.TrGaDep])
        have e8 := (hI.at_ 8 38 rfl l8).get
        have l3 := hd 3 (by simp [State.TrGaDep])
        have e3 := (hI.at_ 3 33 rfl l3).get
        rw [show val 7 = _ from hI.gd 7 l7] at e7
        rw [show val 8 = _ from hI.gd 8 l8] at e8
        rw [show val 3 = _ from hI.gd 3 l3] at e3
        have ag := hI.at_ 3 33 rfl l3
        rw [show val 3 = _ from hI.gd 3 l3] at ag
        refine Draws.wpOp_want (by rfl) (Draws.want_at 3 33 rfl rfl ag) (State.wp_value (v := .pointer (some ⟨g1, (k * 3), none⟩)) (w' := W) ?_ (hI.same hloc hL _ _ (Cell.grown_refl _) (Draws.upd_at _ _ _)))
        simp only [execOp]
        go_simp
      · obtain rfl := Option.some.inj ho
        have l9 := hd 9 (by simp [State.TrGaDep])
        have e9 := (hI.at_ 9 39 rfl l9).get
        have l3 := hd 3 (by simp [State.TrGaDep])
        have e3 := (hI.at_ 3 33 rfl l3).get
        rw [show val 9 = _ from hI.gd 9 l9] at e9
        rw [show val 3 = _ from hI.gd 3 l3] at e3
        have ag := hI.at_ 3 33 rfl l3
        rw [show val 3 = _ from hI.gd 3 l3] at ag
        refine Draws.wpOp_want (by rfl) (Draws.want_at 3 33 rfl rfl ag) (State.wp_value (v := .pointer (some ⟨g1, (k * 3 + 1), none⟩)) (w' := W) ?_ (hI.same hloc hL _ _ (Cell.grown_refl _) (Draws.upd_at _ _ _)))
        simp only [execOp]
        go_simp
      · obtain rfl := Option.some.inj ho
        have l10 := hd 10 (by simp [State.TrGaDep])
        have e10 := (hI.at_ 10 40 rfl l10).get
        have l3 := hd 3 (by simp [State.TrGaDep])
        have e3 := (hI.at_ 3 33 rfl l3).get
        rw [show val 10 = _ from hI.gd 10 l10] at e10
        rw [show val 3 = _ from hI.gd 3 l3] at e3
        have ag := hI.at_ 3 33 rfl l3
        rw [show val 3 = _ from hI.gd 3 l3] at ag
        refine Draws.wpOp_want (by rfl) (Draws.want_at 3 33 rfl rfl ag) (State.wp_value (v := .int .i64 lv) (w' := W) ?_ (hI.same hloc hL _ _ (Cell.grown_refl _) (Draws.upd_at _ _ _)))
        simp only [execOp]
        go_simp
      · obtain rfl := Option.some.inj ho
        have l11 := hd 11 (by simp [State.TrGaDep])
        have e11 := (hI.at_ 11 41 rfl l11).get
        have l3 := hd 3 (by simp [State.TrGaDep])
        have e3 := (hI.at_ 3 33 rfl l3).get
        rw [show val 11 = _ from hI.gd 11 l11] at e11
        rw [show val 3 = _ from hI.gd 3 l3] at e3
        have ag := hI.at_ 3 33 rfl l3
        rw [show val 3 = _ from hI.gd 3 l3] at ag
        refine Draws.wpOp_want (by rfl) (Draws.want_at 3 33 rfl rfl ag) (State.wp_value (v := .bool b) (w' := W) ?_ (hI.same hloc hL _ _ (Cell.grown_refl _) (Draws.upd_at _ _ _)))
        simp only [execOp]
        first | (go_simp; done) | (go_simp; simp [hbv]; done) | (simp [hbv])
      · obtain rfl := Option.some.inj ho
        have l4 := hd 4 (by simp [State.TrGaDep])
        have e4 := (hI.at_ 4 34 rfl l4).get
        have l12 := hd 12 (by simp [State.TrGaDep])
        have e12 := (hI.at_ 12 42 rfl l12).get
        have l3 := hd 3 (by simp [State.TrGaDep])
        have e3 := (hI.at_ 3 33 rfl l3).get
        rw [show val 4 = _ from hI.gd 4 l4] at e4
        rw [show val 12 = _ from hI.gd 12 l12] at e12
        rw [show val 3 = _ from hI.gd 3 l3] at e3
        have ag := hI.at_ 3 33 rfl l3
        rw [show val 3 = _ from hI.gd 3 l3] at ag
        refine Draws.wpOp_want (by rfl) (Draws.want_at 3 33 rfl rfl ag) (State.wp_value (v := .bool false) (w' := W) ?_ (hI.same hloc hL _ _ (Cell.grown_refl _) (Draws.upd_at _ _ _)))
        simp only [execOp]
        first | (go_simp; done) | (cases b <;> go_simp)
      · obtain rfl := Option.some.inj ho
        have l3 := hd 3 (by simp [State.TrGaDep])
        have e3 := (hI.at_ 3 33 rfl l3).get
        have l13 := hd 13 (by simp [State.TrGaDep])
        have e13 := (hI.at_ 13 43 rfl l13).get
        rw [show val 3 = _ from hI.gd 3 l3] at e3
        rw [show val 13 = _ from hI.gd 13 l13] at e13
        refine Draws.wpOp_of (by rfl) rfl (State.wp_value (v := .bool false) (w' := W) ?_ (hI.same hloc hL _ _ (Cell.grown_refl _) (Draws.upd_at _ _ _)))
        simp only [execOp]
        go_simp
      · obtain rfl := Option.some.inj ho
        have l14 := hd 14 (by simp [State.TrGaDep])
        have e14 := (hI.at_ 14 44 rfl l14).get
        rw [show val 14 = _ from hI.gd 14 l14] at e14
        refine Draws.wpOp_of (by rfl) rfl (State.wp_value (v := .bool false) (w' := W) ?_ (hI.same hloc hL _ _ (Cell.grown_refl _) (Draws.upd_at _ _ _)))
        simp only [execOp]
        go_simp
      · obtain rfl := Option.some.inj ho
        have l15 := hd 15 (by simp [State.TrGaDep])
        have e15 := (hI.at_ 15 45 rfl l15).get
        rw [show val 15 = _ from hI.gd 15 l15] at e15
        have ag := hI.at_ 15 45 rfl l15
        rw [show val 15 = _ from hI.gd 15 l15] at ag
        have p6 := (hI.old 6 (by kernel_rfl) rfl).get
        refine Draws.wpOp_want (by rfl) (Draws.want_at 15 45 rfl rfl ag) (State.wp_value (v := .agg #[.int .i64 R, .slice (some ⟨v1, 0, none⟩) m d1, .slice (some ⟨v2, 0, none⟩) m d2, .slice (some ⟨v3, 0, none⟩) m d3, .slice (some ⟨v4, 0, none⟩) n2 d4]) (w' := W) ?_ (hI.same hloc hL _ _ (Cell.grown_refl _) (Draws.upd_at _ _ _)))
        simp only [execOp]
        go_simp
      · obtain rfl := Option.some.inj ho
        have l16 := hd 16 (by simp [State.TrGaDep])
        have e16 := (hI.at_ 16 46 rfl l16).get
        have l15 := hd 15 (by simp [State.TrGaDep])
        have e15 := (hI.at_ 15 45 rfl l15).get
        rw [show val 16 = _ from hI.gd 16 l16] at e16
        rw [show val 15 = _ from hI.gd 15 l15] at e15
        have ag := hI.at_ 15 45 rfl l15
        rw [show val 15 = _ from hI.gd 15 l15] at ag
        refine Draws.wpOp_want (by rfl) (Draws.want_at 15 45 rfl rfl ag) ?_
        unfold Oper.wp
        simp only [execOp]
        go_simp
        refine Calls.mono (P := Try.prog) (HMX.out W (State.OwnS.reads (hI.hd.nth 3 rfl))) ?_
        rintro e w1 ⟨rfl, hg⟩
        exact hI.same hloc hL _ (.int .i64 M) hg (Draws.upd_at _ _ _)
      · obtain rfl := Option.some.inj ho
        have l15 := hd 15 (by simp [State.TrGaDep])
        have e15 := (hI.at_ 15 45 rfl l15).get
        rw [show val 15 = _ from hI.gd 15 l15] at e15
        have ag := hI.at_ 15 45 rfl l15
        rw [show val 15 = _ from hI.gd 15 l15] at ag
        have p3 := (hI.old 3 (by kernel_rfl) rfl).get
        refine Draws.wpOp_want (by rfl) (Draws.want_at 15 45 rfl rfl ag) (State.wp_value (v := .agg #[.int .i64 R, .slice (some ⟨g1, 0, none⟩) n1 c1, .slice (some ⟨g2, 0, none⟩) n1 c2, .slice (some ⟨g3, 0, none⟩) n1 c3, .slice (some ⟨g4, 0, none⟩) n2 c4]) (w' := W) ?_ (hI.same hloc hL _ _ (Cell.grown_refl _) (Draws.upd_at _ _ _)))
        simp only [execOp]
        go_simp
      · obtain rfl := Option.some.inj ho
        have l18 := hd 18 (by simp [State.TrGaDep])
        have e18 := (hI.at_ 18 48 rfl l18).get
        have l15 := hd 15 (by simp [State.TrGaDep])
        have e15 := (hI.at_ 15 45 rfl l15).get
        rw [show val 18 = _ from hI.gd 18 l18] at e18
        rw [show val 15 = _ from hI.gd 15 l15] at e15
        have ag := hI.at_ 15 45 rfl l15
        rw [show val 15 = _ from hI.gd 15 l15] at ag
        refine Draws.wpOp_want (by rfl) (Draws.want_at 15 45 rfl rfl ag) ?_
        unfold Oper.wp
        simp only [execOp]
        go_simp
        refine Calls.mono (P := Try.prog) (HMS.out W (State.OwnS.reads (hI.hd.nth 0 rfl))) ?_
        rintro e w1 ⟨rfl, hg⟩
        exact hI.same hloc hL _ (.int .i64 M) hg (Draws.upd_at _ _ _)
      · obtain rfl := Option.some.inj ho
        have l17 := hd 17 (by simp [State.TrGaDep])
        have e17 := (hI.at_ 17 47 rfl l17).get
        have l19 := hd 19 (by simp [State.TrGaDep])
        have e19 := (hI.at_ 19 49 rfl l19).get
        have l15 := hd 15 (by simp [State.TrGaDep])
        have e15 := (hI.at_ 15 45 rfl l15).get
        rw [show val 17 = _ from hI.gd 17 l17] at e17
        rw [show val 19 = _ from hI.gd 19 l19] at e19
        rw [show val 15 = _ from hI.gd 15 l15] at e15
        have ag := hI.at_ 15 45 rfl l15
        rw [show val 15 = _ from hI.gd 15 l15] at ag
        refine Draws.wpOp_want (by rfl) (Draws.want_at 15 45 rfl rfl ag) (State.wp_value (v := .bool false) (w' := W) ?_ (hI.same hloc hL _ _ (Cell.grown_refl _) (Draws.upd_at _ _ _)))
        simp only [execOp]
        go_simp
      · obtain rfl := Option.some.inj ho
        have l15 := hd 15 (by simp [State.TrGaDep])
        have e15 := (hI.at_ 15 45 rfl l15).get
        have l20 := hd 20 (by simp [State.TrGaDep])
        have e20 := (hI.at_ 20 50 rfl l20).get
        rw [show val 15 = _ from hI.gd 15 l15] at e15
        rw [show val 20 = _ from hI.gd 20 l20] at e20
        refine Draws.wpOp_of (by rfl) rfl (State.wp_value (v := .bool false) (w' := W) ?_ (hI.same hloc hL _ _ (Cell.grown_refl _) (Draws.upd_at _ _ _)))
        simp only [execOp]
        go_simp
      · obtain rfl := Option.some.inj ho
        have l21 := hd 21 (by simp [State.TrGaDep])
        have e21 := (hI.at_ 21 51 rfl l21).get
        rw [show val 21 = _ from hI.gd 21 l21] at e21
        refine Draws.wpOp_of (by rfl) rfl (State.wp_value (v := .bool false) (w' := W) ?_ (hI.same hloc hL _ _ (Cell.grown_refl _) (Draws.upd_at _ _ _)))
        simp only [execOp]
        go_simp
      · obtain rfl := Option.some.inj ho
        have l22 := hd 22 (by simp [State.TrGaDep])
        have e22 := (hI.at_ 22 52 rfl l22).get
        rw [show val 22 = _ from hI.gd 22 l22] at e22
        have ag := hI.at_ 22 52 rfl l22
        rw [show val 22 = _ from hI.gd 22 l22] at ag
        have p6 := (hI.old 6 (by kernel_rfl) rfl).get
        refine Draws.wpOp_want (by rfl) (Draws.want_at 22 52 rfl rfl ag) (State.wp_value (v := .agg #[.int .i64 R, .slice (some ⟨v1, 0, none⟩) m d1, .slice (some ⟨v2, 0, none⟩) m d2, .slice (some ⟨v3, 0, none⟩) m d3, .slice (some ⟨v4, 0, none⟩) n2 d4]) (w' := W) ?_ (hI.same hloc hL _ _ (Cell.grown_refl _) (Draws.upd_at _ _ _)))
        simp only [execOp]
        go_simp
      · obtain rfl := Option.some.inj ho
        have l23 := hd 23 (by simp [State.TrGaDep])
        have e23 := (hI.at_ 23 53 rfl l23).get
        have l22 := hd 22 (by simp [State.TrGaDep])
        have e22 := (hI.at_ 22 52 rfl l22).get
        rw [show val 23 = _ from hI.gd 23 l23] at e23
        rw [show val 22 = _ from hI.gd 22 l22] at e22
        have ag := hI.at_ 22 52 rfl l22
        rw [show val 22 = _ from hI.gd 22 l22] at ag
        refine Draws.wpOp_want (by rfl) (Draws.want_at 22 52 rfl rfl ag) ?_
        unfold Oper.wp
        simp only [execOp]
        go_simp
        refine Calls.mono (P := Try.prog) (HTX.out W (State.OwnS.reads (hI.hd.nth 3 rfl))) ?_
        rintro e w1 ⟨rfl, hg⟩
        exact hI.same hloc hL _ (.int .i64 T) hg (Draws.upd_at _ _ _)
      · obtain rfl := Option.some.inj ho
        have l22 := hd 22 (by simp [State.TrGaDep])
        have e22 := (hI.at_ 22 52 rfl l22).get
        rw [show val 22 = _ from hI.gd 22 l22] at e22
        have ag := hI.at_ 22 52 rfl l22
        rw [show val 22 = _ from hI.gd 22 l22] at ag
        have p3 := (hI.old 3 (by kernel_rfl) rfl).get
        refine Draws.wpOp_want (by rfl) (Draws.want_at 22 52 rfl rfl ag) (State.wp_value (v := .agg #[.int .i64 R, .slice (some ⟨g1, 0, none⟩) n1 c1, .slice (some ⟨g2, 0, none⟩) n1 c2, .slice (some ⟨g3, 0, none⟩) n1 c3, .slice (some ⟨g4, 0, none⟩) n2 c4]) (w' := W) ?_ (hI.same hloc hL _ _ (Cell.grown_refl _) (Draws.upd_at _ _ _)))
        simp only [execOp]
        go_simp
      · obtain rfl := Option.some.inj ho
        have l25 := hd 25 (by simp [State.TrGaDep])
        have e25 := (hI.at_ 25 55 rfl l25).get
        have l22 := hd 22 (by simp [State.TrGaDep])
        have e22 := (hI.at_ 22 52 rfl l22).get
        rw [show val 25 = _ from hI.gd 25 l25] at e25
        rw [show val 22 = _ from hI.gd 22 l22] at e22
        have ag := hI.at_ 22 52 rfl l22
        rw [show val 22 = _ from hI.gd 22 l22] at ag
        refine Draws.wpOp_want (by rfl) (Draws.want_at 22 52 rfl rfl ag) ?_
        unfold Oper.wp
        simp only [execOp]
        go_simp
        refine Calls.mono (P := Try.prog) (HTS.out W (State.OwnS.reads (hI.hd.nth 0 rfl))) ?_
        rintro e w1 ⟨rfl, hg⟩
        exact hI.same hloc hL _ (.int .i64 T) hg (Draws.upd_at _ _ _)
      · obtain rfl := Option.some.inj ho
        have l24 := hd 24 (by simp [State.TrGaDep])
        have e24 := (hI.at_ 24 54 rfl l24).get
        have l26 := hd 26 (by simp [State.TrGaDep])
        have e26 := (hI.at_ 26 56 rfl l26).get
        have l22 := hd 22 (by simp [State.TrGaDep])
        have e22 := (hI.at_ 22 52 rfl l22).get
        rw [show val 24 = _ from hI.gd 24 l24] at e24
        rw [show val 26 = _ from hI.gd 26 l26] at e26
        rw [show val 22 = _ from hI.gd 22 l22] at e22
        have ag := hI.at_ 22 52 rfl l22
        rw [show val 22 = _ from hI.gd 22 l22] at ag
        refine Draws.wpOp_want (by rfl) (Draws.want_at 22 52 rfl rfl ag) (State.wp_value (v := .bool false) (w' := W) ?_ (hI.same hloc hL _ _ (Cell.grown_refl _) (Draws.upd_at _ _ _)))
        simp only [execOp]
        go_simp
      · obtain rfl := Option.some.inj ho
        have l22 := hd 22 (by simp [State.TrGaDep])
        have e22 := (hI.at_ 22 52 rfl l22).get
        have l27 := hd 27 (by simp [State.TrGaDep])
        have e27 := (hI.at_ 27 57 rfl l27).get
        rw [show val 22 = _ from hI.gd 22 l22] at e22
        rw [show val 27 = _ from hI.gd 27 l27] at e27
        refine Draws.wpOp_of (by rfl) rfl (State.wp_value (v := .bool false) (w' := W) ?_ (hI.same hloc hL _ _ (Cell.grown_refl _) (Draws.upd_at _ _ _)))
        simp only [execOp]
        go_simp
    case last =>
      intro L a_ W val G hI hall
      have v28 : val 28 = .bool false := hI.gd 28 (hall 28 (by simp))
      have HE5 := Lib.hid (show Law.Held w W [State.stateG (.slice (some ⟨g1, 0, none⟩) n1 c1) (.slice (some ⟨g2, 0, none⟩) n1 c2) (.slice (some ⟨g3, 0, none⟩) n1 c3) (.slice (some ⟨g4, 0, none⟩) n2 c4) n1 n1 n1 n2 xs ms ts bs, Law.boxG B3 29 #[.int .i64 R, .slice (some ⟨g1, 0, none⟩) n1 c1, .slice (some ⟨g2, 0, none⟩) n1 c2, .slice (some ⟨g3, 0, none⟩) n1 c3, .slice (some ⟨g4, 0, none⟩) n2 c4], State.placesG gp p0 p1 p2, State.stateG (.slice (some ⟨v1, 0, none⟩) m d1) (.slice (some ⟨v2, 0, none⟩) m d2) (.slice (some ⟨v3, 0, none⟩) m d3) (.slice (some ⟨v4, 0, none⟩) n2 d4) m m m n2 ys mr tr bs, Law.boxG B6 29 #[.int .i64 R, .slice (some ⟨v1, 0, none⟩) m d1, .slice (some ⟨v2, 0, none⟩) m d2, .slice (some ⟨v3, 0, none⟩) m d3, .slice (some ⟨v4, 0, none⟩) n2 d4]] from hI.hd)
      have ha := hI.frame (by kernel_rfl) hall
      refine hK _ _ ?_
      clear hK hI hall HE4 HOX HMX HTX HX hbv
      simp [Draws.frameOf, Draws.slotOf, Act.put, List.range, List.range.loop] at ha
      subst ha
      rw [v28]
      clear v28
      go_wp2_with fail
      go_loopw [8] (fun iv wr => ∃ j : Nat, (j : Int) ≤ m ∧ iv = .int .i64 j ∧ Hid (Law.Held w wr [State.stateG (.slice (some ⟨g1, 0, none⟩) n1 c1) (.slice (some ⟨g2, 0, none⟩) n1 c2) (.slice (some ⟨g3, 0, none⟩) n1 c3) (.slice (some ⟨g4, 0, none⟩) n2 c4) n1 n1 n1 n2 xs ms ts bs, Law.boxG B3 29 #[.int .i64 R, .slice (some ⟨g1, 0, none⟩) n1 c1, .slice (some ⟨g2, 0, none⟩) n1 c2, .slice (some ⟨g3, 0, none⟩) n1 c3, .slice (some ⟨g4, 0, none⟩) n2 c4], State.placesG gp p0 p1 p2, State.stateG (.slice (some ⟨v1, 0, none⟩) m d1) (.slice (some ⟨v2, 0, none⟩) m d2) (.slice (some ⟨v3, 0, none⟩) m d3) (.slice (some ⟨v4, 0, none⟩) n2 d4) m m m n2 ys mr tr bs, Law.boxG B6 29 #[.int .i64 R, .slice (some ⟨v1, 0, none⟩) m d1, .slice (some ⟨v2, 0, none⟩) m d2, .slice (some ⟨v3, 0, none⟩) m d3, .slice (some ⟨v4, 0, none⟩) n2 d4]])) (fun iv _ => m - (intOf iv).toNat)
      case atStart => exact ⟨0, by omega, rfl, HE5⟩
      case round =>
        clear HE5
        obtain ⟨j, hj, rfl, HE5⟩ := hrel
        obtain ⟨x0, x1, x2, x3, x4⟩ := Law.box5 (HE5.out.nth 4 rfl)
        by_cases hlt : (j : Int) < m
        · obtain ⟨hco, hcm, hct, hcb⟩ := State.co_ok (i := (j : Int)) HRO.out.1
          have hcf := fun u (h : State.RoomS u (some ⟨v1, 0, none⟩) (some ⟨v2, 0, none⟩) (some ⟨v3, 0, none⟩) (some ⟨v4, 0, none⟩) m m m n2 d1 d2 d3 d4 ys mr tr bs) => State.coState_is R v1 v2 v3 v4 m m m n2 d1 d2 d3 d4 ys mr tr bs j u h HMi.out HMi.out HMi.out H2.out
          have hmc := fun u (h : Mesh.Reads u (some ⟨v1, 0, none⟩) m ys) => Mesh.specMayCo_is R (j : Int) (some ⟨v1, 0, none⟩) m d1 ys u h HMi.out
          obtain ⟨cx, hcx⟩ : ∃ q, q = State.coX R ys mr tr bs (j : Int) := ⟨_, rfl⟩
          obtain ⟨cm, hcm_⟩ : ∃ q, q = State.coM R ys mr tr bs (j : Int) := ⟨_, rfl⟩
          obtain ⟨ct, hct_⟩ : ∃ q, q = State.coT R ys mr tr bs (j : Int) := ⟨_, rfl⟩
          obtain ⟨b2, hb2⟩ : ∃ q, q = State.coB R ys mr tr bs (j : Int) := ⟨_, rfl⟩
          obtain ⟨l, hl⟩ : ∃ q, q = cx.length := ⟨_, rfl⟩
          rw [← hcb, ← hb2] at hmc
          rw [← hcx, ← hcm_, ← hct_] at hco
          rw [← hcm_] at hcm
          rw [← hct_] at hct
          obtain ⟨l2, l3, m1, m2⟩ := State.ok_sizes hco
          rw [← hl] at l2 l3 m1 m2
          simp only [← hcx, ← hcm_, ← hct_, ← hb2, l2, l3, ← hl] at hcf
          have HCF := Lib.hid hcf
          have HMC := Lib.hid (show ∀ u, State.OwnS u 0 (.slice (some ⟨v1, 0, none⟩) m d1) (.slice (some ⟨v2, 0, none⟩) m d2) (.slice (some ⟨v3, 0, none⟩) m d3) (.slice (some ⟨v4, 0, none⟩) n2 d4) m m m n2 ys mr tr bs → Calls Try.prog 23 #[.agg #[.int .i64 R, .slice (some ⟨v1, 0, none⟩) m d1], .int .i64 (j : Int)] u fun e w' => e = .returned (.bool b2) ∧ u.grownBy w' none from fun u h => hmc u (State.OwnS.reads h).l)
          have HLi := Lib.hid (show l ≤ 1048576 by omega); have HL1 := Lib.hid m1
          have HCO := Lib.hid (And.intro hco (And.intro (hcm.trans HRO.out.2.1) (hct.trans HRO.out.2.2)))
          clear hco hcm hct hcb hcf hmc hcx hcm_ hct_ hb2 hl l2 l3 m1 m2
          go_upto_region 13 with (go_at_call 22; ((with_reducible refine (HCF.out _ (State.OwnS.room (HE5.out.nth 3 rfl))).mono ?_); rintro e w6 ⟨b1, f1, b2, f2, b3, f3, b4, f4, rfl, ho, hg⟩; have hown := State.Held.state HE5.out hg ho; obtain ⟨u1, u2, u3, u4, rfl, rfl, rfl, rfl⟩ := State.OwnS.addr (hown.nth 5 rfl) HL1.out HL1.out HL1.out HN2.out; have HE6 := Lib.hid hown; clear ho hg hown))
          clear x0 x1 x2 x3 x4 HE5 HCF
          have HE7 := Lib.hid (HE6.out.box 29 #[.int .i64 R, .slice (some ⟨u1, 0, none⟩) l f1, .slice (some ⟨u2, 0, none⟩) l f2, .slice (some ⟨u3, 0, none⟩) l f3, .slice (some ⟨u4, 0, none⟩) n2 f4]); clear HE6
          obtain ⟨B9, hB9⟩ : ∃ B, B = w6.heap.size := ⟨_, rfl⟩
          rw [← hB9] at HE7 ⊢
          clear hB9
          generalize w6.alloc (.cells #[.int .i64 R, .slice (some ⟨u1, 0, none⟩) l f1, .slice (some ⟨u2, 0, none⟩) l f2, .slice (some ⟨u3, 0, none⟩) l f3, .slice (some ⟨u4, 0, none⟩) n2 f4] 29) = W6 at *
          have HOY := Lib.hid (show ∀ u, State.ReadsS u (some ⟨u1, 0, none⟩) (some ⟨u2, 0, none⟩) (some ⟨u3, 0, none⟩) (some ⟨u4, 0, none⟩) l l l n2 cx cm ct bs → Calls Try.prog 19 #[.agg #[.int .i64 R, .slice (some ⟨u1, 0, none⟩) l f1, .slice (some ⟨u2, 0, none⟩) l f2, .slice (some ⟨u3, 0, none⟩) l f3, .slice (some ⟨u4, 0, none⟩) n2 f4]] u fun e w' => e = .returned (.bool true) ∧ u.grownBy w' none from fun u h => by
            have q := State.specStateOk_is R _ _ _ _ l l l n2 f1 f2 f3 f4 cx cm ct bs u h HLi.out HLi.out HLi.out H2.out
            rw [HCO.out.1] at q
            exact q)
          have HMY := Lib.hid (show ∀ u, State.ReadsS u (some ⟨u1, 0, none⟩) (some ⟨u2, 0, none⟩) (some ⟨u3, 0, none⟩) (some ⟨u4, 0, none⟩) l l l n2 cx cm ct bs → Calls Try.prog 20 #[.agg #[.int .i64 R, .slice (some ⟨u1, 0, none⟩) l f1, .slice (some ⟨u2, 0, none⟩) l f2, .slice (some ⟨u3, 0, none⟩) l f3, .slice (some ⟨u4, 0, none⟩) n2 f4]] u fun e w' => e = .returned (.int .i64 M) ∧ u.grownBy w' none from fun u h => by
            have q := State.specTotalMass_is R _ _ _ _ l l l n2 f1 f2 f3 f4 cx cm ct bs u h HLi.out HLi.out HLi.out H2.out
            rw [if_pos HCO.out.1, HCO.out.2.1] at q
            exact q)
          have HTY := Lib.hid (show ∀ u, State.ReadsS u (some ⟨u1, 0, none⟩) (some ⟨u2, 0, none⟩) (some ⟨u3, 0, none⟩) (some ⟨u4, 0, none⟩) l l l n2 cx cm ct bs → Calls Try.prog 21 #[.agg #[.int .i64 R, .slice (some ⟨u1, 0, none⟩) l f1, .slice (some ⟨u2, 0, none⟩) l f2, .slice (some ⟨u3, 0, none⟩) l f3, .slice (some ⟨u4, 0, none⟩) n2 f4]] u fun e w' => e = .returned (.int .i64 T) ∧ u.grownBy w' none from fun u h => by
            have q := State.specTotalTracer_is R _ _ _ _ l l l n2 f1 f2 f3 f4 cx cm ct bs u h HLi.out HLi.out HLi.out H2.out
            rw [if_pos HCO.out.1, HCO.out.2.2] at q
            exact q)
          rename_i K hK
          refine Draws.wp_region_tabG (w := w) rfl (by kernel_rfl) (by kernel_rfl) State.TrGbDep (by kernel_rfl) [State.stateG (.slice (some ⟨g1, 0, none⟩) n1 c1) (.slice (some ⟨g2, 0, none⟩) n1 c2) (.slice (some ⟨g3, 0, none⟩) n1 c3) (.slice (some ⟨g4, 0, none⟩) n2 c4) n1 n1 n1 n2 xs ms ts bs, Law.boxG B3 29 #[.int .i64 R, .slice (some ⟨g1, 0, none⟩) n1 c1, .slice (some ⟨g2, 0, none⟩) n1 c2, .slice (some ⟨g3, 0, none⟩) n1 c3, .slice (some ⟨g4, 0, none⟩) n2 c4], State.placesG gp p0 p1 p2, State.stateG (.slice (some ⟨v1, 0, none⟩) m d1) (.slice (some ⟨v2, 0, none⟩) m d2) (.slice (some ⟨v3, 0, none⟩) m d3) (.slice (some ⟨v4, 0, none⟩) n2 d4) m m m n2 ys mr tr bs, Law.boxG B6 29 #[.int .i64 R, .slice (some ⟨v1, 0, none⟩) m d1, .slice (some ⟨v2, 0, none⟩) m d2, .slice (some ⟨v3, 0, none⟩) m d3, .slice (some ⟨v4, 0, none⟩) n2 d4], State.stateG (.slice (some ⟨u1, 0, none⟩) l f1) (.slice (some ⟨u2, 0, none⟩) l f2) (.slice (some ⟨u3, 0, none⟩) l f3) (.slice (some ⟨u4, 0, none⟩) n2 f4) l l l n2 cx cm ct bs, Law.boxG B9 29 #[.int .i64 R, .slice (some ⟨u1, 0, none⟩) l f1, .slice (some ⟨u2, 0, none⟩) l f2, .slice (some ⟨u3, 0, none⟩) l f3, .slice (some ⟨u4, 0, none⟩) n2 f4]] [] (fun _ => Law.emptyG) (State.TrGb R g1 g2 g3 g4 n1 n2 c1 c2 c3 c4 j B3 B6 B9 v1 v2 v3 v4 m d1 d2 d3 d4 u1 u2 u3 u4 l f1 f2 f3 f4 M T b2) ?start ?step ?last
          case start => exact HE7.out.on (Mesh.gr_drew (Cell.grown_refl _))
          case step =>
            clear hK
            intro L a W val G i o hI ho hL hd
            have hi : i < 25 := by have := (Array.getElem?_eq_some_iff.1 ho).1; simpa using this
            have hloc := State.TrGb_local R g1 g2 g3 g4 n1 n2 c1 c2 c3 c4 j B3 B6 B9 v1 v2 v3 v4 m d1 d2 d3 d4 u1 u2 u3 u4 l f1 f2 f3 f4 M T b2
            obtain ⟨z0, z1, z2, z3, z4⟩ := Law.box5 (hI.hd.nth 1 rfl)
            obtain ⟨x0, x1, x2, x3, x4⟩ := Law.box5 (hI.hd.nth 4 rfl)
            obtain ⟨y0, y1, y2, y3, y4⟩ := Law.box5 (hI.hd.nth 6 rfl)
            rcases (show i = 0 ∨ i = 1 ∨ i = 2 ∨ i = 3 ∨ i = 4 ∨ i = 5 ∨ i = 6 ∨ i = 7 ∨ i = 8 ∨ i = 9 ∨ i = 10 ∨ i = 11 ∨ i = 12 ∨ i = 13 ∨ i = 14 ∨ i = 15 ∨ i = 16 ∨ i = 17 ∨ i = 18 ∨ i = 19 ∨ i = 20 ∨ i = 21 ∨ i = 22 ∨ i = 23 ∨ i = 24 by omega) with rfl | rfl | rfl | rfl | rfl | rfl | rfl | rfl | rfl | rfl | rfl | rfl | rfl | rfl | rfl | rfl | rfl | rfl | rfl | rfl | rfl | rfl | rfl | rfl | rfl
            · obtain rfl := Option.some.inj ho
              have p9 := (hI.old 9 (by kernel_rfl) rfl).get
              refine Draws.wpOp_of (by rfl) rfl (State.wp_value (v := .agg #[.int .i64 R, .slice (some ⟨u1, 0, none⟩) l f1, .slice (some ⟨u2, 0, none⟩) l f2, .slice (some ⟨u3, 0, none⟩) l f3, .slice (some ⟨u4, 0, none⟩) n2 f4]) (w' := W) ?_ (hI.same hloc hL _ _ (Cell.grown_refl _) (Draws.upd_at _ _ _)))
              simp only [execOp]
              go_simp
            · obtain rfl := Option.some.inj ho
              have l0 := hd 0 (by simp [State.TrGbDep])
              have e0 := (hI.at_ 0 72 rfl l0).get
              rw [show val 0 = _ from hI.gd 0 l0] at e0
              refine Draws.wpOp_of (by rfl) rfl ?_
              unfold Oper.wp
              simp only [execOp]
              go_simp
              refine Calls.mono (P := Try.prog) (HOY.out W (State.OwnS.reads (hI.hd.nth 5 rfl))) ?_
              rintro e w1 ⟨rfl, hg⟩
              exact hI.same hloc hL _ (.bool true) hg (Draws.upd_at _ _ _)
            · obtain rfl := Option.some.inj ho
              have l1 := hd 1 (by simp [State.TrGbDep])
              have e1 := (hI.at_ 1 73 rfl l1).get
              rw [show val 1 = _ from hI.gd 1 l1] at e1
              refine Draws.wpOp_of (by rfl) rfl (State.wp_value (v := .bool false) (w' := W) ?_ (hI.same hloc hL _ _ (Cell.grown_refl _) (Draws.upd_at _ _ _)))
              simp only [execOp]
              go_simp
            · obtain rfl := Option.some.inj ho
              have l2 := hd 2 (by simp [State.TrGbDep])
              have e2 := (hI.at_ 2 74 rfl l2).get
              rw [show val 2 = _ from hI.gd 2 l2] at e2
              refine Draws.wpOp_of (by rfl) rfl (State.wp_value (v := .bool false) (w' := W) ?_ (hI.same hloc hL _ _ (Cell.grown_refl _) (Draws.upd_at _ _ _)))
              simp only [execOp]
              go_simp
            · obtain rfl := Option.some.inj ho
              have l3 := hd 3 (by simp [State.TrGbDep])
              have e3 := (hI.at_ 3 75 rfl l3).get
              rw [show val 3 = _ from hI.gd 3 l3] at e3
              have ag := hI.at_ 3 75 rfl l3
              rw [show val 3 = _ from hI.gd 3 l3] at ag
              have p10 := (hI.old 10 (by kernel_rfl) rfl).get
              refine Draws.wpOp_want (by rfl) (Draws.want_at 3 75 rfl rfl ag) (State.wp_value (v := .bool b2) (w' := W) ?_ (hI.same hloc hL _ _ (Cell.grown_refl _) (Draws.upd_at _ _ _)))
              simp only [execOp]
              go_simp
            · obtain rfl := Option.some.inj ho
              have l3 := hd 3 (by simp [State.TrGbDep])
              have e3 := (hI.at_ 3 75 rfl l3).get
              rw [show val 3 = _ from hI.gd 3 l3] at e3
              have ag := hI.at_ 3 75 rfl l3
              rw [show val 3 = _ from hI.gd 3 l3] at ag
              have p6 := (hI.old 6 (by kernel_rfl) rfl).get
              refine Draws.wpOp_want (by rfl) (Draws.want_at 3 75 rfl rfl ag) (State.wp_value (v := .pointer (some ⟨B6, 0, none⟩)) (w' := W) ?_ (hI.same hloc hL _ _ (Cell.grown_refl _) (Draws.upd_at _ _ _)))
              simp only [execOp]
              go_simp
            · obtain rfl := Option.some.inj ho
              have l5 := hd 5 (by simp [State.TrGbDep])
              have e5 := (hI.at_ 5 77 rfl l5).get
              have l3 := hd 3 (by simp [State.TrGbDep])
              have e3 := (hI.at_ 3 75 rfl l3).get
              rw [show val 5 = _ from hI.gd 5 l5] at e5
              rw [show val 3 = _ from hI.gd 3 l3] at e3
              have ag := hI.at_ 3 75 rfl l3
              rw [show val 3 = _ from hI.gd 3 l3] at ag
              refine Draws.wpOp_want (by rfl) (Draws.want_at 3 75 rfl rfl ag) (State.wp_value (v := .agg #[.int .i64 R, .slice (some ⟨v1, 0, none⟩) m d1]) (w' := W) ?_ (hI.same hloc hL _ _ (Cell.grown_refl _) (Draws.upd_at _ _ _)))
              simp only [execOp]
              go_simp
            · obtain rfl := Option.some.inj ho
              have l3 := hd 3 (by simp [State.TrGbDep])
              have e3 := (hI.at_ 3 75 rfl l3).get
              rw [show val 3 = _ from hI.gd 3 l3] at e3
              have ag := hI.at_ 3 75 rfl l3
              rw [show val 3 = _ from hI.gd 3 l3] at ag
              have p8 := (hI.old 8 (by kernel_rfl) rfl).get
              refine Draws.wpOp_want (by rfl) (Draws.want_at 3 75 rfl rfl ag) (State.wp_value (v := .int .i64 (j : Int)) (w' := W) ?_ (hI.same hloc hL _ _ (Cell.grown_refl _) (Draws.upd_at _ _ _)))
              simp only [execOp]
              go_simp
            · obtain rfl := Option.some.inj ho
              have l6 := hd 6 (by simp [State.TrGbDep])
              have e6 := (hI.at_ 6 78 rfl l6).get
              have l7 := hd 7 (by simp [State.TrGbDep])
              have e7 := (hI.at_ 7 79 rfl l7).get
              have l3 := hd 3 (by simp [State.TrGbDep])
              have e3 := (hI.at_ 3 75 rfl l3).get
              rw [show val 6 = _ from hI.gd 6 l6] at e6
              rw [show val 7 = _ from hI.gd 7 l7] at e7
              rw [show val 3 = _ from hI.gd 3 l3] at e3
              have ag := hI.at_ 3 75 rfl l3
              rw [show val 3 = _ from hI.gd 3 l3] at ag
              refine Draws.wpOp_want (by rfl) (Draws.want_at 3 75 rfl rfl ag) ?_
              unfold Oper.wp
              simp only [execOp]
              go_simp
              refine Calls.mono (P := Try.prog) (HMC.out W (id (hI.hd.nth 3 rfl))) ?_
              rintro e w1 ⟨rfl, hg⟩
              exact hI.same hloc hL _ (.bool b2) hg (Draws.upd_at _ _ _)
            · obtain rfl := Option.some.inj ho
              have l4 := hd 4 (by simp [State.TrGbDep])
              have e4 := (hI.at_ 4 76 rfl l4).get
              have l8 := hd 8 (by simp [State.TrGbDep])
              have e8 := (hI.at_ 8 80 rfl l8).get
              have l3 := hd 3 (by simp [State.TrGbDep])
              have e3 := (hI.at_ 3 75 rfl l3).get
              rw [show val 4 = _ from hI.gd 4 l4] at e4
              rw [show val 8 = _ from hI.gd 8 l8] at e8
              rw [show val 3 = _ from hI.gd 3 l3] at e3
              have ag := hI.at_ 3 75 rfl l3
              rw [show val 3 = _ from hI.gd 3 l3] at ag
              refine Draws.wpOp_want (by rfl) (Draws.want_at 3 75 rfl rfl ag) (State.wp_value (v := .bool false) (w' := W) ?_ (hI.same hloc hL _ _ (Cell.grown_refl _) (Draws.upd_at _ _ _)))
              simp only [execOp]
              first | (go_simp; done) | (cases b2 <;> go_simp)
            · obtain rfl := Option.some.inj ho
              have l3 := hd 3 (by simp [State.TrGbDep])
              have e3 := (hI.at_ 3 75 rfl l3).get
              have l9 := hd 9 (by simp [State.TrGbDep])
              have e9 := (hI.at_ 9 81 rfl l9).get
              rw [show val 3 = _ from hI.gd 3 l3] at e3
              rw [show val 9 = _ from hI.gd 9 l9] at e9
              refine Draws.wpOp_of (by rfl) rfl (State.wp_value (v := .bool false) (w' := W) ?_ (hI.same hloc hL _ _ (Cell.grown_refl _) (Draws.upd_at _ _ _)))
              simp only [execOp]
              go_simp
            · obtain rfl := Option.some.inj ho
              have l10 := hd 10 (by simp [State.TrGbDep])
              have e10 := (hI.at_ 10 82 rfl l10).get
              rw [show val 10 = _ from hI.gd 10 l10] at e10
              refine Draws.wpOp_of (by rfl) rfl (State.wp_value (v := .bool false) (w' := W) ?_ (hI.same hloc hL _ _ (Cell.grown_refl _) (Draws.upd_at _ _ _)))
              simp only [execOp]
              go_simp
            · obtain rfl := Option.some.inj ho
              have l11 := hd 11 (by simp [State.TrGbDep])
              have e11 := (hI.at_ 11 83 rfl l11).get
              rw [show val 11 = _ from hI.gd 11 l11] at e11
              have ag := hI.at_ 11 83 rfl l11
              rw [show val 11 = _ from hI.gd 11 l11] at ag
              have p9 := (hI.old 9 (by kernel_rfl) rfl).get
              refine Draws.wpOp_want (by rfl) (Draws.want_at 11 83 rfl rfl ag) (State.wp_value (v := .agg #[.int .i64 R, .slice (some ⟨u1, 0, none⟩) l f1, .slice (some ⟨u2, 0, none⟩) l f2, .slice (some ⟨u3, 0, none⟩) l f3, .slice (some ⟨u4, 0, none⟩) n2 f4]) (w' := W) ?_ (hI.same hloc hL _ _ (Cell.grown_refl _) (Draws.upd_at _ _ _)))
              simp only [execOp]
              go_simp
            · obtain rfl := Option.some.inj ho
              have l12 := hd 12 (by simp [State.TrGbDep])
              have e12 := (hI.at_ 12 84 rfl l12).get
              have l11 := hd 11 (by simp [State.TrGbDep])
              have e11 := (hI.at_ 11 83 rfl l11).get
              rw [show val 12 = _ from hI.gd 12 l12] at e12
              rw [show val 11 = _ from hI.gd 11 l11] at e11
              have ag := hI.at_ 11 83 rfl l11
              rw [show val 11 = _ from hI.gd 11 l11] at ag
              refine Draws.wpOp_want (by rfl) (Draws.want_at 11 83 rfl rfl ag) ?_
              unfold Oper.wp
              simp only [execOp]
              go_simp
              refine Calls.mono (P := Try.prog) (HMY.out W (State.OwnS.reads (hI.hd.nth 5 rfl))) ?_
              rintro e w1 ⟨rfl, hg⟩
              exact hI.same hloc hL _ (.int .i64 M) hg (Draws.upd_at _ _ _)
            · obtain rfl := Option.some.inj ho
              have l11 := hd 11 (by simp [State.TrGbDep])
              have e11 := (hI.at_ 11 83 rfl l11).get
              rw [show val 11 = _ from hI.gd 11 l11] at e11
              have ag := hI.at_ 11 83 rfl l11
              rw [show val 11 = _ from hI.gd 11 l11] at ag
              have p3 := (hI.old 3 (by kernel_rfl) rfl).get
              refine Draws.wpOp_want (by rfl) (Draws.want_at 11 83 rfl rfl ag) (State.wp_value (v := .agg #[.int .i64 R, .slice (some ⟨g1, 0, none⟩) n1 c1, .slice (some ⟨g2, 0, none⟩) n1 c2, .slice (some ⟨g3, 0, none⟩) n1 c3, .slice (some ⟨g4, 0, none⟩) n2 c4]) (w' := W) ?_ (hI.same hloc hL _ _ (Cell.grown_refl _) (Draws.upd_at _ _ _)))
              simp only [execOp]
              go_simp
            · obtain rfl := Option.some.inj ho
              have l14 := hd 14 (by simp [State.TrGbDep])
              have e14 := (hI.at_ 14 86 rfl l14).get
              have l11 := hd 11 (by simp [State.TrGbDep])
              have e11 := (hI.at_ 11 83 rfl l11).get
              rw [show val 14 = _ from hI.gd 14 l14] at e14
              rw [show val 11 = _ from hI.gd 11 l11] at e11
              have ag := hI.at_ 11 83 rfl l11
              rw [show val 11 = _ from hI.gd 11 l11] at ag
              refine Draws.wpOp_want (by rfl) (Draws.want_at 11 83 rfl rfl ag) ?_
              unfold Oper.wp
              simp only [execOp]
              go_simp
              refine Calls.mono (P := Try.prog) (HMS.out W (State.OwnS.reads (hI.hd.nth 0 rfl))) ?_
              rintro e w1 ⟨rfl, hg⟩
              exact hI.same hloc hL _ (.int .i64 M) hg (Draws.upd_at _ _ _)
            · obtain rfl := Option.some.inj ho
              have l13 := hd 13 (by simp [State.TrGbDep])
              have e13 := (hI.at_ 13 85 rfl l13).get
              have l15 := hd 15 (by simp [State.TrGbDep])
              have e15 := (hI.at_ 15 87 rfl l15).get
              have l11 := hd 11 (by simp [State.TrGbDep])
              have e11 := (hI.at_ 11 83 rfl l11).get
              rw [show val 13 = _ from hI.gd 13 l13] at e13
              rw [show val 15 = _ from hI.gd 15 l15] at e15
              rw [show val 11 = _ from hI.gd 11 l11] at e11
              have ag := hI.at_ 11 83 rfl l11
              rw [show val 11 = _ from hI.gd 11 l11] at ag
              refine Draws.wpOp_want (by rfl) (Draws.want_at 11 83 rfl rfl ag) (State.wp_value (v := .bool false) (w' := W) ?_ (hI.same hloc hL _ _ (Cell.grown_refl _) (Draws.upd_at _ _ _)))
              simp only [execOp]
              go_simp
            · obtain rfl := Option.some.inj ho
              have l11 := hd 11 (by simp [State.TrGbDep])
              have e11 := (hI.at_ 11 83 rfl l11).get
              have l16 := hd 16 (by simp [State.TrGbDep])
              have e16 := (hI.at_ 16 88 rfl l16).get
              rw [show val 11 = _ from hI.gd 11 l11] at e11
              rw [show val 16 = _ from hI.gd 16 l16] at e16
              refine Draws.wpOp_of (by rfl) rfl (State.wp_value (v := .bool false) (w' := W) ?_ (hI.same hloc hL _ _ (Cell.grown_refl _) (Draws.upd_at _ _ _)))
              simp only [execOp]
              go_simp
            · obtain rfl := Option.some.inj ho
              have l17 := hd 17 (by simp [State.TrGbDep])
              have e17 := (hI.at_ 17 89 rfl l17).get
              rw [show val 17 = _ from hI.gd 17 l17] at e17
              refine Draws.wpOp_of (by rfl) rfl (State.wp_value (v := .bool false) (w' := W) ?_ (hI.same hloc hL _ _ (Cell.grown_refl _) (Draws.upd_at _ _ _)))
              simp only [execOp]
              go_simp
            · obtain rfl := Option.some.inj ho
              have l18 := hd 18 (by simp [State.TrGbDep])
              have e18 := (hI.at_ 18 90 rfl l18).get
              rw [show val 18 = _ from hI.gd 18 l18] at e18
              have ag := hI.at_ 18 90 rfl l18
              rw [show val 18 = _ from hI.gd 18 l18] at ag
              have p9 := (hI.old 9 (by kernel_rfl) rfl).get
              refine Draws.wpOp_want (by rfl) (Draws.want_at 18 90 rfl rfl ag) (State.wp_value (v := .agg #[.int .i64 R, .slice (some ⟨u1, 0, none⟩) l f1, .slice (some ⟨u2, 0, none⟩) l f2, .slice (some ⟨u3, 0, none⟩) l f3, .slice (some ⟨u4, 0, none⟩) n2 f4]) (w' := W) ?_ (hI.same hloc hL _ _ (Cell.grown_refl _) (Draws.upd_at _ _ _)))
              simp only [execOp]
              go_simp
            · obtain rfl := Option.some.inj ho
              have l19 := hd 19 (by simp [State.TrGbDep])
              have e19 := (hI.at_ 19 91 rfl l19).get
              have l18 := hd 18 (by simp [State.TrGbDep])
              have e18 := (hI.at_ 18 90 rfl l18).get
              rw [show val 19 = _ from hI.gd 19 l19] at e19
              rw [show val 18 = _ from hI.gd 18 l18] at e18
              have ag := hI.at_ 18 90 rfl l18
              rw [show val 18 = _ from hI.gd 18 l18] at ag
              refine Draws.wpOp_want (by rfl) (Draws.want_at 18 90 rfl rfl ag) ?_
              unfold Oper.wp
              simp only [execOp]
              go_simp
              refine Calls.mono (P := Try.prog) (HTY.out W (State.OwnS.reads (hI.hd.nth 5 rfl))) ?_
              rintro e w1 ⟨rfl, hg⟩
              exact hI.same hloc hL _ (.int .i64 T) hg (Draws.upd_at _ _ _)
            · obtain rfl := Option.some.inj ho
              have l18 := hd 18 (by simp [State.TrGbDep])
              have e18 := (hI.at_ 18 90 rfl l18).get
              rw [show val 18 = _ from hI.gd 18 l18] at e18
              have ag := hI.at_ 18 90 rfl l18
              rw [show val 18 = _ from hI.gd 18 l18] at ag
              have p3 := (hI.old 3 (by kernel_rfl) rfl).get
              refine Draws.wpOp_want (by rfl) (Draws.want_at 18 90 rfl rfl ag) (State.wp_value (v := .agg #[.int .i64 R, .slice (some ⟨g1, 0, none⟩) n1 c1, .slice (some ⟨g2, 0, none⟩) n1 c2, .slice (some ⟨g3, 0, none⟩) n1 c3, .slice (some ⟨g4, 0, none⟩) n2 c4]) (w' := W) ?_ (hI.same hloc hL _ _ (Cell.grown_refl _) (Draws.upd_at _ _ _)))
              simp only [execOp]
              go_simp
            · obtain rfl := Option.some.inj ho
              have l21 := hd 21 (by simp [State.TrGbDep])
              have e21 := (hI.at_ 21 93 rfl l21).get
              have l18 := hd 18 (by simp [State.TrGbDep])
              have e18 := (hI.at_ 18 90 rfl l18).get
              rw [show val 21 = _ from hI.gd 21 l21] at e21
              rw [show val 18 = _ from hI.gd 18 l18] at e18
              have ag := hI.at_ 18 90 rfl l18
              rw [show val 18 = _ from hI.gd 18 l18] at ag
              refine Draws.wpOp_want (by rfl) (Draws.want_at 18 90 rfl rfl ag) ?_
              unfold Oper.wp
              simp only [execOp]
              go_simp
              refine Calls.mono (P := Try.prog) (HTS.out W (State.OwnS.reads (hI.hd.nth 0 rfl))) ?_
              rintro e w1 ⟨rfl, hg⟩
              exact hI.same hloc hL _ (.int .i64 T) hg (Draws.upd_at _ _ _)
            · obtain rfl := Option.some.inj ho
              have l20 := hd 20 (by simp [State.TrGbDep])
              have e20 := (hI.at_ 20 92 rfl l20).get
              have l22 := hd 22 (by simp [State.TrGbDep])
              have e22 := (hI.at_ 22 94 rfl l22).get
              have l18 := hd 18 (by simp [State.TrGbDep])
              have e18 := (hI.at_ 18 90 rfl l18).get
              rw [show val 20 = _ from hI.gd 20 l20] at e20
              rw [show val 22 = _ from hI.gd 22 l22] at e22
              rw [show val 18 = _ from hI.gd 18 l18] at e18
              have ag := hI.at_ 18 90 rfl l18
              rw [show val 18 = _ from hI.gd 18 l18] at ag
              refine Draws.wpOp_want (by rfl) (Draws.want_at 18 90 rfl rfl ag) (State.wp_value (v := .bool false) (w' := W) ?_ (hI.same hloc hL _ _ (Cell.grown_refl _) (Draws.upd_at _ _ _)))
              simp only [execOp]
              go_simp
            · obtain rfl := Option.some.inj ho
              have l18 := hd 18 (by simp [State.TrGbDep])
              have e18 := (hI.at_ 18 90 rfl l18).get
              have l23 := hd 23 (by simp [State.TrGbDep])
              have e23 := (hI.at_ 23 95 rfl l23).get
              rw [show val 18 = _ from hI.gd 18 l18] at e18
              rw [show val 23 = _ from hI.gd 23 l23] at e23
              refine Draws.wpOp_of (by rfl) rfl (State.wp_value (v := .bool false) (w' := W) ?_ (hI.same hloc hL _ _ (Cell.grown_refl _) (Draws.upd_at _ _ _)))
              simp only [execOp]
              go_simp
          case last =>
            intro L a_ W val G hI hall
            have v24 : val 24 = .bool false := hI.gd 24 (hall 24 (by simp))
            have HE8 := Lib.hid (show Law.Held w W [State.stateG (.slice (some ⟨g1, 0, none⟩) n1 c1) (.slice (some ⟨g2, 0, none⟩) n1 c2) (.slice (some ⟨g3, 0, none⟩) n1 c3) (.slice (some ⟨g4, 0, none⟩) n2 c4) n1 n1 n1 n2 xs ms ts bs, Law.boxG B3 29 #[.int .i64 R, .slice (some ⟨g1, 0, none⟩) n1 c1, .slice (some ⟨g2, 0, none⟩) n1 c2, .slice (some ⟨g3, 0, none⟩) n1 c3, .slice (some ⟨g4, 0, none⟩) n2 c4], State.placesG gp p0 p1 p2, State.stateG (.slice (some ⟨v1, 0, none⟩) m d1) (.slice (some ⟨v2, 0, none⟩) m d2) (.slice (some ⟨v3, 0, none⟩) m d3) (.slice (some ⟨v4, 0, none⟩) n2 d4) m m m n2 ys mr tr bs, Law.boxG B6 29 #[.int .i64 R, .slice (some ⟨v1, 0, none⟩) m d1, .slice (some ⟨v2, 0, none⟩) m d2, .slice (some ⟨v3, 0, none⟩) m d3, .slice (some ⟨v4, 0, none⟩) n2 d4], State.stateG (.slice (some ⟨u1, 0, none⟩) l f1) (.slice (some ⟨u2, 0, none⟩) l f2) (.slice (some ⟨u3, 0, none⟩) l f3) (.slice (some ⟨u4, 0, none⟩) n2 f4) l l l n2 cx cm ct bs, Law.boxG B9 29 #[.int .i64 R, .slice (some ⟨u1, 0, none⟩) l f1, .slice (some ⟨u2, 0, none⟩) l f2, .slice (some ⟨u3, 0, none⟩) l f3, .slice (some ⟨u4, 0, none⟩) n2 f4]] from hI.hd)
            have ha := hI.frame (by kernel_rfl) hall
            refine hK _ _ ?_
            clear hK hI hall HE7 HOY HMY HTY HMC HCO
            simp [Draws.frameOf, Draws.slotOf, Act.put, List.range, List.range.loop] at ha
            subst ha
            rw [v24]
            clear v24
            have hjw : IntKind.i64.wrap ((j : Int) + 1) = (j : Int) + 1 := IntWalk.i64_in _ (by omega)
            go_wp2_with fail
            have HE9 := Lib.hid (State.Held.pick (gs' := [State.stateG (.slice (some ⟨g1, 0, none⟩) n1 c1) (.slice (some ⟨g2, 0, none⟩) n1 c2) (.slice (some ⟨g3, 0, none⟩) n1 c3) (.slice (some ⟨g4, 0, none⟩) n2 c4) n1 n1 n1 n2 xs ms ts bs, Law.boxG B3 29 #[.int .i64 R, .slice (some ⟨g1, 0, none⟩) n1 c1, .slice (some ⟨g2, 0, none⟩) n1 c2, .slice (some ⟨g3, 0, none⟩) n1 c3, .slice (some ⟨g4, 0, none⟩) n2 c4], State.placesG gp p0 p1 p2, State.stateG (.slice (some ⟨v1, 0, none⟩) m d1) (.slice (some ⟨v2, 0, none⟩) m d2) (.slice (some ⟨v3, 0, none⟩) m d3) (.slice (some ⟨v4, 0, none⟩) n2 d4) m m m n2 ys mr tr bs, Law.boxG B6 29 #[.int .i64 R, .slice (some ⟨v1, 0, none⟩) m d1, .slice (some ⟨v2, 0, none⟩) m d2, .slice (some ⟨v3, 0, none⟩) m d3, .slice (some ⟨v4, 0, none⟩) n2 d4]]) HE8.out (by exact .cons_cons _ (.cons_cons _ (.cons_cons _ (.cons_cons _ (.cons_cons _ (.cons _ (.cons _ .slnil))))))))
            exact ⟨⟨j + 1, by omega, by go_num, HE9⟩, by simp [intOf]; omega⟩
        · obtain rfl : m = j := by omega
          go_wp2_with fail
          go_ret
          exact ⟨rfl, Cell.grown_below HE5.out.gr (Nat.le_refl _)⟩

set_option maxRecDepth 100000 in
theorem lifted (os : Os) (started : os.Started) (H : Type) (enc : TypeId × Value → H) :
    ReturnsInHanded {} Try.checked os 3 .any (Rows.fnTransferredSpec.pre6 enc Try.prog Try.f3 Rows.fnTransferredRow.domain false) (Rows.fnTransferredSpec.post enc Try.prog Try.f3 false true false false) := by
  refine returnsInHanded_of_change (C := Try.checked) own started (by kernel_rfl) Try.func3
    (ChangeSpec.witness6 (enc := enc) (C := Try.checked) false ⟨#[], #[.slice none 0 0], []⟩ 8 (by kernel_rfl) (by kernel_rfl) (by kernel_rfl) (by kernel_rfl)) ?_
  intro W base args ds gs before hval0 hW hcnd _
  have hval : ∀ (j : Nat) t v, Try.f3.params[j]? = some t → args[j]? = some v → Value.okWide Try.prog W .any base t v := hval0
  have hW' := hW
  obtain ⟨p, q, hA0, hV, rfl, hfz, hnd⟩ := hW
  have hA : DataW.TrodAll enc Try.prog W 0 (fun _ => true) true Try.f3.params.toList args.toList ds p := hA0
  rw [Try.params3] at hA hval
  obtain ⟨v0, vs0, d0, ds0, p0, q0, hargs, rfl, rfl, h0, r0⟩ := trodAll_cons hA
  obtain ⟨rfl, rfl, rfl⟩ := trodAll_nil r0
  obtain rfl : args = #[v0] := by cases args; simp_all
  obtain ⟨rfl, rfl⟩ := trodVars_none hV
  obtain ⟨a0, len0, cap0, rfl⟩ := okWide_slice Try.underlying22 (hval 0 22 v0 rfl rfl)
  have k0 := h0
  have lt0 : ∀ x ∈ p0, x.block < W.heap.size := by obtain ⟨m, hm⟩ := k0; exact DataW.trod_lt m _ _ _ hm
  obtain ⟨z0, w0⟩ : ∃ zs, IsRow .u8 W a0 len0 cap0 zs := by
    obtain ⟨fuel, hf⟩ := h0
    rcases open_ints Try.underlying22 Try.underlying5 (by kernel_rfl) hf with ⟨hcs, _⟩ | ⟨x, l, c, zs, hcs, _, hl, hm, hz, _, hcell, hwz⟩
    · simp [Value.cells] at hcs
      obtain ⟨rfl, rfl, rfl⟩ := hcs
      exact ⟨[], .inl ⟨rfl, rfl, rfl, rfl⟩⟩
    · simp [Value.cells] at hcs
      obtain ⟨rfl, rfl, rfl⟩ := hcs
      exact ⟨zs, .inr ⟨_, rfl, hl, hm, by simpa using hz, hcell, hwz⟩⟩
  clear hA0 hval0
  refine (walk a0 len0 cap0 z0 W w0).mono fun e W' ⟨he, bel⟩ => ?_
  subst he
  exact ⟨_, rfl, _, _, _, [], _, [], hW', trodAll_mk1 (shut_bool Try.underlying4 _), (trodAll_cons_mk (Below.trod laidOut (by kernel_rfl) (of_decide_eq_true (by kernel_rfl)) k0 bel lt0) trodAll_mk0), rfl, bel.frame _, fun h => by cases h⟩

theorem over : Rows.fnTransferredRow.holds Try.pinned (OpenSpec.ofChange Rows.fnTransferredSpec) :=
  OpenClaim.holds_of_wide 3 Try.f3 rfl rfl rfl rfl rfl rfl rfl ⟨rfl, rfl, rfl, rfl, rfl⟩ rfl rfl rfl rfl rfl (by kernel_rfl) Try.func3 (by kernel_rfl)
    (of_decide_eq_true (by kernel_rfl)) (by unfold Func.isWrapper; first | (rw [if_pos (by decide +kernel)]; kernel_rfl) | (rw [if_neg (by decide +kernel)]; exact ⟨rfl, rfl⟩))
    (fun os started H enc _ => lifted os started H enc)

theorem proved : Rows.FnTransferredSaid := over
#print axioms proved
end Go.Proofs.Ytfoilfgiablleaa.fnTransferred
