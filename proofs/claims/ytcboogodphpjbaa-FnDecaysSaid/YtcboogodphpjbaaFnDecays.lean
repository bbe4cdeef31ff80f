/- Proved: for every slice of bytes the law FnDecays returns true: at a drawn state and a drawn rate from 1 to 1000 the program's DecayAll answers a valid state and a ledger that explain the changes of the totals, and the same masses; the program's DecayTicks of a drawn tracer, down to the program's StableAmount, is not negative; as many reductions, and not one fewer, lead to at most that amount; that amount is reduced by nothing, the next greater one is reduced.
   Conditions: none besides those that the given row prints. -/
import Derived.Test.YtcboogodphpjbaaRows
import Derived.WalkKit
import Derived.ProofKit
import Derived.OpenShut
import Derived.ShutString
import Derived.Test.YtcboogodphpjbaaStDecL
import Derived.Test.YtcboogodphpjbaaStDecI
import Derived.Test.YtcboogodphpjbaaStLedH
import Derived.ChangeOld
import Derived.Below
set_option maxRecDepth 100000
namespace Go.Proofs.Ytcboogodphpjbaa.fnDecays
open Go.ChangeShapes Go.WideShapes Go.ChangeAt Go.RowKit
open Go.ChangeMaps (open_string shut_string)
set_option linter.unusedVariables false

theorem own : ownKnob Try.prog.godebug = none := by kernel_rfl
theorem laidOut : laidOutB Try.prog = true := by kernel_rfl

def IsRow (k : IntKind) (w : World) (a : Option Addr) (len cap : Nat) (zs : List Int) : Prop :=
  (a = none ∧ len = 0 ∧ cap = 0 ∧ zs = []) ∨
  ∃ x, a = some x ∧ len ≤ cap ∧ cap ≤ maxLen ∧ zs.length = cap ∧ (∀ i, i < zs.length → w.cell? (x.add i) = some (.int k (zs.getD i 0))) ∧ ∀ n ∈ zs, (Lit.int k n).wf = true

set_option maxHeartbeats 32000000 in
theorem walk (a0 : Option Addr) (len0 cap0 : Nat) (z0 : List Int) (w : World) (w0 : IsRow .u8 w a0 len0 cap0 z0) :
    Calls Try.prog 3 #[.slice a0 len0 cap0] w fun e w' => e = .returned (.bool true) ∧ Below w.heap.size w w' := by
  have hb := Draw.bytes_of w0
  have HB := Lib.hid hb; clear hb
  clear w0
  by_cases hlen : 1048576 < len0
  · have hd : decide (1048576 < (len0 : Int)) = true := by simp; omega
    go_enter Try.func3, Try.ntmps3
    go_wp2_with fail
    refine Draw.big_any.mono ?_; rintro e w1 ⟨rfl, rfl⟩
    rw [hd]
    go_wp2_with fail
    go_ret
    exact ⟨rfl, Below.refl _ _⟩
  · have hd : decide (1048576 < (len0 : Int)) = false := by simp; omega
    have hlen' : len0 ≤ 1048576 := by omega
    have HLen := Lib.hid hlen'; clear hlen'
    go_enter Try.func3, Try.ntmps3
    go_wp2_with fail
    refine Draw.big_any.mono ?_; rintro e w1 ⟨rfl, rfl⟩
    rw [hd]
    clear hd hlen
    go_wp2_with fail
    refine (State.drawState_is HLen.out HB.out (Nat.le_refl _)).mono ?_
    rintro e w1 ⟨R, n1, n2, xs, ms, ts, bs, x1, c1, x2, c2, x3, c3, x4, c4, rfl, hd, ho, hg⟩
    obtain ⟨hn2, hn2', hR⟩ := hd.sizes
    have hn := hd.leaves
    obtain ⟨g1, c1', hv⟩ := Mesh.own_at1 ho.l (by omega)
    cases hv
    obtain ⟨g2, rfl, -, -⟩ := Ints.own_atI ho.m (by omega)
    obtain ⟨g3, rfl, -, -⟩ := Ints.own_atI ho.t (by omega)
    obtain ⟨g4, rfl, -, -⟩ := Ints.own_atI ho.b (by omega)
    have HE1 := Lib.hid ((State.Held.state (Law.Held.nil w) hg ho).box 29 #[.int .i64 R, .slice (some ⟨g1, 0, none⟩) n1 c1, .slice (some ⟨g2, 0, none⟩) n1 c2, .slice (some ⟨g3, 0, none⟩) n1 c3, .slice (some ⟨g4, 0, none⟩) n2 c4])
    have HD := Lib.hid hd
    have H1 := Lib.hid (show n1 ≤ 1048576 by omega); have H2 := Lib.hid (show n2 ≤ 1048576 by omega)
    have HN := Lib.hid hn
    have hn1 : 1 ≤ (n1 : Int) := by omega
    have hn1' : (n1 : Int) ≤ 128 := by omega
    have HBW := Lib.hid (HB.out.kept (fun b hb' => (hg.block b hb' (by simp))))
    have HSZ := Lib.hid hg.size
    clear ho hg hd hn hn2 hn2' hR HB
    go_upto_region 4 with fail
    obtain ⟨B3, hB3⟩ : ∃ B, B = w1.heap.size := ⟨_, rfl⟩
    rw [← hB3] at HE1 ⊢
    clear hB3
    have HBX := Lib.hid (HBW.out.kept (fun b hb' => (World.grownBy_alloc w1 (.cells #[.int .i64 R, .slice (some ⟨g1, 0, none⟩) n1 c1, .slice (some ⟨g2, 0, none⟩) n1 c2, .slice (some ⟨g3, 0, none⟩) n1 c3, .slice (some ⟨g4, 0, none⟩) n2 c4] 29) none).block b (by have := HSZ.out; omega) (by simp)))
    have HSX := Lib.hid (Nat.le_trans HSZ.out (World.grownBy_alloc w1 (.cells #[.int .i64 R, .slice (some ⟨g1, 0, none⟩) n1 c1, .slice (some ⟨g2, 0, none⟩) n1 c2, .slice (some ⟨g3, 0, none⟩) n1 c3, .slice (some ⟨g4, 0, none⟩) n2 c4] 29) none).size)
    clear HBW HSZ
    generalize w1.alloc (.cells #[.int .i64 R, .slice (some ⟨g1, 0, none⟩) n1 c1, .slice (some ⟨g2, 0, none⟩) n1 c2, .slice (some ⟨g3, 0, none⟩) n1 c3, .slice (some ⟨g4, 0, none⟩) n2 c4] 29) = W1 at *
    go_upto_region 5 with (go_at_call 9; ((with_reducible refine (State.places_new HLen.out HBX.out HSX.out).mono ?_); rintro e w2 ⟨gp, cp, p0, p1, p2, rfl, q0, q1, q2, hp, hlo, hg⟩; have HE2 := Lib.hid (HE1.out.add hg hp (fun b hb => by rw [List.mem_singleton.1 hb]; exact hlo)); clear hp hlo hg))
    clear HE1 HBX HSX HLen
    have hok := HD.out.ok
    obtain ⟨hMb, hTb⟩ := HD.out.sums
    obtain ⟨r, hr⟩ : ∃ r, r = 1 + p0 % 1000 := ⟨_, rfl⟩
    have hr1 : 1 ≤ r := by omega
    have hr2 : r ≤ 1000 := by omega
    have hm0 : p0.tmod 1000 = p0 % 1000 := Int.tmod_eq_emod_of_nonneg q0.1
    have hm1 : IntKind.i64.wrap (p0 % 1000) = p0 % 1000 := IntWalk.i64_in _ (by omega)
    have hm2 : IntKind.i64.wrap (1 + p0 % 1000) = r := by rw [IntWalk.i64_in _ (by omega), hr]
    obtain ⟨m0, hm⟩ : ∃ m0, m0 = p0 % 1000 := ⟨_, rfl⟩
    rw [← hm] at hm0 hm1 hm2
    clear hr hm
    obtain ⟨E, hE⟩ : ∃ E, E = 999 / r := ⟨_, rfl⟩
    have hS : State.stab r = E := by rw [State.stab, if_pos ⟨hr1, hr2⟩, hE]
    obtain ⟨k0, k1, k2, k3, k4, k5⟩ := State.stab_facts hr1 hr2
    have HTA := Lib.hid (show ∀ (t n N : Int) (f : Nat), t ≤ f → State.tk r E f t n = N → (n < N → E < t) ∧ (N ≤ n → t ≤ E) from fun t n N f hf e => by
      rw [hE] at e ⊢
      exact State.tk_at hr1 hr2 hf e)
    have HND := Lib.hid (show ∀ t : Int, E < t → ¬ State.decN r t = 0 from fun t h => State.stab_dec hr1 hr2 (by rw [← hE]; exact h))
    have HRB := Lib.hid (show State.rateB r = true from decide_eq_true ⟨by omega, hr2⟩)
    obtain ⟨N, hN⟩ : ∃ N, N = State.tk r E p1.toNat p1 0 := ⟨_, rfl⟩
    have hN0 : 0 ≤ N := by rw [hN, hE]; exact State.tk_ge hr1 hr2 _ _ _
    have HSA := Lib.hid (show ∀ u, Calls Try.prog 11 #[.int .i64 r] u fun e w' => e = .returned (.int .i64 E) ∧ u.grownBy w' none from fun u => by
      have q := State.stableAmount_is r u
      rw [hS] at q
      exact q)
    have HDT := Lib.hid (show ∀ u, Calls Try.prog 12 #[.int .i64 p1, .int .i64 r, .int .i64 E] u fun e w' => e = .returned (.int .i64 N) ∧ u.grownBy w' none from fun u => by
      have q := State.decayTicks_is p1 r (State.stab r) u
      rw [State.ticks_stab hr1 hr2 q1.1 (by omega), hS, ← hE, ← hN] at q
      exact q)
    have HN0 := Lib.hid hN.symm
    rw [← hE] at k0 k1 k2 k3 k4 k5
    have hw1 : IntKind.i64.wrap (E * r) = E * r := IntWalk.i64_in _ (by omega)
    have hq1 : (E * r).tdiv 1000 = 0 := by rw [Int.tdiv_eq_ediv_of_nonneg k2]; omega
    have hw2 : IntKind.i64.wrap (E + 1) = E + 1 := IntWalk.i64_in _ (by omega)
    have hw3 : IntKind.i64.wrap ((E + 1) * r) = (E + 1) * r := IntWalk.i64_in _ (by omega)
    have hq2 : ((E + 1) * r).tdiv 1000 = 1 := by rw [Int.tdiv_eq_ediv_of_nonneg (by omega)]; omega
    have HW := Lib.hid (And.intro hw1 (And.intro hq1 (And.intro hw2 (And.intro hw3 hq2))))
    clear hw1 hq1 hw2 hw3 hq2 k0 k1 k2 k3 k4 k5
    obtain ⟨hyo, hyt, m3a, m3b⟩ := State.dy_ok (r := r) hok
    obtain ⟨ty, hty⟩ : ∃ z, z = State.dyT R xs ms ts bs r := ⟨_, rfl⟩
    obtain ⟨m3, hm3⟩ : ∃ z, z = State.dyL R xs ms ts bs r := ⟨_, rfl⟩
    rw [← hty] at hyo
    rw [← hty, ← hm3] at hyt
    rw [← hm3] at m3a m3b
    have HDA := Lib.hid (show ∀ u, State.ReadsS u (some ⟨g1, 0, none⟩) (some ⟨g2, 0, none⟩) (some ⟨g3, 0, none⟩) (some ⟨g4, 0, none⟩) n1 n1 n1 n2 xs ms ts bs → Calls Try.prog 10 #[.agg #[.int .i64 R, .slice (some ⟨g1, 0, none⟩) n1 c1, .slice (some ⟨g2, 0, none⟩) n1 c2, .slice (some ⟨g3, 0, none⟩) n1 c3, .slice (some ⟨g4, 0, none⟩) n2 c4], .int .i64 r] u (State.GivesSL R n1 n1 n1 n2 xs ms ty bs 0 0 0 m3 u) from fun u h => by
      have q := State.decayAll_is R _ _ _ _ n1 n1 n1 n2 c1 c2 c3 c4 xs ms ts bs r u h H1.out H1.out H1.out H2.out
      rw [← hty, ← hm3] at q
      exact q)
    clear hty hm3 hE hS hN
    obtain ⟨U, hU⟩ : ∃ U, U = ms.sum := ⟨_, rfl⟩
    obtain ⟨Y, hY⟩ : ∃ Y, Y = ts.sum := ⟨_, rfl⟩
    obtain ⟨Z, hZ⟩ : ∃ Z, Z = ty.sum := ⟨_, rfl⟩
    rw [← hY, ← hZ] at hyt
    rw [← hU] at hMb
    rw [← hY] at hTb
    have w0 : ∀ z : Int, -20000000000000 ≤ z ∧ z ≤ 20000000000000 → IntKind.i64.wrap z = z := fun z hz => IntWalk.i64_in _ (by omega)
    have hold : State.holdB true true U U Y Z 0 0 0 m3 = true := by unfold State.holdB; rw [w0 (U + 0) (by omega), w0 (U + 0 - 0) (by omega), w0 (Y + 0) (by omega), w0 (Y + 0 - m3) (by omega)]; simp; omega
    have HL0 := Lib.hid (show ∀ u (s1 s2 s3 s4 : Option Addr) (j1 j2 j3 j4 : Nat), State.ReadsS u (some ⟨g1, 0, none⟩) (some ⟨g2, 0, none⟩) (some ⟨g3, 0, none⟩) (some ⟨g4, 0, none⟩) n1 n1 n1 n2 xs ms ts bs → State.ReadsS u s1 s2 s3 s4 n1 n1 n1 n2 xs ms ty bs → Calls Try.prog 13 #[.agg #[.int .i64 R, .slice (some ⟨g1, 0, none⟩) n1 c1, .slice (some ⟨g2, 0, none⟩) n1 c2, .slice (some ⟨g3, 0, none⟩) n1 c3, .slice (some ⟨g4, 0, none⟩) n2 c4], .agg #[.int .i64 R, .slice s1 n1 j1, .slice s2 n1 j2, .slice s3 n1 j3, .slice s4 n2 j4], .agg #[.int .i64 0, .int .i64 0, .int .i64 0, .int .i64 m3]] u fun e w' => e = .returned (.bool true) ∧ u.grownBy w' none from fun u s1 s2 s3 s4 j1 j2 j3 j4 h k => by
      have q := State.specLedgerHolds_is R R _ _ _ _ _ _ _ _ n1 n1 n1 n2 c1 c2 c3 c4 n1 n1 n1 n2 j1 j2 j3 j4 xs xs ms ts bs ms ty bs 0 0 0 m3 u h H1.out H1.out H1.out H2.out k H1.out H1.out H1.out H2.out
      rw [hok, hyo, if_pos rfl, if_pos rfl, if_pos rfl, ← hU, ← hY, ← hZ, hold] at q
      exact q)
    have HSI := Lib.hid (show ∀ u (a b : Option Addr) (c d : Nat), Ints.ReadsI u a n1 ms → Ints.ReadsI u b n1 ms → Calls Try.prog 14 #[.slice a n1 c, .slice b n1 d] u fun e w' => e = .returned (.bool true) ∧ u.grownBy w' none from fun u a b c d h h' => State.sameInts_is a b n1 c d ms u h h' H1.out)
    obtain ⟨p1a, p1b⟩ := q1
    clear hold w0 hU hY hZ hyt hMb hTb hok hyo m3a m3b q0 q2 HD HN
    obtain ⟨z0, z1, z2, z3, z4⟩ := Law.box5 (HE2.out.nth 1 rfl)
    obtain ⟨c4', c5', c6'⟩ := HE2.out.nth 2 rfl
    go_upto_region 7 with (go_at_call 10; ((with_reducible refine (HDA.out _ (State.OwnS.reads (HE2.out.nth 0 rfl))).mono ?_); rintro e w3 ⟨s1, j1, s2, j2, s3, j3, s4, j4, rfl, ho, hg⟩; have HE3 := Lib.hid (State.Held.state HE2.out hg ho); clear ho hg))
    clear z0 z1 z2 z3 z4 c4' c5' c6' HE2 HDA hm0 hm1 hm2
    have he := (HE3.out.box 29 #[.int .i64 R, .slice s1 n1 j1, .slice s2 n1 j2, .slice s3 n1 j3, .slice s4 n2 j4]).box 33 #[.int .i64 0, .int .i64 0, .int .i64 0, .int .i64 m3]
    simp only [World.size_alloc] at he
    have HE4 := Lib.hid he; clear he HE3
    obtain ⟨B6, hB6⟩ : ∃ B, B = w3.heap.size + 1 := ⟨_, rfl⟩
    rw [← hB6] at HE4 ⊢
    clear hB6
    obtain ⟨B5, hB5⟩ : ∃ B, B = w3.heap.size := ⟨_, rfl⟩
    rw [← hB5] at HE4 ⊢
    clear hB5
    generalize (w3.alloc (.cells #[.int .i64 R, .slice s1 n1 j1, .slice s2 n1 j2, .slice s3 n1 j3, .slice s4 n2 j4] 29)).alloc (.cells #[.int .i64 0, .int .i64 0, .int .i64 0, .int .i64 m3] 33) = W4 at *
    have HL := Lib.hid (fun u h k => HL0.out u s1 s2 s3 s4 j1 j2 j3 j4 h k)
    clear HL0
    go_upto_region 8 with (go_at_call 11; ((with_reducible refine (HSA.out _).mono ?_); rintro e w5 ⟨rfl, hg⟩; have HE5 := Lib.hid (HE4.out.on hg); clear hg))
    clear HE4 HSA
    obtain ⟨c4', c5', c6'⟩ := HE5.out.nth 2 rfl
    go_upto_region 9 with (go_at_call 12; ((with_reducible refine (HDT.out _).mono ?_); rintro e w6 ⟨rfl, hg⟩; have HE6 := Lib.hid (HE5.out.on hg); clear hg))
    clear c4' c5' c6' HE5 HDT
    obtain ⟨c4', c5', c6'⟩ := HE6.out.nth 2 rfl
    go_wp2_with fail
    clear c4' c5' c6'
    go_loopw [10, 11] (fun t i wr => ∃ (f : Nat) (T I : Int), t = .int .i64 T ∧ i = .int .i64 I ∧ 0 ≤ T ∧ T ≤ f ∧ T ≤ 9999 ∧ 0 ≤ I ∧ I ≤ N ∧ I + T ≤ 9999 ∧ Hid (State.tk r E f T I = N) ∧ Hid (Law.Held w wr [State.stateG (.slice (some ⟨g1, 0, none⟩) n1 c1) (.slice (some ⟨g2, 0, none⟩) n1 c2) (.slice (some ⟨g3, 0, none⟩) n1 c3) (.slice (some ⟨g4, 0, none⟩) n2 c4) n1 n1 n1 n2 xs ms ts bs, Law.boxG B3 29 #[.int .i64 R, .slice (some ⟨g1, 0, none⟩) n1 c1, .slice (some ⟨g2, 0, none⟩) n1 c2, .slice (some ⟨g3, 0, none⟩) n1 c3, .slice (some ⟨g4, 0, none⟩) n2 c4], State.placesG gp p0 p1 p2, State.stateG (.slice s1 n1 j1) (.slice s2 n1 j2) (.slice s3 n1 j3) (.slice s4 n2 j4) n1 n1 n1 n2 xs ms ty bs, Law.boxG B5 29 #[.int .i64 R, .slice s1 n1 j1, .slice s2 n1 j2, .slice s3 n1 j3, .slice s4 n2 j4], Law.boxG B6 33 #[.int .i64 0, .int .i64 0, .int .i64 0, .int .i64 m3]])) (fun t _ _ => (intOf t).toNat)
    case atStart => exact ⟨p1.toNat, p1, 0, rfl, rfl, p1a, by omega, p1b, by omega, hN0, by omega, HN0, HE6⟩
    case round =>
      clear HE6 HN0 p1a p1b
      obtain ⟨f, T, I, rfl, rfl, h0, h1, h2, h3, h4, h5, HK, HF⟩ := hrel
      obtain ⟨ha, hb⟩ := HTA.out T I N f h1 HK.out
      by_cases hlt : I < N
      · have hET := ha hlt
        have hnd := HND.out T hET
        obtain ⟨p0', p1', p2', p3'⟩ := State.dec_facts HRB.out h0
        have hf0 : 1 ≤ f := by
          have : ¬ f = 0 := fun e => by
            subst e
            have q := HK.out
            rw [State.tk] at q
            omega
          omega
        obtain ⟨g, rfl⟩ : ∃ g, f = g + 1 := ⟨f - 1, by omega⟩
        have HX := Lib.hid ((State.tk_next hET hnd g I).symm.trans HK.out)
        have e1 : IntKind.i64.wrap (T * r) = T * r := IntWalk.i64_in _ (by omega)
        have e2 : (T * r).tdiv 1000 = State.decN r T := Int.tdiv_eq_ediv_of_nonneg p0'
        generalize State.decN r T = D at *
        have e3 : IntKind.i64.wrap D = D := IntWalk.i64_in _ (by omega)
        have e4 : IntKind.i64.wrap (T - D) = T - D := IntWalk.i64_in _ (by omega)
        have e5 : IntKind.i64.wrap (I + 1) = I + 1 := IntWalk.i64_in _ (by omega)
        have hTE : ¬ T ≤ E := by omega
        clear HK p0' p1' ha hb
        go_wp2_with fail
        exact ⟨⟨g, T - D, I + 1, rfl, rfl, by omega, by omega, by omega, by omega, by omega, by omega, HX, HF⟩, by simp [intOf]; omega⟩
      · obtain rfl : I = N := by omega
        have hTE := hb (Int.le_refl _)
        obtain ⟨hw1, hq1, hw2, hw3, hq2⟩ := HW.out
        clear HK HTA HND HRB HW ha hb h0 h1 h2 h4 h5
        obtain ⟨z0, z1, z2, z3, z4⟩ := Law.box5 (HF.out.nth 1 rfl)
        obtain ⟨x0, x1, x2, x3, x4⟩ := Law.box5 (HF.out.nth 4 rfl)
        obtain ⟨y0, y1, y2, y3⟩ := Law.cells4 (HF.out.nth 5 rfl)
        go_wp2_with (first
          | (go_at_call 13; ((with_reducible refine (HL.out _ (State.OwnS.reads (HF.out.nth 0 rfl)) (State.OwnS.reads (HF.out.nth 3 rfl))).mono ?_); rintro e w7 ⟨rfl, hg⟩; have HE7 := Lib.hid (HF.out.on hg); obtain ⟨a0, a1, a2, a3, a4⟩ := Law.box5 (HE7.out.nth 1 rfl); obtain ⟨b0, b1, b2, b3, b4⟩ := Law.box5 (HE7.out.nth 4 rfl); clear hg))
          | (go_at_call 14; ((with_reducible refine (HSI.out _ _ _ _ _ (State.OwnS.reads (HE7.out.nth 3 rfl)).m (State.OwnS.reads (HE7.out.nth 0 rfl)).m).mono ?_); rintro e w8 ⟨rfl, hg⟩; have HE8 := Lib.hid (HE7.out.on hg); clear hg)))
        go_ret
        exact ⟨rfl, Cell.grown_below HE8.out.gr (Nat.le_refl _)⟩

set_option maxRecDepth 100000 in
theorem lifted (os : Os) (started : os.Started) (H : Type) (enc : TypeId × Value → H) :
    ReturnsInHanded {} Try.checked os 3 .any (Rows.fnDecaysSpec.pre6 enc Try.prog Try.f3 Rows.fnDecaysRow.domain false) (Rows.fnDecaysSpec.post enc Try.prog Try.f3 false true false false) := by
  refine returnsInHanded_of_change (C := Try.checked) own started (by kernel_rfl) Try.func3
    (ChangeSpec.witness6 (enc := enc) (C := Try.checked) false ⟨#[], #[.slice none 0 0], []⟩ 8 (by kernel_rfl) (by kernel_rfl) (by kernel_rfl) (by kernel_rfl)) ?_
  intro W base args ds gs before hval0 hW hcnd _
  have hval : ∀ (j : Nat) t v, Try.f3.params[j]? = some t → args[j]? = some v → Value.okWide Try.prog W .any base t v := hval0
  have hW' := hW
  obtain ⟨p, q, hA0, hV, rfl, hfz, hnd⟩ := hW
  have hA : DataW.TrodAll enc Try.prog W 0 (fun _ => true) true Try.f3.params.toList args.toList ds p := hA0
  rw [Try.params3] at hA hval
  obtain ⟨v0, vs0, d0, ds0, p0, q0, hargs, rfl, rfl, h0, r0⟩ := trodAll_cons hA
  obtain ⟨rfl, rfl, rfl⟩ := trodAll_nil r0
  obtain rfl : args = #[v0] := by cases args; simp_all
  obtain ⟨rfl, rfl⟩ := trodVars_none hV
  obtain ⟨a0, len0, cap0, rfl⟩ := okWide_slice Try.underlying22 (hval 0 22 v0 rfl rfl)
  have k0 := h0
  have lt0 : ∀ x ∈ p0, x.block < W.heap.size := by obtain ⟨m, hm⟩ := k0; exact DataW.trod_lt m _ _ _ hm
  obtain ⟨z0, w0⟩ : ∃ zs, IsRow .u8 W a0 len0 cap0 zs := by
    obtain ⟨fuel, hf⟩ := h0
    rcases open_ints Try.underlying22 Try.underlying5 (by kernel_rfl) hf with ⟨hcs, _⟩ | ⟨x, l, c, zs, hcs, _, hl, hm, hz, _, hcell, hwz⟩
    · simp [Value.cells] at hcs
      obtain ⟨rfl, rfl, rfl⟩ := hcs
      exact ⟨[], .inl ⟨rfl, rfl, rfl, rfl⟩⟩
    · simp [Value.cells] at hcs
      obtain ⟨rfl, rfl, rfl⟩ := hcs
      exact ⟨zs, .inr ⟨_, rfl, hl, hm, by simpa using hz, hcell, hwz⟩⟩
  clear hA0 hval0
  refine (walk a0 len0 cap0 z0 W w0).mono fun e W' ⟨he, bel⟩ => ?_
  subst he
  exact ⟨_, rfl, _, _, _, [], _, [], hW', trodAll_mk1 (shut_bool Try.underlying4 _), (trodAll_cons_mk (Below.trod laidOut (by kernel_rfl) (of_decide_eq_true (by kernel_rfl)) k0 bel lt0) trodAll_mk0), rfl, bel.frame _, fun h => by cases h⟩

theorem over : Rows.fnDecaysRow.holds Try.pinned (OpenSpec.ofChange Rows.fnDecaysSpec) :=
  OpenClaim.holds_of_wide 3 Try.f3 rfl rfl rfl rfl rfl rfl rfl ⟨rfl, rfl, rfl, rfl, rfl⟩ rfl rfl rfl rfl rfl (by kernel_rfl) Try.func3 (by kernel_rfl)
    (of_decide_eq_true (by kernel_rfl)) (by unfold Func.isWrapper; first | (rw [if_pos (by decide +kernel)]; kernel_rfl) | (rw [if_neg (by decide +kernel)]; exact ⟨rfl, rfl⟩))
    (fun os started H enc _ => lifted os started H enc)

theorem proved : Rows.FnDecaysSaid := over
#print axioms proved
end Go.Proofs.Ytcboogodphpjbaa.fnDecays
