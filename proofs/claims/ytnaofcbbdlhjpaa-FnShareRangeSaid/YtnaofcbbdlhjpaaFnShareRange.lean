/- Proved: for every slice of bytes the law FnShareRange returns true: the ticks from a drawn one (0 to 15) up to 19 leave a drawn state valid, make its greatest share no greater and its least share no less.
   Conditions: none besides those that the given row prints. -/
import Derived.Test.YtnaofcbbdlhjpaaRows
import Derived.WalkKit
import Derived.ProofKit
import Derived.OpenShut
import Derived.ShutString
import Derived.Test.YtnaofcbbdlhjpaaStStepL
import Derived.ChangeOld
import Derived.Below
set_option maxRecDepth 100000
namespace Go.Proofs.Ytnaofcbbdlhjpaa.fnShareRange
open Go.ChangeShapes Go.WideShapes Go.ChangeAt Go.RowKit
open Go.ChangeMaps (open_string shut_string)
set_option linter.unusedVariables false

theorem own : ownKnob Try.prog.godebug = none := by kernel_rfl
theorem laidOut : laidOutB Try.prog = true := by kernel_rfl

def IsRow (k : IntKind) (w : World) (a : Option Addr) (len cap : Nat) (zs : List Int) : Prop :=
  (a = none ∧ len = 0 ∧ cap = 0 ∧ zs = []) ∨
  ∃ x, a = some x ∧ len ≤ cap ∧ cap ≤ maxLen ∧ zs.length = cap ∧ (∀ i, i < zs.length → w.cell? (x.add i) = some (.int k (zs.getD i 0))) ∧ ∀ n ∈ zs, (Lit.int k n).wf = true

set_option maxHeartbeats 32000000 in
theorem walk (a0 : Option Addr) (len0 cap0 : Nat) (z0 : List Int) (w : World) (w0 : IsRow .u8 w a0 len0 cap0 z0) :
    Calls Try.prog 4 #[.slice a0 len0 cap0] w fun e w' => e = .returned (.bool true) ∧ Below w.heap.size w w' := by
  have hb := Draw.bytes_of w0
  have HB := Lib.hid hb; clear hb
  clear w0
  by_cases hlen : 1048576 < len0
  · have hd : decide (1048576 < (len0 : Int)) = true := by simp; omega
    go_enter Try.func4, Try.ntmps4
    go_wp2_with fail
    refine Draw.big_any.mono ?_; rintro e w1 ⟨rfl, rfl⟩
    rw [hd]
    go_wp2_with fail
    go_ret
    exact ⟨rfl, Below.refl _ _⟩
  · have hd : decide (1048576 < (len0 : Int)) = false := by simp; omega
    have hlen' : len0 ≤ 1048576 := by omega
    have HLen := Lib.hid hlen'; clear hlen'
    go_enter Try.func4, Try.ntmps4
    go_wp2_with fail
    refine Draw.big_any.mono ?_; rintro e w1 ⟨rfl, rfl⟩
    rw [hd]
    clear hd hlen
    go_wp2_with fail
    refine (State.drawState_is HLen.out HB.out (Nat.le_refl _)).mono ?_
    rintro e w1 ⟨R, n1, n2, xs, ms, ts, bs, x1, c1, x2, c2, x3, c3, x4, c4, rfl, hd, ho, hg⟩
    obtain ⟨hn2, hn2', hR⟩ := hd.sizes
    have hn := hd.leaves
    obtain ⟨g1, c1', hv⟩ := Mesh.own_at1 ho.l (by omega)
    cases hv
    obtain ⟨g2, rfl, -, -⟩ := Ints.own_atI ho.m (by omega)
    obtain ⟨g3, rfl, -, -⟩ := Ints.own_atI ho.t (by omega)
    obtain ⟨g4, rfl, -, -⟩ := Ints.own_atI ho.b (by omega)
    have HE1 := Lib.hid ((State.Held.state (Law.Held.nil w) hg ho).box 29 #[.int .i64 R, .slice (some ⟨g1, 0, none⟩) n1 c1, .slice (some ⟨g2, 0, none⟩) n1 c2, .slice (some ⟨g3, 0, none⟩) n1 c3, .slice (some ⟨g4, 0, none⟩) n2 c4])
    have HD := Lib.hid hd
    have H1 := Lib.hid (show n1 ≤ 1048576 by omega); have H2 := Lib.hid (show n2 ≤ 1048576 by omega)
    have HN := Lib.hid hn
    have hn1 : 1 ≤ (n1 : Int) := by omega
    have hn1' : (n1 : Int) ≤ 128 := by omega
    have HBW := Lib.hid (HB.out.kept (fun b hb' => (hg.block b hb' (by simp))))
    have HSZ := Lib.hid hg.size
    clear ho hg hd hn hn2 hn2' hR HB
    go_upto_region 4 with fail
    obtain ⟨B3, hB3⟩ : ∃ B, B = w1.heap.size := ⟨_, rfl⟩
    rw [← hB3] at HE1 ⊢
    clear hB3
    have HBX := Lib.hid (HBW.out.kept (fun b hb' => (World.grownBy_alloc w1 (.cells #[.int .i64 R, .slice (some ⟨g1, 0, none⟩) n1 c1, .slice (some ⟨g2, 0, none⟩) n1 c2, .slice (some ⟨g3, 0, none⟩) n1 c3, .slice (some ⟨g4, 0, none⟩) n2 c4] 29) none).block b (by have := HSZ.out; omega) (by simp)))
    have HSX := Lib.hid (Nat.le_trans HSZ.out (World.grownBy_alloc w1 (.cells #[.int .i64 R, .slice (some ⟨g1, 0, none⟩) n1 c1, .slice (some ⟨g2, 0, none⟩) n1 c2, .slice (some ⟨g3, 0, none⟩) n1 c3, .slice (some ⟨g4, 0, none⟩) n2 c4] 29) none).size)
    clear HBW HSZ
    generalize w1.alloc (.cells #[.int .i64 R, .slice (some ⟨g1, 0, none⟩) n1 c1, .slice (some ⟨g2, 0, none⟩) n1 c2, .slice (some ⟨g3, 0, none⟩) n1 c3, .slice (some ⟨g4, 0, none⟩) n2 c4] 29) = W1 at *
    go_upto_region 5 with (go_at_call 14; ((with_reducible refine (State.places_new HLen.out HBX.out HSX.out).mono ?_); rintro e w2 ⟨gp, cp, p0, p1, p2, rfl, q0, q1, q2, hp, hlo, hg⟩; have HE2 := Lib.hid (HE1.out.add hg hp (fun b hb => by rw [List.mem_singleton.1 hb]; exact hlo)); clear hp hlo hg))
    clear HE1 HBX HSX HLen
    obtain ⟨z0, z1, z2, z3, z4⟩ := Law.box5 (HE2.out.nth 1 rfl)
    obtain ⟨c4', c5, c6⟩ := HE2.out.nth 2 rfl
    have hl2 := HD.out.len
    have hl1 := HD.out.l1
    have hok := HD.out.ok
    obtain ⟨t0, ht0⟩ : ∃ t, t = p0 % 16 := ⟨_, rfl⟩
    have ht : (p0 : Int).tmod 16 = t0 := by rw [Int.tmod_eq_emod_of_nonneg q0.1, ht0]
    have htb : 0 ≤ t0 ∧ t0 ≤ 15 := by omega
    have hw : IntKind.i64.wrap t0 = t0 := IntWalk.i64_in _ (by omega)
    have HOK := Lib.hid hok
    clear hl1 hl2 hok HN HD q1 q2 ht0 z0 z1 z2 z3 z4 c4' c5 c6
    have HST := Lib.hid (show ∀ (k : Nat) u (b1 b2 b3 b4 : Option Addr) (d1 d2 d3 d4 : Nat), State.ReadsS u b1 b2 b3 b4 n1 n1 n1 n2 xs (State.ticks R xs bs (ms, ts) t0 k).1 (State.ticks R xs bs (ms, ts) t0 k).2 bs → Calls Try.prog 15 #[.agg #[.int .i64 R, .slice b1 n1 d1, .slice b2 n1 d2, .slice b3 n1 d3, .slice b4 n2 d4], .int .i64 (t0 + (k : Int))] u (State.GivesS R n1 n1 n1 n2 xs (State.ticks R xs bs (ms, ts) t0 (k + 1)).1 (State.ticks R xs bs (ms, ts) t0 (k + 1)).2 bs u) from fun k u b1 b2 b3 b4 d1 d2 d3 d4 h => State.stepState_is R (t0 + (k : Int)) b1 b2 b3 b4 n1 n1 n1 n2 d1 d2 d3 d4 xs _ _ bs u h H1.out H1.out H1.out H2.out)
    obtain ⟨z0, z1, z2, z3, z4⟩ := Law.box5 (HE2.out.nth 1 rfl)
    go_upto_region 6 with fail
    have HE3 := Lib.hid (HE2.out.box 29 #[.int .i64 R, .slice (some ⟨g1, 0, none⟩) n1 c1, .slice (some ⟨g2, 0, none⟩) n1 c2, .slice (some ⟨g3, 0, none⟩) n1 c3, .slice (some ⟨g4, 0, none⟩) n2 c4])
    clear z0 z1 z2 z3 z4 HE2
    obtain ⟨B5, hB5⟩ : ∃ B, B = w2.heap.size := ⟨_, rfl⟩
    rw [← hB5] at HE3 ⊢
    clear hB5
    generalize w2.alloc (.cells #[.int .i64 R, .slice (some ⟨g1, 0, none⟩) n1 c1, .slice (some ⟨g2, 0, none⟩) n1 c2, .slice (some ⟨g3, 0, none⟩) n1 c3, .slice (some ⟨g4, 0, none⟩) n2 c4] 29) = W3 at *
    obtain ⟨c4', c5, c6⟩ := HE3.out.nth 2 rfl
    go_wp2_with fail
    clear c4' c5 c6 ht hw
    have HE4 := Lib.hid HE3.out.addE
    have HR4 := Lib.hid (State.OwnS.reads (HE3.out.nth 0 rfl))
    clear HE3
    go_loopw [6] (fun i wr => ∃ k : Nat, t0 + (k : Int) ≤ 20 ∧ i = .int .i64 (t0 + (k : Int)) ∧ Hid (∃ b1 d1 b2 d2 b3 d3 b4 d4 G, Law.Held w wr [State.stateG (.slice (some ⟨g1, 0, none⟩) n1 c1) (.slice (some ⟨g2, 0, none⟩) n1 c2) (.slice (some ⟨g3, 0, none⟩) n1 c3) (.slice (some ⟨g4, 0, none⟩) n2 c4) n1 n1 n1 n2 xs ms ts bs, Law.boxG B3 29 #[.int .i64 R, .slice (some ⟨g1, 0, none⟩) n1 c1, .slice (some ⟨g2, 0, none⟩) n1 c2, .slice (some ⟨g3, 0, none⟩) n1 c3, .slice (some ⟨g4, 0, none⟩) n2 c4], State.placesG gp p0 p1 p2, Law.boxG B5 29 #[.int .i64 R, .slice b1 n1 d1, .slice b2 n1 d2, .slice b3 n1 d3, .slice b4 n2 d4], G] ∧ State.ReadsS wr b1 b2 b3 b4 n1 n1 n1 n2 xs (State.ticks R xs bs (ms, ts) t0 k).1 (State.ticks R xs bs (ms, ts) t0 k).2 bs ∧ (State.ReadsS wr b1 b2 b3 b4 n1 n1 n1 n2 xs (State.ticks R xs bs (ms, ts) t0 k).1 (State.ticks R xs bs (ms, ts) t0 k).2 bs → ∀ W', Law.Held w W' [State.stateG (.slice (some ⟨g1, 0, none⟩) n1 c1) (.slice (some ⟨g2, 0, none⟩) n1 c2) (.slice (some ⟨g3, 0, none⟩) n1 c3) (.slice (some ⟨g4, 0, none⟩) n2 c4) n1 n1 n1 n2 xs ms ts bs, Law.boxG B3 29 #[.int .i64 R, .slice (some ⟨g1, 0, none⟩) n1 c1, .slice (some ⟨g2, 0, none⟩) n1 c2, .slice (some ⟨g3, 0, none⟩) n1 c3, .slice (some ⟨g4, 0, none⟩) n2 c4], State.placesG gp p0 p1 p2, Law.boxG B5 29 #[.int .i64 R, .slice b1 n1 d1, .slice b2 n1 d2, .slice b3 n1 d3, .slice b4 n2 d4], G] → State.ReadsS W' b1 b2 b3 b4 n1 n1 n1 n2 xs (State.ticks R xs bs (ms, ts) t0 k).1 (State.ticks R xs bs (ms, ts) t0 k).2 bs))) (fun i _ => 20 - (intOf i).toNat)
    case atStart => exact ⟨0, by omega, by simp, Lib.hid ⟨_, c1, _, c2, _, c3, _, c4, Law.emptyG, HE4.out, HR4.out, fun _ W' h => State.OwnS.reads (h.nth 0 rfl)⟩⟩
    case round =>
      clear HE4 HR4
      obtain ⟨k, hk, rfl, HC⟩ := hrel
      obtain ⟨b1, d1, b2, d2, b3, d3, b4, d4, G, hh, hr, hrw⟩ := HC.out
      have HF := Lib.hid hh; have HR := Lib.hid hr; have HRX := Lib.hid (hrw hr)
      clear hh hr hrw HC
      obtain ⟨y0, y1, y2, y3, y4⟩ := Law.box5 (HF.out.nth 3 rfl)
      obtain ⟨f0, f1, f2, f3, f4⟩ := Law.free5 (HF.out.nth 3 rfl)
      by_cases hlt : t0 + (k : Int) < 20
      · go_wp2_with (go_at_call 15; ((with_reducible refine (HST.out k _ b1 b2 b3 b4 d1 d2 d3 d4 HR.out).mono ?_); rintro e w5 ⟨q1, e1, q2, e2, q3, e3, q4, e4, rfl, ho, hg⟩; have HF2 := Lib.hid (State.Held.state HF.out hg ho); obtain ⟨x0, x1, x2, x3, x4⟩ := Law.box5 (HF2.out.nth 3 rfl); obtain ⟨u0, u1, u2, u3, u4⟩ := Law.free5 (HF2.out.nth 3 rfl); clear ho hg))
        go_roundw
        case rel =>
          have he := HF2.out.put5 3 rfl (.int .i64 R) (.slice q1 n1 e1) (.slice q2 n1 e2) (.slice q3 n1 e3) (.slice q4 n2 e4)
          have he2 := State.Held.some he (.cons_cons _ (.cons_cons _ (.cons_cons _ (.cons_cons _ (.cons _ (.refl _))))))
          exact ⟨k + 1, by omega, by go_num, Lib.hid ⟨q1, e1, q2, e2, q3, e3, q4, e4, _, he2, State.OwnS.reads (he2.nth 4 rfl), fun _ W' h => State.OwnS.reads (h.nth 4 rfl)⟩⟩
        case measure => simp [intOf]; omega
      · have hrg := State.ticks_range HOK.out t0 k
        have hv : State.stOk R xs (State.ticks R xs bs (ms, ts) t0 k).1 (State.ticks R xs bs (ms, ts) t0 k).2 bs = true := (State.ticks_valid (p := (ms, ts)) t0 k).trans HOK.out
        obtain ⟨mr, tr, hres⟩ : ∃ mr tr, State.ticks R xs bs (ms, ts) t0 k = (mr, tr) := ⟨_, _, rfl⟩
        simp only [hres] at hrg hv HRX HR
        obtain ⟨A, hA⟩ : ∃ q, q = State.greatG R xs ms ts bs := ⟨_, rfl⟩
        obtain ⟨B, hB⟩ : ∃ q, q = State.leastG R xs ms ts bs := ⟨_, rfl⟩
        obtain ⟨C, hC⟩ : ∃ q, q = State.greatG R xs mr tr bs := ⟨_, rfl⟩
        obtain ⟨D, hD⟩ : ∃ q, q = State.leastG R xs mr tr bs := ⟨_, rfl⟩
        have HOKX := Lib.hid (show ∀ u , State.ReadsS u b1 b2 b3 b4 n1 n1 n1 n2 xs mr tr bs → Calls Try.prog 16 #[.agg #[.int .i64 R, .slice b1 n1 d1, .slice b2 n1 d2, .slice b3 n1 d3, .slice b4 n2 d4]] u fun e w' => e = .returned (.bool true) ∧ u.grownBy w' none from fun u h => by
          have q := State.specStateOk_is R _ _ _ _ n1 n1 n1 n2 d1 d2 d3 d4 xs mr tr bs u h H1.out H1.out H1.out H2.out
          rw [hv] at q
          exact q)
        have HGS := Lib.hid (show ∀ u , State.ReadsS u (some ⟨g1, 0, none⟩) (some ⟨g2, 0, none⟩) (some ⟨g3, 0, none⟩) (some ⟨g4, 0, none⟩) n1 n1 n1 n2 xs ms ts bs → Calls Try.prog 21 #[.agg #[.int .i64 R, .slice (some ⟨g1, 0, none⟩) n1 c1, .slice (some ⟨g2, 0, none⟩) n1 c2, .slice (some ⟨g3, 0, none⟩) n1 c3, .slice (some ⟨g4, 0, none⟩) n2 c4]] u fun e w' => e = .returned (.int .i64 A) ∧ u.grownBy w' none from fun u h => by
          have q := State.specGreatest_is R _ _ _ _ n1 n1 n1 n2 c1 c2 c3 c4 xs ms ts bs u h H1.out H1.out H1.out H2.out
          rw [← hA] at q
          exact q)
        have HLS := Lib.hid (show ∀ u , State.ReadsS u (some ⟨g1, 0, none⟩) (some ⟨g2, 0, none⟩) (some ⟨g3, 0, none⟩) (some ⟨g4, 0, none⟩) n1 n1 n1 n2 xs ms ts bs → Calls Try.prog 22 #[.agg #[.int .i64 R, .slice (some ⟨g1, 0, none⟩) n1 c1, .slice (some ⟨g2, 0, none⟩) n1 c2, .slice (some ⟨g3, 0, none⟩) n1 c3, .slice (some ⟨g4, 0, none⟩) n2 c4]] u fun e w' => e = .returned (.int .i64 B) ∧ u.grownBy w' none from fun u h => by
          have q := State.specLeast_is R _ _ _ _ n1 n1 n1 n2 c1 c2 c3 c4 xs ms ts bs u h H1.out H1.out H1.out H2.out
          rw [← hB] at q
          exact q)
        have HGX := Lib.hid (show ∀ u , State.ReadsS u b1 b2 b3 b4 n1 n1 n1 n2 xs mr tr bs → Calls Try.prog 21 #[.agg #[.int .i64 R, .slice b1 n1 d1, .slice b2 n1 d2, .slice b3 n1 d3, .slice b4 n2 d4]] u fun e w' => e = .returned (.int .i64 C) ∧ u.grownBy w' none from fun u h => by
          have q := State.specGreatest_is R _ _ _ _ n1 n1 n1 n2 d1 d2 d3 d4 xs mr tr bs u h H1.out H1.out H1.out H2.out
          rw [← hC] at q
          exact q)
        have HLX := Lib.hid (show ∀ u , State.ReadsS u b1 b2 b3 b4 n1 n1 n1 n2 xs mr tr bs → Calls Try.prog 22 #[.agg #[.int .i64 R, .slice b1 n1 d1, .slice b2 n1 d2, .slice b3 n1 d3, .slice b4 n2 d4]] u fun e w' => e = .returned (.int .i64 D) ∧ u.grownBy w' none from fun u h => by
          have q := State.specLeast_is R _ _ _ _ n1 n1 n1 n2 d1 d2 d3 d4 xs mr tr bs u h H1.out H1.out H1.out H2.out
          rw [← hD] at q
          exact q)
        obtain ⟨hr1, hr2⟩ := hrg
        rw [← hA, ← hC] at hr1
        rw [← hB, ← hD] at hr2
        clear hA hB hC hD hv hres HST HR f0 f1 f2 f3 f4
        go_upto_region 10 with fail
        clear y0 y1 y2 y3 y4
        rename_i K hK
        refine Draws.wp_region_tabG (w := w) rfl (by kernel_rfl) (by kernel_rfl) State.ShrRDep (by kernel_rfl) [State.stateG (.slice (some ⟨g1, 0, none⟩) n1 c1) (.slice (some ⟨g2, 0, none⟩) n1 c2) (.slice (some ⟨g3, 0, none⟩) n1 c3) (.slice (some ⟨g4, 0, none⟩) n2 c4) n1 n1 n1 n2 xs ms ts bs, Law.boxG B3 29 #[.int .i64 R, .slice (some ⟨g1, 0, none⟩) n1 c1, .slice (some ⟨g2, 0, none⟩) n1 c2, .slice (some ⟨g3, 0, none⟩) n1 c3, .slice (some ⟨g4, 0, none⟩) n2 c4], State.placesG gp p0 p1 p2, Law.boxG B5 29 #[.int .i64 R, .slice b1 n1 d1, .slice b2 n1 d2, .slice b3 n1 d3, .slice b4 n2 d4], G] [] (fun _ => Law.emptyG) (State.ShrR R g1 g2 g3 g4 n1 n2 c1 c2 c3 c4 B3 B5 b1 d1 b2 d2 b3 d3 b4 d4 A B C D) ?start ?step ?last
        case start => exact HF.out.on (Mesh.gr_drew (Cell.grown_refl _))
        case step =>
          clear hK
          intro L a W val G i o hI ho hL hd
          have hi : i < 17 := by have := (Array.getElem?_eq_some_iff.1 ho).1; simpa using this
          have hloc := State.ShrR_local R g1 g2 g3 g4 n1 n2 c1 c2 c3 c4 B3 B5 b1 d1 b2 d2 b3 d3 b4 d4 A B C D
          obtain ⟨z0, z1, z2, z3, z4⟩ := Law.box5 (hI.hd.nth 1 rfl)
          obtain ⟨y0, y1, y2, y3, y4⟩ := Law.box5 (hI.hd.nth 3 rfl)
          rcases (show i = 0 ∨ i = 1 ∨ i = 2 ∨ i = 3 ∨ i = 4 ∨ i = 5 ∨ i = 6 ∨ i = 7 ∨ i = 8 ∨ i = 9 ∨ i = 10 ∨ i = 11 ∨ i = 12 ∨ i = 13 ∨ i = 14 ∨ i = 15 ∨ i = 16 by omega) with rfl | rfl | rfl | rfl | rfl | rfl | rfl | rfl | rfl | rfl | rfl | rfl | rfl | rfl | rfl | rfl | rfl
          · obtain rfl := Option.some.inj ho
            have p5 := (hI.old 5 (by kernel_rfl) rfl).get
            refine Draws.wpOp_of (by rfl) rfl (State.wp_value (v := .agg #[.int .i64 R, .slice b1 n1 d1, .slice b2 n1 d2, .slice b3 n1 d3, .slice b4 n2 d4]) (w' := W) ?_ (hI.same hloc hL _ _ (Cell.grown_refl _) (Draws.upd_at _ _ _)))
            simp only [execOp]
            go_simp
          · obtain rfl := Option.some.inj ho
            have l0 := hd 0 (by simp [State.ShrRDep])
            have e0 := (hI.at_ 0 25 rfl l0).get
            rw [show val 0 = _ from hI.gd 0 l0] at e0
            refine Draws.wpOp_of (by rfl) rfl ?_
            unfold Oper.wp
            simp only [execOp]
            go_simp
            refine Calls.mono (P := Try.prog) (HOKX.out W (HRX.out W hI.hd)) ?_
            rintro e w1 ⟨rfl, hg⟩
            exact hI.same hloc hL _ (.bool true) hg (Draws.upd_at _ _ _)
          · obtain rfl := Option.some.inj ho
            have l1 := hd 1 (by simp [State.ShrRDep])
            have e1 := (hI.at_ 1 26 rfl l1).get
            rw [show val 1 = _ from hI.gd 1 l1] at e1
            refine Draws.wpOp_of (by rfl) rfl (State.wp_value (v := .bool true) (w' := W) ?_ (hI.same hloc hL _ _ (Cell.grown_refl _) (Draws.upd_at _ _ _)))
            simp only [execOp]
            go_simp
          · obtain rfl := Option.some.inj ho
            have l2 := hd 2 (by simp [State.ShrRDep])
            have e2 := (hI.at_ 2 27 rfl l2).get
            rw [show val 2 = _ from hI.gd 2 l2] at e2
            have ag := hI.at_ 2 27 rfl l2
            rw [show val 2 = _ from hI.gd 2 l2] at ag
            have p5 := (hI.old 5 (by kernel_rfl) rfl).get
            refine Draws.wpOp_want (by rfl) (Draws.want_at 2 27 rfl rfl ag) (State.wp_value (v := .agg #[.int .i64 R, .slice b1 n1 d1, .slice b2 n1 d2, .slice b3 n1 d3, .slice b4 n2 d4]) (w' := W) ?_ (hI.same hloc hL _ _ (Cell.grown_refl _) (Draws.upd_at _ _ _)))
            simp only [execOp]
            go_simp
          · obtain rfl := Option.some.inj ho
            have l3 := hd 3 (by simp [State.ShrRDep])
            have e3 := (hI.at_ 3 28 rfl l3).get
            have l2 := hd 2 (by simp [State.ShrRDep])
            have e2 := (hI.at_ 2 27 rfl l2).get
            rw [show val 3 = _ from hI.gd 3 l3] at e3
            rw [show val 2 = _ from hI.gd 2 l2] at e2
            have ag := hI.at_ 2 27 rfl l2
            rw [show val 2 = _ from hI.gd 2 l2] at ag
            refine Draws.wpOp_want (by rfl) (Draws.want_at 2 27 rfl rfl ag) ?_
            unfold Oper.wp
            simp only [execOp]
            go_simp
            refine Calls.mono (P := Try.prog) (HGX.out W (HRX.out W hI.hd)) ?_
            rintro e w1 ⟨rfl, hg⟩
            exact hI.same hloc hL _ (.int .i64 C) hg (Draws.upd_at _ _ _)
          · obtain rfl := Option.some.inj ho
            have l2 := hd 2 (by simp [State.ShrRDep])
            have e2 := (hI.at_ 2 27 rfl l2).get
            rw [show val 2 = _ from hI.gd 2 l2] at e2
            have ag := hI.at_ 2 27 rfl l2
            rw [show val 2 = _ from hI.gd 2 l2] at ag
            have p3 := (hI.old 3 (by kernel_rfl) rfl).get
            refine Draws.wpOp_want (by rfl) (Draws.want_at 2 27 rfl rfl ag) (State.wp_value (v := .agg #[.int .i64 R, .slice (some ⟨g1, 0, none⟩) n1 c1, .slice (some ⟨g2, 0, none⟩) n1 c2, .slice (some ⟨g3, 0, none⟩) n1 c3, .slice (some ⟨g4, 0, none⟩) n2 c4]) (w' := W) ?_ (hI.same hloc hL _ _ (Cell.grown_refl _) (Draws.upd_at _ _ _)))
            simp only [execOp]
            go_simp
          · obtain rfl := Option.some.inj ho
            have l5 := hd 5 (by simp [State.ShrRDep])
            have e5 := (hI.at_ 5 30 rfl l5).get
            have l2 := hd 2 (by simp [State.ShrRDep])
            have e2 := (hI.at_ 2 27 rfl l2).get
            rw [show val 5 = _ from hI.gd 5 l5] at e5
            rw [show val 2 = _ from hI.gd 2 l2] at e2
            have ag := hI.at_ 2 27 rfl l2
            rw [show val 2 = _ from hI.gd 2 l2] at ag
            refine Draws.wpOp_want (by rfl) (Draws.want_at 2 27 rfl rfl ag) ?_
            unfold Oper.wp
            simp only [execOp]
            go_simp
            refine Calls.mono (P := Try.prog) (HGS.out W (State.OwnS.reads (hI.hd.nth 0 rfl))) ?_
            rintro e w1 ⟨rfl, hg⟩
            exact hI.same hloc hL _ (.int .i64 A) hg (Draws.upd_at _ _ _)
          · obtain rfl := Option.some.inj ho
            have l4 := hd 4 (by simp [State.ShrRDep])
            have e4 := (hI.at_ 4 29 rfl l4).get
            have l6 := hd 6 (by simp [State.ShrRDep])
            have e6 := (hI.at_ 6 31 rfl l6).get
            have l2 := hd 2 (by simp [State.ShrRDep])
            have e2 := (hI.at_ 2 27 rfl l2).get
            rw [show val 4 = _ from hI.gd 4 l4] at e4
            rw [show val 6 = _ from hI.gd 6 l6] at e6
            rw [show val 2 = _ from hI.gd 2 l2] at e2
            have ag := hI.at_ 2 27 rfl l2
            rw [show val 2 = _ from hI.gd 2 l2] at ag
            refine Draws.wpOp_want (by rfl) (Draws.want_at 2 27 rfl rfl ag) (State.wp_value (v := .bool true) (w' := W) ?_ (hI.same hloc hL _ _ (Cell.grown_refl _) (Draws.upd_at _ _ _)))
            simp only [execOp]
            go_simp
            all_goals omega
          · obtain rfl := Option.some.inj ho
            have l2 := hd 2 (by simp [State.ShrRDep])
            have e2 := (hI.at_ 2 27 rfl l2).get
            have l7 := hd 7 (by simp [State.ShrRDep])
            have e7 := (hI.at_ 7 32 rfl l7).get
            rw [show val 2 = _ from hI.gd 2 l2] at e2
            rw [show val 7 = _ from hI.gd 7 l7] at e7
            refine Draws.wpOp_of (by rfl) rfl (State.wp_value (v := .bool true) (w' := W) ?_ (hI.same hloc hL _ _ (Cell.grown_refl _) (Draws.upd_at _ _ _)))
            simp only [execOp]
            go_simp
          · obtain rfl := Option.some.inj ho
            have l8 := hd 8 (by simp [State.ShrRDep])
            have e8 := (hI.at_ 8 33 rfl l8).get
            rw [show val 8 = _ from hI.gd 8 l8] at e8
            refine Draws.wpOp_of (by rfl) rfl (State.wp_value (v := .bool true) (w' := W) ?_ (hI.same hloc hL _ _ (Cell.grown_refl _) (Draws.upd_at _ _ _)))
            simp only [execOp]
            go_simp
          · obtain rfl := Option.some.inj ho
            have l9 := hd 9 (by simp [State.ShrRDep])
            have e9 := (hI.at_ 9 34 rfl l9).get
            rw [show val 9 = _ from hI.gd 9 l9] at e9
            have ag := hI.at_ 9 34 rfl l9
            rw [show val 9 = _ from hI.gd 9 l9] at ag
            have p5 := (hI.old 5 (by kernel_rfl) rfl).get
            refine Draws.wpOp_want (by rfl) (Draws.want_at 9 34 rfl rfl ag) (State.wp_value (v := .agg #[.int .i64 R, .slice b1 n1 d1, .slice b2 n1 d2, .slice b3 n1 d3, .slice b4 n2 d4]) (w' := W) ?_ (hI.same hloc hL _ _ (Cell.grown_refl _) (Draws.upd_at _ _ _)))
            simp only [execOp]
            go_simp
          · obtain rfl := Option.some.inj ho
            have l10 := hd 10 (by simp [State.ShrRDep])
            have e10 := (hI.at_ 10 35 rfl l10).get
            have l9 := hd 9 (by simp [State.ShrRDep])
            have e9 := (hI.at_ 9 34 rfl l9).get
            rw [show val 10 = _ from hI.gd 10 l10] at e10
            rw [show val 9 = _ from hI.gd 9 l9] at e9
            have ag := hI.at_ 9 34 rfl l9
            rw [show val 9 = _ from hI.gd 9 l9] at ag
            refine Draws.wpOp_want (by rfl) (Draws.want_at 9 34 rfl rfl ag) ?_
            unfold Oper.wp
            simp only [execOp]
            go_simp
            refine Calls.mono (P := Try.prog) (HLX.out W (HRX.out W hI.hd)) ?_
            rintro e w1 ⟨rfl, hg⟩
            exact hI.same hloc hL _ (.int .i64 D) hg (Draws.upd_at _ _ _)
          · obtain rfl := Option.some.inj ho
            have l9 := hd 9 (by simp [State.ShrRDep])
            have e9 := (hI.at_ 9 34 rfl l9).get
            rw [show val 9 = _ from hI.gd 9 l9] at e9
            have ag := hI.at_ 9 34 rfl l9
            rw [show val 9 = _ from hI.gd 9 l9] at ag
            have p3 := (hI.old 3 (by kernel_rfl) rfl).get
            refine Draws.wpOp_want (by rfl) (Draws.want_at 9 34 rfl rfl ag) (State.wp_value (v := .agg #[.int .i64 R, .slice (some ⟨g1, 0, none⟩) n1 c1, .slice (some ⟨g2, 0, none⟩) n1 c2, .slice (some ⟨g3, 0, none⟩) n1 c3, .slice (some ⟨g4, 0, none⟩) n2 c4]) (w' := W) ?_ (hI.same hloc hL _ _ (Cell.grown_refl _) (Draws.upd_at _ _ _)))
            simp only [execOp]
            go_simp
          · obtain rfl := Option.some.inj ho
            have l12 := hd 12 (by simp [State.ShrRDep])
            have e12 := (hI.at_ 12 37 rfl l12).get
            have l9 := hd 9 (by simp [State.ShrRDep])
            have e9 := (hI.at_ 9 34 rfl l9).get
            rw [show val 12 = _ from hI.gd 12 l12] at e12
            rw [show val 9 = _ from hI.gd 9 l9] at e9
            have ag := hI.at_ 9 34 rfl l9
            rw [show val 9 = _ from hI.gd 9 l9] at ag
            refine Draws.wpOp_want (by rfl) (Draws.want_at 9 34 rfl rfl ag) ?_
            unfold Oper.wp
            simp only [execOp]
            go_simp
            refine Calls.mono (P := Try.prog) (HLS.out W (State.OwnS.reads (hI.hd.nth 0 rfl))) ?_
            rintro e w1 ⟨rfl, hg⟩
            exact hI.same hloc hL _ (.int .i64 B) hg (Draws.upd_at _ _ _)
          · obtain rfl := Option.some.inj ho
            have l11 := hd 11 (by simp [State.ShrRDep])
            have e11 := (hI.at_ 11 36 rfl l11).get
            have l13 := hd 13 (by simp [State.ShrRDep])
            have e13 := (hI.at_ 13 38 rfl l13).get
            have l9 := hd 9 (by simp [State.ShrRDep])
            have e9 := (hI.at_ 9 34 rfl l9).get
            rw [show val 11 = _ from hI.gd 11 l11] at e11
            rw [show val 13 = _ from hI.gd 13 l13] at e13
            rw [show val 9 = _ from hI.gd 9 l9] at e9
            have ag := hI.at_ 9 34 rfl l9
            rw [show val 9 = _ from hI.gd 9 l9] at ag
            refine Draws.wpOp_want (by rfl) (Draws.want_at 9 34 rfl rfl ag) (State.wp_value (v := .bool true) (w' := W) ?_ (hI.same hloc hL _ _ (Cell.grown_refl _) (Draws.upd_at _ _ _)))
            simp only [execOp]
            go_simp
            all_goals omega
          · obtain rfl := Option.some.inj ho
            have l9 := hd 9 (by simp [State.ShrRDep])
            have e9 := (hI.at_ 9 34 rfl l9).get
            have l14 := hd 14 (by simp [State.ShrRDep])
            have e14 := (hI.at_ 14 39 rfl l14).get
            rw [show val 9 = _ from hI.gd 9 l9] at e9
            rw [show val 14 = _ from hI.gd 14 l14] at e14
            refine Draws.wpOp_of (by rfl) rfl (State.wp_value (v := .bool true) (w' := W) ?_ (hI.same hloc hL _ _ (Cell.grown_refl _) (Draws.upd_at _ _ _)))
            simp only [execOp]
            go_simp
          · obtain rfl := Option.some.inj ho
            have l15 := hd 15 (by simp [State.ShrRDep])
            have e15 := (hI.at_ 15 40 rfl l15).get
            rw [show val 15 = _ from hI.gd 15 l15] at e15
            refine Draws.wpOp_of (by rfl) rfl (State.wp_value (v := .bool true) (w' := W) ?_ (hI.same hloc hL _ _ (Cell.grown_refl _) (Draws.upd_at _ _ _)))
            simp only [execOp]
            go_simp
        case last =>
          intro L a W val G hI hall
          have vz : val 16 = .bool true := hI.gd 16 (hall 16 (by simp))
          have HG := Lib.hid hI.hd.gr
          have ha := hI.frame (by kernel_rfl) hall
          refine hK _ _ ?_
          clear hK hI hall HF HOKX HGS HLS HGX HLX HRX
          simp [Draws.frameOf, Draws.slotOf, Act.put, List.range, List.range.loop] at ha
          subst ha
          rw [vz]
          clear vz
          go_wp2_with fail
          go_ret
          exact ⟨rfl, Cell.grown_below HG.out (Nat.le_refl _)⟩

set_option maxRecDepth 100000 in
theorem lifted (os : Os) (started : os.Started) (H : Type) (enc : TypeId × Value → H) :
    ReturnsInHanded {} Try.checked os 4 .any (Rows.fnShareRangeSpec.pre6 enc Try.prog Try.f4 Rows.fnShareRangeRow.domain false) (Rows.fnShareRangeSpec.post enc Try.prog Try.f4 false true false false) := by
  refine returnsInHanded_of_change (C := Try.checked) own started (by kernel_rfl) Try.func4
    (ChangeSpec.witness6 (enc := enc) (C := Try.checked) false ⟨#[], #[.slice none 0 0], []⟩ 8 (by kernel_rfl) (by kernel_rfl) (by kernel_rfl) (by kernel_rfl)) ?_
  intro W base args ds gs before hval0 hW hcnd _
  have hval : ∀ (j : Nat) t v, Try.f4.params[j]? = some t → args[j]? = some v → Value.okWide Try.prog W .any base t v := hval0
  have hW' := hW
  obtain ⟨p, q, hA0, hV, rfl, hfz, hnd⟩ := hW
  have hA : DataW.TrodAll enc Try.prog W 0 (fun _ => true) true Try.f4.params.toList args.toList ds p := hA0
  rw [Try.params4] at hA hval
  obtain ⟨v0, vs0, d0, ds0, p0, q0, hargs, rfl, rfl, h0, r0⟩ := trodAll_cons hA
  obtain ⟨rfl, rfl, rfl⟩ := trodAll_nil r0
  obtain rfl : args = #[v0] := by cases args; simp_all
  obtain ⟨rfl, rfl⟩ := trodVars_none hV
  obtain ⟨a0, len0, cap0, rfl⟩ := okWide_slice Try.underlying22 (hval 0 22 v0 rfl rfl)
  have k0 := h0
  have lt0 : ∀ x ∈ p0, x.block < W.heap.size := by obtain ⟨m, hm⟩ := k0; exact DataW.trod_lt m _ _ _ hm
  obtain ⟨z0, w0⟩ : ∃ zs, IsRow .u8 W a0 len0 cap0 zs := by
    obtain ⟨fuel, hf⟩ := h0
    rcases open_ints Try.underlying22 Try.underlying5 (by kernel_rfl) hf with ⟨hcs, _⟩ | ⟨x, l, c, zs, hcs, _, hl, hm, hz, _, hcell, hwz⟩
    · simp [Value.cells] at hcs
      obtain ⟨rfl, rfl, rfl⟩ := hcs
      exact ⟨[], .inl ⟨rfl, rfl, rfl, rfl⟩⟩
    · simp [Value.cells] at hcs
      obtain ⟨rfl, rfl, rfl⟩ := hcs
      exact ⟨zs, .inr ⟨_, rfl, hl, hm, by simpa using hz, hcell, hwz⟩⟩
  clear hA0 hval0
  refine (walk a0 len0 cap0 z0 W w0).mono fun e W' ⟨he, bel⟩ => ?_
  subst he
  exact ⟨_, rfl, _, _, _, [], _, [], hW', trodAll_mk1 (shut_bool Try.underlying4 _), (trodAll_cons_mk (Below.trod laidOut (by kernel_rfl) (of_decide_eq_true (by kernel_rfl)) k0 bel lt0) trodAll_mk0), rfl, bel.frame _, fun h => by cases h⟩

theorem over : Rows.fnShareRangeRow.holds Try.pinned (OpenSpec.ofChange Rows.fnShareRangeSpec) :=
  OpenClaim.holds_of_wide 4 Try.f4 rfl rfl rfl rfl rfl rfl rfl ⟨rfl, rfl, rfl, rfl, rfl⟩ rfl rfl rfl rfl rfl (by kernel_rfl) Try.func4 (by kernel_rfl)
    (of_decide_eq_true (by kernel_rfl)) (by unfold Func.isWrapper; first | (rw [if_pos (by decide +kernel)]; kernel_rfl) | (rw [if_neg (by decide +kernel)]; exact ⟨rfl, rfl⟩))
    (fun os started H enc _ => lifted os started H enc)

theorem proved : Rows.FnShareRangeSaid := over
#print axioms proved
end Go.Proofs.Ytnaofcbbdlhjpaa.fnShareRange
