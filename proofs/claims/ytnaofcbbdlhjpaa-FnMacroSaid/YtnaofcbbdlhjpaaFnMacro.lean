/- Proved: for every slice of bytes the law FnMacro returns true: after a macro step of a drawn state each leaf's mass has changed by what flows through both its faces (FluxSum), and the macro step is the sixteen ticks 0 to 15, one after the other.
   Conditions: none besides those that the given row prints. -/
import Derived.Test.YtnaofcbbdlhjpaaRows
import Derived.WalkKit
import Derived.ProofKit
import Derived.OpenShut
import Derived.ShutString
import Derived.Test.YtnaofcbbdlhjpaaStStepL
import Derived.ChangeOld
import Derived.Below
set_option maxRecDepth 100000
namespace Go.Proofs.Ytnaofcbbdlhjpaa.fnMacro
open Go.ChangeShapes Go.WideShapes Go.ChangeAt Go.RowKit
open Go.ChangeMaps (open_string shut_string)
set_option linter.unusedVariables false

theorem own : ownKnob Try.prog.godebug = none := by kernel_rfl
theorem laidOut : laidOutB Try.prog = true := by kernel_rfl

def IsRow (k : IntKind) (w : World) (a : Option Addr) (len cap : Nat) (zs : List Int) : Prop :=
  (a = none ∧ len = 0 ∧ cap = 0 ∧ zs = []) ∨
  ∃ x, a = some x ∧ len ≤ cap ∧ cap ≤ maxLen ∧ zs.length = cap ∧ (∀ i, i < zs.length → w.cell? (x.add i) = some (.int k (zs.getD i 0))) ∧ ∀ n ∈ zs, (Lit.int k n).wf = true

set_option maxHeartbeats 32000000 in
theorem walk (a0 : Option Addr) (len0 cap0 : Nat) (z0 : List Int) (w : World) (w0 : IsRow .u8 w a0 len0 cap0 z0) :
    Calls Try.prog 5 #[.slice a0 len0 cap0] w fun e w' => e = .returned (.bool true) ∧ Below w.heap.size w w' := by
  have hb := Draw.bytes_of w0
  have HB := Lib.hid hb; clear hb
  clear w0
  by_cases hlen : 1048576 < len0
  · have hd : decide (1048576 < (len0 : Int)) = true := by simp; omega
    go_enter Try.func5, Try.ntmps5
    go_wp2_with fail
    refine Draw.big_any.mono ?_; rintro e w1 ⟨rfl, rfl⟩
    rw [hd]
    go_wp2_with fail
    go_ret
    exact ⟨rfl, Below.refl _ _⟩
  · have hd : decide (1048576 < (len0 : Int)) = false := by simp; omega
    have hlen' : len0 ≤ 1048576 := by omega
    have HLen := Lib.hid hlen'; clear hlen'
    go_enter Try.func5, Try.ntmps5
    go_wp2_with fail
    refine Draw.big_any.mono ?_; rintro e w1 ⟨rfl, rfl⟩
    rw [hd]
    clear hd hlen
    go_wp2_with fail
    refine (State.drawState_is HLen.out HB.out (Nat.le_refl _)).mono ?_
    rintro e w1 ⟨R, n1, n2, xs, ms, ts, bs, x1, c1, x2, c2, x3, c3, x4, c4, rfl, hd, ho, hg⟩
    obtain ⟨hn2, hn2', hR⟩ := hd.sizes
    have hn := hd.leaves
    obtain ⟨g1, c1', hv⟩ := Mesh.own_at1 ho.l (by omega)
    cases hv
    obtain ⟨g2, rfl, -, -⟩ := Ints.own_atI ho.m (by omega)
    obtain ⟨g3, rfl, -, -⟩ := Ints.own_atI ho.t (by omega)
    obtain ⟨g4, rfl, -, -⟩ := Ints.own_atI ho.b (by omega)
    have HE1 := Lib.hid ((State.Held.state (Law.Held.nil w) hg ho).box 29 #[.int .i64 R, .slice (some ⟨g1, 0, none⟩) n1 c1, .slice (some ⟨g2, 0, none⟩) n1 c2, .slice (some ⟨g3, 0, none⟩) n1 c3, .slice (some ⟨g4, 0, none⟩) n2 c4])
    have HD := Lib.hid hd
    have H1 := Lib.hid (show n1 ≤ 1048576 by omega); have H2 := Lib.hid (show n2 ≤ 1048576 by omega)
    have HN := Lib.hid hn
    have hn1 : 1 ≤ (n1 : Int) := by omega
    have hn1' : (n1 : Int) ≤ 128 := by omega
    have hok := hd.ok
    have hl1 := hd.l1
    have hl2 := hd.len
    clear ho hg hd hn hn2 hn2' hR HB HLen
    go_upto_region 4 with fail
    obtain ⟨B3, hB3⟩ : ∃ B, B = w1.heap.size := ⟨_, rfl⟩
    rw [← hB3] at HE1 ⊢
    clear hB3
    generalize w1.alloc (.cells #[.int .i64 R, .slice (some ⟨g1, 0, none⟩) n1 c1, .slice (some ⟨g2, 0, none⟩) n1 c2, .slice (some ⟨g3, 0, none⟩) n1 c3, .slice (some ⟨g4, 0, none⟩) n2 c4] 29) = W1 at *
    have HMS := Lib.hid (show ∀ u, State.ReadsS u (some ⟨g1, 0, none⟩) (some ⟨g2, 0, none⟩) (some ⟨g3, 0, none⟩) (some ⟨g4, 0, none⟩) n1 n1 n1 n2 xs ms ts bs → Calls Try.prog 23 #[.agg #[.int .i64 R, .slice (some ⟨g1, 0, none⟩) n1 c1, .slice (some ⟨g2, 0, none⟩) n1 c2, .slice (some ⟨g3, 0, none⟩) n1 c3, .slice (some ⟨g4, 0, none⟩) n2 c4]] u (State.GivesS R n1 n1 n1 n2 xs (State.ticks R xs bs (ms, ts) 0 16).1 (State.ticks R xs bs (ms, ts) 0 16).2 bs u) from fun u h => State.macroStep_is R _ _ _ _ n1 n1 n1 n2 c1 c2 c3 c4 xs ms ts bs u h H1.out H1.out H1.out H2.out)
    have HST := Lib.hid (show ∀ (k : Nat) u (b1 b2 b3 b4 : Option Addr) (d1 d2 d3 d4 : Nat), State.ReadsS u b1 b2 b3 b4 n1 n1 n1 n2 xs (State.ticks R xs bs (ms, ts) 0 k).1 (State.ticks R xs bs (ms, ts) 0 k).2 bs → Calls Try.prog 15 #[.agg #[.int .i64 R, .slice b1 n1 d1, .slice b2 n1 d2, .slice b3 n1 d3, .slice b4 n2 d4], .int .i64 (k : Int)] u (State.GivesS R n1 n1 n1 n2 xs (State.ticks R xs bs (ms, ts) 0 (k + 1)).1 (State.ticks R xs bs (ms, ts) 0 (k + 1)).2 bs u) from fun k u b1 b2 b3 b4 d1 d2 d3 d4 h => by
      rw [State.ticks_succ0]
      exact State.stepState_is R k b1 b2 b3 b4 n1 n1 n1 n2 d1 d2 d3 d4 xs _ _ bs u h H1.out H1.out H1.out H2.out)
    have HFS := Lib.hid (show ∀ (k : Nat), k + 1 < n1 → ∀ u, State.ReadsS u (some ⟨g1, 0, none⟩) (some ⟨g2, 0, none⟩) (some ⟨g3, 0, none⟩) (some ⟨g4, 0, none⟩) n1 n1 n1 n2 xs ms ts bs → Calls Try.prog 24 #[.agg #[.int .i64 R, .slice (some ⟨g1, 0, none⟩) n1 c1, .slice (some ⟨g2, 0, none⟩) n1 c2, .slice (some ⟨g3, 0, none⟩) n1 c3, .slice (some ⟨g4, 0, none⟩) n2 c4], .int .i64 (k : Int)] u fun e w' => e = .returned (.int .i64 (State.sumF R xs bs (ms, ts) k 16)) ∧ u.grownBy w' none from fun k hk u h => by
      have q := State.fluxSum_is R _ _ _ _ n1 n1 n1 n2 c1 c2 c3 c4 xs ms ts bs (k : Int) u h H1.out H1.out H1.out H2.out (by omega)
      rw [show State.fsumG R xs ms ts bs (k : Int) = State.sumF R xs bs (ms, ts) k 16 from if_pos ⟨hok, by omega, by omega⟩] at q
      exact q)
    have HEND := Lib.hid (show ∀ k, n1 ≤ k + 1 → State.sumF R xs bs (ms, ts) k 16 = 0 from fun k hk => by
      have hz : ∀ n, State.sumF R xs bs (ms, ts) k n = 0 := fun n => by
        induction n with
        | zero => rfl
        | succ n ih => rw [State.sumF, ih, State.flow_out (by omega)]; omega
      exact hz 16)
    have HMA := Lib.hid (show ∀ k, k < n1 → State.msAt (State.ticks R xs bs (ms, ts) 0 16).1 k = State.msAt ms k + State.prev (fun j => State.sumF R xs bs (ms, ts) j 16) k - State.sumF R xs bs (ms, ts) k 16 from fun k hk => State.macro_at hok (by omega) 16)
    have HSB := Lib.hid fun k => State.sumF_bounds hok k 16
    have HMB := Lib.hid fun k => (State.ms_small hok k).1
    have HSS := Lib.hid (show ∀ u (b1 b2 b3 b4 : Option Addr) (d1 d2 d3 d4 : Nat) (x1 x2 x3 x4 : Option Addr) (e1 e2 e3 e4 : Nat), State.ReadsS u x1 x2 x3 x4 n1 n1 n1 n2 xs (State.ticks R xs bs (ms, ts) 0 16).1 (State.ticks R xs bs (ms, ts) 0 16).2 bs → State.ReadsS u b1 b2 b3 b4 n1 n1 n1 n2 xs (State.ticks R xs bs (ms, ts) 0 16).1 (State.ticks R xs bs (ms, ts) 0 16).2 bs → Calls Try.prog 25 #[.agg #[.int .i64 R, .slice x1 n1 e1, .slice x2 n1 e2, .slice x3 n1 e3, .slice x4 n2 e4], .agg #[.int .i64 R, .slice b1 n1 d1, .slice b2 n1 d2, .slice b3 n1 d3, .slice b4 n2 d4]] u fun e w' => e = .returned (.bool true) ∧ u.grownBy w' none from fun u b1 b2 b3 b4 d1 d2 d3 d4 x1 x2 x3 x4 e1 e2 e3 e4 h h' => State.sameSt_is R x1 x2 x3 x4 b1 b2 b3 b4 n1 n1 n1 n2 e1 e2 e3 e4 d1 d2 d3 d4 xs _ _ bs u h h' H1.out H1.out H1.out H2.out)
    have HML := Lib.hid (And.intro hl2.1 (show (State.ticks R xs bs (ms, ts) 0 16).1.length = n1 from (State.ticks_lens (p := (ms, ts)) 0 16).1.trans hl2.1))
    clear hok hl1 hl2 HN HD
    obtain ⟨z0, z1, z2, z3, z4⟩ := Law.box5 (HE1.out.nth 1 rfl)
    go_upto_region 5 with (go_at_call 23; ((with_reducible refine (HMS.out _ (State.OwnS.reads (HE1.out.nth 0 rfl))).mono ?_); rintro e w2 ⟨x1, e1, x2, e2, x3, e3, x4, e4, rfl, ho, hg⟩; have HE2 := Lib.hid (State.Held.state HE1.out hg ho); clear ho hg))
    have HE3 := Lib.hid (HE2.out.box 29 #[.int .i64 R, .slice x1 n1 e1, .slice x2 n1 e2, .slice x3 n1 e3, .slice x4 n2 e4])
    clear z0 z1 z2 z3 z4 HE1 HE2 HMS
    obtain ⟨B4, hB4⟩ : ∃ B, B = w2.heap.size := ⟨_, rfl⟩
    rw [← hB4] at HE3 ⊢
    clear hB4
    generalize w2.alloc (.cells #[.int .i64 R, .slice x1 n1 e1, .slice x2 n1 e2, .slice x3 n1 e3, .slice x4 n2 e4] 29) = W3 at *
    obtain ⟨z0, z1, z2, z3, z4⟩ := Law.box5 (HE3.out.nth 1 rfl)
    obtain ⟨y0, y1, y2, y3, y4⟩ := Law.box5 (HE3.out.nth 3 rfl)
    go_upto_region 8 with fail
    have HE4 := Lib.hid (HE3.out.box 29 #[.int .i64 R, .slice (some ⟨g1, 0, none⟩) n1 c1, .slice (some ⟨g2, 0, none⟩) n1 c2, .slice (some ⟨g3, 0, none⟩) n1 c3, .slice (some ⟨g4, 0, none⟩) n2 c4])
    clear z0 z1 z2 z3 z4 y0 y1 y2 y3 y4 HE3
    obtain ⟨B5, hB5⟩ : ∃ B, B = W3.heap.size := ⟨_, rfl⟩
    rw [← hB5] at HE4 ⊢
    clear hB5
    generalize W3.alloc (.cells #[.int .i64 R, .slice (some ⟨g1, 0, none⟩) n1 c1, .slice (some ⟨g2, 0, none⟩) n1 c2, .slice (some ⟨g3, 0, none⟩) n1 c3, .slice (some ⟨g4, 0, none⟩) n2 c4] 29) = W4 at *
    have HE5 := Lib.hid HE4.out.addE
    have HR5 := Lib.hid (State.OwnS.reads (HE4.out.nth 0 rfl))
    clear HE4
    go_wp2_with fail
    go_loopw [6] (fun i wr => ∃ k : Nat, (k : Int) ≤ 16 ∧ i = .int .i64 k ∧ Hid (∃ b1 d1 b2 d2 b3 d3 b4 d4 G, Law.Held w wr [State.stateG (.slice (some ⟨g1, 0, none⟩) n1 c1) (.slice (some ⟨g2, 0, none⟩) n1 c2) (.slice (some ⟨g3, 0, none⟩) n1 c3) (.slice (some ⟨g4, 0, none⟩) n2 c4) n1 n1 n1 n2 xs ms ts bs, Law.boxG B3 29 #[.int .i64 R, .slice (some ⟨g1, 0, none⟩) n1 c1, .slice (some ⟨g2, 0, none⟩) n1 c2, .slice (some ⟨g3, 0, none⟩) n1 c3, .slice (some ⟨g4, 0, none⟩) n2 c4], State.stateG (.slice x1 n1 e1) (.slice x2 n1 e2) (.slice x3 n1 e3) (.slice x4 n2 e4) n1 n1 n1 n2 xs (State.ticks R xs bs (ms, ts) 0 16).1 (State.ticks R xs bs (ms, ts) 0 16).2 bs, Law.boxG B4 29 #[.int .i64 R, .slice x1 n1 e1, .slice x2 n1 e2, .slice x3 n1 e3, .slice x4 n2 e4], Law.boxG B5 29 #[.int .i64 R, .slice b1 n1 d1, .slice b2 n1 d2, .slice b3 n1 d3, .slice b4 n2 d4], G] ∧ State.ReadsS wr b1 b2 b3 b4 n1 n1 n1 n2 xs (State.ticks R xs bs (ms, ts) 0 k).1 (State.ticks R xs bs (ms, ts) 0 k).2 bs ∧ (∀ W', Law.Held w W' [State.stateG (.slice (some ⟨g1, 0, none⟩) n1 c1) (.slice (some ⟨g2, 0, none⟩) n1 c2) (.slice (some ⟨g3, 0, none⟩) n1 c3) (.slice (some ⟨g4, 0, none⟩) n2 c4) n1 n1 n1 n2 xs ms ts bs, Law.boxG B3 29 #[.int .i64 R, .slice (some ⟨g1, 0, none⟩) n1 c1, .slice (some ⟨g2, 0, none⟩) n1 c2, .slice (some ⟨g3, 0, none⟩) n1 c3, .slice (some ⟨g4, 0, none⟩) n2 c4], State.stateG (.slice x1 n1 e1) (.slice x2 n1 e2) (.slice x3 n1 e3) (.slice x4 n2 e4) n1 n1 n1 n2 xs (State.ticks R xs bs (ms, ts) 0 16).1 (State.ticks R xs bs (ms, ts) 0 16).2 bs, Law.boxG B4 29 #[.int .i64 R, .slice x1 n1 e1, .slice x2 n1 e2, .slice x3 n1 e3, .slice x4 n2 e4], Law.boxG B5 29 #[.int .i64 R, .slice b1 n1 d1, .slice b2 n1 d2, .slice b3 n1 d3, .slice b4 n2 d4], G] → State.ReadsS W' b1 b2 b3 b4 n1 n1 n1 n2 xs (State.ticks R xs bs (ms, ts) 0 k).1 (State.ticks R xs bs (ms, ts) 0 k).2 bs))) (fun i _ => 16 - (intOf i).toNat)
    case atStart => exact ⟨0, by omega, rfl, Lib.hid ⟨_, c1, _, c2, _, c3, _, c4, Law.emptyG, HE5.out, HR5.out, fun W' h => State.OwnS.reads (h.nth 0 rfl)⟩⟩
    case round =>
      clear HE5 HR5
      obtain ⟨k, hk, rfl, HC⟩ := hrel
      obtain ⟨b1, d1, b2, d2, b3, d3, b4, d4, G, hh, hr, hrw⟩ := HC.out
      have HF := Lib.hid hh; have HR := Lib.hid hr; have HRX := Lib.hid hrw
      clear hh hr hrw HC
      by_cases hlt : (k : Int) < 16
      · obtain ⟨y0, y1, y2, y3, y4⟩ := Law.box5 (HF.out.nth 4 rfl)
        obtain ⟨f0, f1, f2, f3, f4⟩ := Law.free5 (HF.out.nth 4 rfl)
        go_wp2_with (go_at_call 15; ((with_reducible refine (HST.out k _ b1 b2 b3 b4 d1 d2 d3 d4 HR.out).mono ?_); rintro e w5 ⟨q1, s1, q2, s2, q3, s3, q4, s4, rfl, ho, hg⟩; have HF2 := Lib.hid (State.Held.state HF.out hg ho); obtain ⟨t0, t1, t2, t3, t4⟩ := Law.box5 (HF2.out.nth 4 rfl); obtain ⟨u0, u1, u2, u3, u4⟩ := Law.free5 (HF2.out.nth 4 rfl); clear ho hg))
        go_roundw
        case rel =>
          have he := HF2.out.put5 4 rfl (.int .i64 R) (.slice q1 n1 s1) (.slice q2 n1 s2) (.slice q3 n1 s3) (.slice q4 n2 s4)
          have he2 := State.Held.some he (.cons_cons _ (.cons_cons _ (.cons_cons _ (.cons_cons _ (.cons_cons _ (.cons _ (.refl _)))))))
          exact ⟨k + 1, by omega, by go_num, Lib.hid ⟨q1, s1, q2, s2, q3, s3, q4, s4, _, he2, State.OwnS.reads (he2.nth 5 rfl), fun W' h => State.OwnS.reads (h.nth 5 rfl)⟩⟩
        case measure => simp [intOf]; omega
      · obtain rfl : k = 16 := by omega
        clear HR hk hlt HST
        go_wp2_with fail
        go_loopw [7, 8] (fun v i wx => ∃ (k : Nat) (last : Int), (k : Int) ≤ n1 ∧ i = .int .i64 k ∧ v = .int .i64 last ∧ Hid (last = State.prev (fun j => State.sumF R xs bs (ms, ts) j 16) k) ∧ Hid (Law.Held w wx [State.stateG (.slice (some ⟨g1, 0, none⟩) n1 c1) (.slice (some ⟨g2, 0, none⟩) n1 c2) (.slice (some ⟨g3, 0, none⟩) n1 c3) (.slice (some ⟨g4, 0, none⟩) n2 c4) n1 n1 n1 n2 xs ms ts bs, Law.boxG B3 29 #[.int .i64 R, .slice (some ⟨g1, 0, none⟩) n1 c1, .slice (some ⟨g2, 0, none⟩) n1 c2, .slice (some ⟨g3, 0, none⟩) n1 c3, .slice (some ⟨g4, 0, none⟩) n2 c4], State.stateG (.slice x1 n1 e1) (.slice x2 n1 e2) (.slice x3 n1 e3) (.slice x4 n2 e4) n1 n1 n1 n2 xs (State.ticks R xs bs (ms, ts) 0 16).1 (State.ticks R xs bs (ms, ts) 0 16).2 bs, Law.boxG B4 29 #[.int .i64 R, .slice x1 n1 e1, .slice x2 n1 e2, .slice x3 n1 e3, .slice x4 n2 e4], Law.boxG B5 29 #[.int .i64 R, .slice b1 n1 d1, .slice b2 n1 d2, .slice b3 n1 d3, .slice b4 n2 d4], G])) (fun _ i _ => n1 - (intOf i).toNat)
        case atStart => exact ⟨0, 0, by omega, rfl, rfl, Lib.hid rfl, HF⟩
        case round =>
          clear HF
          obtain ⟨k, last, hk, rfl, rfl, HLA, HF⟩ := hrel
          obtain ⟨z0, z1, z2, z3, z4⟩ := Law.box5 (HF.out.nth 1 rfl)
          obtain ⟨y0, y1, y2, y3, y4⟩ := Law.box5 (HF.out.nth 3 rfl)
          by_cases hlt : (k : Int) < n1
          · have HK := Lib.hid (show k < n1 by omega)
            obtain ⟨V, hV⟩ : ∃ V, State.sumF R xs bs (ms, ts) k 16 = V := ⟨_, rfl⟩
            have HV := Lib.hid (show V = State.prev (fun j => State.sumF R xs bs (ms, ts) j 16) (k + 1) from hV.symm)
            have vb := HSB.out k
            rw [hV] at vb
            have lb : -40000000 ≤ last ∧ last ≤ 40000000 := by
              have e := HLA.out
              cases k with
              | zero => rw [State.prev_nil] at e; omega
              | succ k => have e2 : last = State.sumF R xs bs (ms, ts) k 16 := e; have := HSB.out k; omega
            obtain ⟨mk, hmk⟩ : ∃ m, State.msAt ms k = m := ⟨_, rfl⟩
            have mb := HMB.out k
            rw [hmk] at mb
            have hma := HMA.out k HK.out
            rw [hmk, ← HLA.out, hV] at hma
            have HMS := Lib.hid (show ∀ u, Law.Held w u (Law.gsOf HF.out) → (∃ g o, x2 = some ⟨g, o, none⟩ ∧ u.cell? ⟨g, o + k, none⟩ = some (.int .i64 (mk + last - V))) ∧ u.cell? ⟨g2, 0 + k, none⟩ = some (.int .i64 mk) from fun u hu => by
              have hxk : (State.ticks R xs bs (ms, ts) 0 16).1[k]? = some (mk + last - V) := by
                have e : (State.ticks R xs bs (ms, ts) 0 16).1[k]? = some ((State.ticks R xs bs (ms, ts) 0 16).1[k]'(by rw [HML.out.2]; exact HK.out)) := List.getElem?_eq_getElem (by rw [HML.out.2]; exact HK.out)
                rw [e, ← hma]
                exact congrArg some (State.msAt_of e).symm
              have hsk : ms[k]? = some mk := by
                have e : ms[k]? = some (ms[k]'(by rw [HML.out.1]; exact HK.out)) := List.getElem?_eq_getElem (by rw [HML.out.1]; exact HK.out)
                rw [e, ← hmk]
                exact congrArg some (State.msAt_of e).symm
              refine ⟨(State.OwnS.reads (hu.nth 2 rfl)).m.at_ k _ hxk, ?_⟩
              obtain ⟨g, o, e, hc⟩ := (State.OwnS.reads (hu.nth 0 rfl)).m.at_ k _ hsk
              cases e
              exact hc)
            have e1 : IntKind.i64.wrap (mk + last) = mk + last := IntWalk.i64_in _ (by omega)
            have e2 : IntKind.i64.wrap (mk + last - V) = mk + last - V := IntWalk.i64_in _ (by omega)
            clear hma hmk HLA
            go_upto_if 43 with fail
            go_cut [9] from 31 to 62 (fun v wx => v = .int .i64 V ∧ Hid (Law.Held w wx (Law.gsOf HF.out)))
            case first =>
              by_cases hk1 : (k : Int) + 1 < n1
              · have HFK := Lib.hid (HFS.out k (by omega))
                rw [hV] at HFK
                clear hV
                go_wp2_with (go_at_call 24; ((with_reducible refine (HFK.out _ (State.OwnS.reads (HF.out.nth 0 rfl))).mono ?_); rintro e w6 ⟨rfl, hg⟩; have HF2 := Lib.hid (HF.out.on hg); clear hg))
                go_meet
                exact ⟨rfl, HF2⟩
              · obtain rfl : V = 0 := hV.symm.trans (HEND.out k (by omega))
                clear hV
                go_wp2_with fail
                go_meet
                exact ⟨rfl, HF⟩
            case rest =>
              obtain ⟨rfl, HF2⟩ := hcut
              dsimp only [Law.gsOf] at HF2
              obtain ⟨⟨gx, ox, rfl, hc1⟩, hc2⟩ := HMS.out _ HF2.out
              rw [Nat.zero_add] at hc2
              clear z0 z1 z2 z3 z4 y0 y1 y2 y3 y4 HF HMS hV
              obtain ⟨z0, z1, z2, z3, z4⟩ := Law.box5 (HF2.out.nth 1 rfl)
              obtain ⟨y0, y1, y2, y3, y4⟩ := Law.box5 (HF2.out.nth 3 rfl)
              go_upto_region 19 with fail
              go_quiet (fail)
              have HG := Lib.hid (HF2.out.on (Cell.g_drewN (Cell.grown_refl _) nq))
              go_wp2_with fail
              go_roundw
              case rel => exact ⟨k + 1, V, by omega, by go_num, rfl, HV, HG⟩
              case measure => simp [intOf]; omega
          · obtain rfl : k = n1 := by omega
            obtain ⟨s0, s1, s2, s3, s4⟩ := Law.box5 (HF.out.nth 4 rfl)
            go_wp2_with (go_at_call 25; ((with_reducible refine (HSS.out _ b1 b2 b3 b4 d1 d2 d3 d4 x1 x2 x3 x4 e1 e2 e3 e4 (State.OwnS.reads (HF.out.nth 2 rfl)) (HRX.out _ HF.out)).mono ?_); rintro e w8 ⟨rfl, hg⟩; have HF8 := Lib.hid (HF.out.on hg); clear hg))
            go_ret
            exact ⟨rfl, Cell.grown_below HF8.out.gr (Nat.le_refl _)⟩

set_option maxRecDepth 100000 in
theorem lifted (os : Os) (started : os.Started) (H : Type) (enc : TypeId × Value → H) :
    ReturnsInHanded {} Try.checked os 5 .any (Rows.fnMacroSpec.pre6 enc Try.prog Try.f5 Rows.fnMacroRow.domain false) (Rows.fnMacroSpec.post enc Try.prog Try.f5 false true false false) := by
  refine returnsInHanded_of_change (C := Try.checked) own started (by kernel_rfl) Try.func5
    (ChangeSpec.witness6 (enc := enc) (C := Try.checked) false ⟨#[], #[.slice none 0 0], []⟩ 8 (by kernel_rfl) (by kernel_rfl) (by kernel_rfl) (by kernel_rfl)) ?_
  intro W base args ds gs before hval0 hW hcnd _
  have hval : ∀ (j : Nat) t v, Try.f5.params[j]? = some t → args[j]? = some v → Value.okWide Try.prog W .any base t v := hval0
  have hW' := hW
  obtain ⟨p, q, hA0, hV, rfl, hfz, hnd⟩ := hW
  have hA : DataW.TrodAll enc Try.prog W 0 (fun _ => true) true Try.f5.params.toList args.toList ds p := hA0
  rw [Try.params5] at hA hval
  obtain ⟨v0, vs0, d0, ds0, p0, q0, hargs, rfl, rfl, h0, r0⟩ := trodAll_cons hA
  obtain ⟨rfl, rfl, rfl⟩ := trodAll_nil r0
  obtain rfl : args = #[v0] := by cases args; simp_all
  obtain ⟨rfl, rfl⟩ := trodVars_none hV
  obtain ⟨a0, len0, cap0, rfl⟩ := okWide_slice Try.underlying22 (hval 0 22 v0 rfl rfl)
  have k0 := h0
  have lt0 : ∀ x ∈ p0, x.block < W.heap.size := by obtain ⟨m, hm⟩ := k0; exact DataW.trod_lt m _ _ _ hm
  obtain ⟨z0, w0⟩ : ∃ zs, IsRow .u8 W a0 len0 cap0 zs := by
    obtain ⟨fuel, hf⟩ := h0
    rcases open_ints Try.underlying22 Try.underlying5 (by kernel_rfl) hf with ⟨hcs, _⟩ | ⟨x, l, c, zs, hcs, _, hl, hm, hz, _, hcell, hwz⟩
    · simp [Value.cells] at hcs
      obtain ⟨rfl, rfl, rfl⟩ := hcs
      exact ⟨[], .inl ⟨rfl, rfl, rfl, rfl⟩⟩
    · simp [Value.cells] at hcs
      obtain ⟨rfl, rfl, rfl⟩ := hcs
      exact ⟨zs, .inr ⟨_, rfl, hl, hm, by simpa using hz, hcell, hwz⟩⟩
  clear hA0 hval0
  refine (walk a0 len0 cap0 z0 W w0).mono fun e W' ⟨he, bel⟩ => ?_
  subst he
  exact ⟨_, rfl, _, _, _, [], _, [], hW', trodAll_mk1 (shut_bool Try.underlying4 _), (trodAll_cons_mk (Below.trod laidOut (by kernel_rfl) (of_decide_eq_true (by kernel_rfl)) k0 bel lt0) trodAll_mk0), rfl, bel.frame _, fun h => by cases h⟩

theorem over : Rows.fnMacroRow.holds Try.pinned (OpenSpec.ofChange Rows.fnMacroSpec) :=
  OpenClaim.holds_of_wide 5 Try.f5 rfl rfl rfl rfl rfl rfl rfl ⟨rfl, rfl, rfl, rfl, rfl⟩ rfl rfl rfl rfl rfl (by kernel_rfl) Try.func5 (by kernel_rfl)
    (of_decide_eq_true (by kernel_rfl)) (by unfold Func.isWrapper; first | (rw [if_pos (by decide +kernel)]; kernel_rfl) | (rw [if_neg (by decide +kernel)]; exact ⟨rfl, rfl⟩))
    (fun os started H enc _ => lifted os started H enc)

theorem proved : Rows.FnMacroSaid := over
#print axioms proved
end Go.Proofs.Ytnaofcbbdlhjpaa.fnMacro
