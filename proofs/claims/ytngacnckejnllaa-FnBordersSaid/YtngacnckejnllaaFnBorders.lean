/- Proved: for every slice of bytes the law FnBorders returns true: the program's ApplyBorder of a drawn state and a drawn border answers a valid state and the ledger that explains the change of its totals, by the program's LedgerHolds; a ledger with one unit of mass more does not explain it; what enters and what leaves is what the border says.
   Conditions: none besides those that the given row prints. -/
import Derived.Test.YtngacnckejnllaaRows
import Derived.WalkKit
import Derived.ProofKit
import Derived.OpenShut
import Derived.ShutString
import Derived.Test.YtngacnckejnllaaStLedW
import Derived.Test.YtngacnckejnllaaStLedI
import Derived.Test.YtngacnckejnllaaStLedH
import Derived.ChangeOld
import Derived.Below
set_option maxRecDepth 100000
namespace Go.Proofs.Ytngacnckejnllaa.fnBorders
open Go.ChangeShapes Go.WideShapes Go.ChangeAt Go.RowKit
open Go.ChangeMaps (open_string shut_string)
set_option linter.unusedVariables false

theorem own : ownKnob Try.prog.godebug = none := by kernel_rfl
theorem laidOut : laidOutB Try.prog = true := by kernel_rfl

def IsRow (k : IntKind) (w : World) (a : Option Addr) (len cap : Nat) (zs : List Int) : Prop :=
  (a = none ∧ len = 0 ∧ cap = 0 ∧ zs = []) ∨
  ∃ x, a = some x ∧ len ≤ cap ∧ cap ≤ maxLen ∧ zs.length = cap ∧ (∀ i, i < zs.length → w.cell? (x.add i) = some (.int k (zs.getD i 0))) ∧ ∀ n ∈ zs, (Lit.int k n).wf = true

set_option maxHeartbeats 32000000 in
theorem walk (a0 : Option Addr) (len0 cap0 : Nat) (z0 : List Int) (w : World) (w0 : IsRow .u8 w a0 len0 cap0 z0) :
    Calls Try.prog 3 #[.slice a0 len0 cap0] w fun e w' => e = .returned (.bool true) ∧ Below w.heap.size w w' := by
  have hb := Draw.bytes_of w0
  have HB := Lib.hid hb; clear hb
  clear w0
  by_cases hlen : 1048576 < len0
  · have hd : decide (1048576 < (len0 : Int)) = true := by simp; omega
    go_enter Try.func3, Try.ntmps3
    go_wp2_with fail
    refine Draw.big_any.mono ?_; rintro e w1 ⟨rfl, rfl⟩
    rw [hd]
    go_wp2_with fail
    go_ret
    exact ⟨rfl, Below.refl _ _⟩
  · have hd : decide (1048576 < (len0 : Int)) = false := by simp; omega
    have hlen' : len0 ≤ 1048576 := by omega
    have HLen := Lib.hid hlen'; clear hlen'
    go_enter Try.func3, Try.ntmps3
    go_wp2_with fail
    refine Draw.big_any.mono ?_; rintro e w1 ⟨rfl, rfl⟩
    rw [hd]
    clear hd hlen
    go_wp2_with fail
    refine (State.drawState_is HLen.out HB.out (Nat.le_refl _)).mono ?_
    rintro e w1 ⟨R, n1, n2, xs, ms, ts, bs, x1, c1, x2, c2, x3, c3, x4, c4, rfl, hd, ho, hg⟩
    obtain ⟨hn2, hn2', hR⟩ := hd.sizes
    have hn := hd.leaves
    obtain ⟨g1, c1', hv⟩ := Mesh.own_at1 ho.l (by omega)
    cases hv
    obtain ⟨g2, rfl, -, -⟩ := Ints.own_atI ho.m (by omega)
    obtain ⟨g3, rfl, -, -⟩ := Ints.own_atI ho.t (by omega)
    obtain ⟨g4, rfl, -, -⟩ := Ints.own_atI ho.b (by omega)
    have HE1 := Lib.hid ((State.Held.state (Law.Held.nil w) hg ho).box 29 #[.int .i64 R, .slice (some ⟨g1, 0, none⟩) n1 c1, .slice (some ⟨g2, 0, none⟩) n1 c2, .slice (some ⟨g3, 0, none⟩) n1 c3, .slice (some ⟨g4, 0, none⟩) n2 c4])
    have HD := Lib.hid hd
    have H1 := Lib.hid (show n1 ≤ 1048576 by omega); have H2 := Lib.hid (show n2 ≤ 1048576 by omega)
    have HN := Lib.hid hn
    have hn1 : 1 ≤ (n1 : Int) := by omega
    have hn1' : (n1 : Int) ≤ 128 := by omega
    have HBW := Lib.hid (HB.out.kept (fun b hb' => (hg.block b hb' (by simp))))
    have HSZ := Lib.hid hg.size
    clear ho hg hd hn hn2 hn2' hR HB
    go_upto_region 4 with fail
    obtain ⟨B3, hB3⟩ : ∃ B, B = w1.heap.size := ⟨_, rfl⟩
    rw [← hB3] at HE1 ⊢
    clear hB3
    have HBX := Lib.hid (HBW.out.kept (fun b hb' => (World.grownBy_alloc w1 (.cells #[.int .i64 R, .slice (some ⟨g1, 0, none⟩) n1 c1, .slice (some ⟨g2, 0, none⟩) n1 c2, .slice (some ⟨g3, 0, none⟩) n1 c3, .slice (some ⟨g4, 0, none⟩) n2 c4] 29) none).block b (by have := HSZ.out; omega) (by simp)))
    have HSX := Lib.hid (Nat.le_trans HSZ.out (World.grownBy_alloc w1 (.cells #[.int .i64 R, .slice (some ⟨g1, 0, none⟩) n1 c1, .slice (some ⟨g2, 0, none⟩) n1 c2, .slice (some ⟨g3, 0, none⟩) n1 c3, .slice (some ⟨g4, 0, none⟩) n2 c4] 29) none).size)
    clear HBW HSZ
    generalize w1.alloc (.cells #[.int .i64 R, .slice (some ⟨g1, 0, none⟩) n1 c1, .slice (some ⟨g2, 0, none⟩) n1 c2, .slice (some ⟨g3, 0, none⟩) n1 c3, .slice (some ⟨g4, 0, none⟩) n2 c4] 29) = W1 at *
    go_upto_region 5 with (go_at_call 11; ((with_reducible refine (State.drawBorder_is HLen.out HBX.out HSX.out).mono ?_); rintro e w2 ⟨ei, es, eo, rfl, hi, hs, ho, hg⟩; have HE2 := Lib.hid (HE1.out.on hg); clear hg))
    clear HE1 HBX HSX HLen
    have HE3 := Lib.hid (HE2.out.box 32 #[.int .i64 ei, .int .i64 es, .int .i64 eo]); clear HE2
    obtain ⟨B4, hB4⟩ : ∃ B, B = w2.heap.size := ⟨_, rfl⟩
    rw [← hB4] at HE3 ⊢
    clear hB4
    generalize w2.alloc (.cells #[.int .i64 ei, .int .i64 es, .int .i64 eo] 32) = W4 at *
    obtain ⟨mm, mt, M, T, ⟨t0, t1, t2, t3, t4, t5⟩, hbo, hxo, ⟨m1, m2⟩, ⟨m3, m4, m5⟩, m6, m7, m8⟩ := State.drawn_border HD.out hi hs ho
    obtain ⟨hMb, hTb⟩ := HD.out.sums
    have hok := HD.out.ok
    have hlm := HD.out.len.1
    obtain ⟨F, hF⟩ : ∃ F, F = ei * es := ⟨_, rfl⟩
    have HAP := Lib.hid (show ∀ u, State.ReadsS u (some ⟨g1, 0, none⟩) (some ⟨g2, 0, none⟩) (some ⟨g3, 0, none⟩) (some ⟨g4, 0, none⟩) n1 n1 n1 n2 xs ms ts bs → Calls Try.prog 12 #[.agg #[.int .i64 R, .slice (some ⟨g1, 0, none⟩) n1 c1, .slice (some ⟨g2, 0, none⟩) n1 c2, .slice (some ⟨g3, 0, none⟩) n1 c3, .slice (some ⟨g4, 0, none⟩) n2 c4], .agg #[.int .i64 ei, .int .i64 es, .int .i64 eo]] u (State.GivesSL R n1 n1 n1 n2 xs mm mt bs ei M F T u) from fun u h => by
      have q := State.applyBorder_is R _ _ _ _ n1 n1 n1 n2 c1 c2 c3 c4 xs ms ts bs ei es eo u h H1.out H1.out H1.out H2.out
      rw [t0, t1, t2, t3, t4, t5, ← hF] at q
      exact q)
    rw [← hF] at m2 m8
    have hwF : IntKind.i64.wrap (ei * es) = F := by rw [← hF]; exact IntWalk.i64_in _ (by omega)
    clear t0 t1 t2 t3 t4 t5 hF
    obtain ⟨U, hU⟩ : ∃ U, U = ms.sum := ⟨_, rfl⟩
    obtain ⟨V, hV⟩ : ∃ V, V = mm.sum := ⟨_, rfl⟩
    obtain ⟨Y, hY⟩ : ∃ Y, Y = ts.sum := ⟨_, rfl⟩
    obtain ⟨Z, hZ⟩ : ∃ Z, Z = mt.sum := ⟨_, rfl⟩
    rw [← hU, ← hV] at m1
    rw [← hY, ← hZ] at m2
    rw [← hU] at hMb
    rw [← hY] at hTb
    have a1 : IntKind.i64.wrap (U + ei) = U + ei := IntWalk.i64_in _ (by omega)
    have a2 : IntKind.i64.wrap (U + ei - M) = U + ei - M := IntWalk.i64_in _ (by omega)
    have a3 : IntKind.i64.wrap (Y + F) = Y + F := IntWalk.i64_in _ (by omega)
    have a4 : IntKind.i64.wrap (Y + F - T) = Y + F - T := IntWalk.i64_in _ (by omega)
    have a5 : IntKind.i64.wrap (U + (ei + 1)) = U + (ei + 1) := IntWalk.i64_in _ (by omega)
    have a6 : IntKind.i64.wrap (U + (ei + 1) - M) = U + (ei + 1) - M := IntWalk.i64_in _ (by omega)
    have hold : State.holdB true true U V Y Z ei M F T = true := by unfold State.holdB; rw [a1, a2, a3, a4]; simp; omega
    have hold' : State.holdB true true U V Y Z (ei + 1) M F T = false := by unfold State.holdB; rw [a5, a6, a3, a4]; simp; omega
    have HLH0 := Lib.hid (show ∀ u (q1 q2 q3 q4 : Option Addr) (d1 d2 d3 d4 : Nat), State.ReadsS u (some ⟨g1, 0, none⟩) (some ⟨g2, 0, none⟩) (some ⟨g3, 0, none⟩) (some ⟨g4, 0, none⟩) n1 n1 n1 n2 xs ms ts bs → State.ReadsS u q1 q2 q3 q4 n1 n1 n1 n2 xs mm mt bs → Calls Try.prog 13 #[.agg #[.int .i64 R, .slice (some ⟨g1, 0, none⟩) n1 c1, .slice (some ⟨g2, 0, none⟩) n1 c2, .slice (some ⟨g3, 0, none⟩) n1 c3, .slice (some ⟨g4, 0, none⟩) n2 c4], .agg #[.int .i64 R, .slice q1 n1 d1, .slice q2 n1 d2, .slice q3 n1 d3, .slice q4 n2 d4], .agg #[.int .i64 ei, .int .i64 M, .int .i64 F, .int .i64 T]] u fun e w' => e = .returned (.bool true) ∧ u.grownBy w' none from fun u q1 q2 q3 q4 d1 d2 d3 d4 h k => by
      have q := State.ledgerHolds_is R R _ _ _ _ _ _ _ _ n1 n1 n1 n2 c1 c2 c3 c4 n1 n1 n1 n2 d1 d2 d3 d4 xs xs ms ts bs mm mt bs ei M F T u h H1.out H1.out H1.out H2.out k H1.out H1.out H1.out H2.out
      rw [hok, hxo, if_pos rfl, if_pos rfl, if_pos rfl, if_pos rfl, ← hU, ← hV, ← hY, ← hZ, hold] at q
      exact q)
    have HLF0 := Lib.hid (show ∀ u (q1 q2 q3 q4 : Option Addr) (d1 d2 d3 d4 : Nat), State.ReadsS u (some ⟨g1, 0, none⟩) (some ⟨g2, 0, none⟩) (some ⟨g3, 0, none⟩) (some ⟨g4, 0, none⟩) n1 n1 n1 n2 xs ms ts bs → State.ReadsS u q1 q2 q3 q4 n1 n1 n1 n2 xs mm mt bs → Calls Try.prog 13 #[.agg #[.int .i64 R, .slice (some ⟨g1, 0, none⟩) n1 c1, .slice (some ⟨g2, 0, none⟩) n1 c2, .slice (some ⟨g3, 0, none⟩) n1 c3, .slice (some ⟨g4, 0, none⟩) n2 c4], .agg #[.int .i64 R, .slice q1 n1 d1, .slice q2 n1 d2, .slice q3 n1 d3, .slice q4 n2 d4], .agg #[.int .i64 (ei + 1), .int .i64 M, .int .i64 F, .int .i64 T]] u fun e w' => e = .returned (.bool false) ∧ u.grownBy w' none from fun u q1 q2 q3 q4 d1 d2 d3 d4 h k => by
      have q := State.ledgerHolds_is R R _ _ _ _ _ _ _ _ n1 n1 n1 n2 c1 c2 c3 c4 n1 n1 n1 n2 d1 d2 d3 d4 xs xs ms ts bs mm mt bs (ei + 1) M F T u h H1.out H1.out H1.out H2.out k H1.out H1.out H1.out H2.out
      rw [hok, hxo, if_pos rfl, if_pos rfl, if_pos rfl, if_pos rfl, ← hU, ← hV, ← hY, ← hZ, hold'] at q
      exact q)
    have HSO0 := Lib.hid (show ∀ u (q1 q2 q3 q4 : Option Addr) (d1 d2 d3 d4 : Nat), State.ReadsS u q1 q2 q3 q4 n1 n1 n1 n2 xs mm mt bs → Calls Try.prog 14 #[.agg #[.int .i64 R, .slice q1 n1 d1, .slice q2 n1 d2, .slice q3 n1 d3, .slice q4 n2 d4]] u fun e w' => e = .returned (.bool true) ∧ u.grownBy w' none from fun u q1 q2 q3 q4 d1 d2 d3 d4 h => by
      have q := State.specStateOk_is R _ _ _ _ n1 n1 n1 n2 d1 d2 d3 d4 xs mm mt bs u h H1.out H1.out H1.out H2.out
      rw [hxo] at q
      exact q)
    have HBO := Lib.hid (show ∀ u, Calls Try.prog 15 #[.agg #[.int .i64 ei, .int .i64 es, .int .i64 eo]] u fun e w' => e = .returned (.bool true) ∧ u.grownBy w' none from fun u => by
      have q := State.borderOk_is ei es eo u
      rw [hbo] at q
      exact q)
    obtain ⟨k, hk⟩ : ∃ k, k = n1 - 1 := ⟨_, rfl⟩
    rw [← hk] at m3 m4 m5
    have HK := Lib.hid (show k < n1 by omega)
    have HX0 := State.at_get (xs := ms) (k := k) (by omega)
    have hki : (n1 : Int) - 1 = k := by omega
    have hkj : (k : Int) < n1 := by omega
    obtain ⟨x, hx⟩ : ∃ x, x = State.atI ms k := ⟨_, rfl⟩
    rw [← hx] at m3 m4 m5 HX0
    have HX := Lib.hid HX0
    have hwx : IntKind.i64.wrap (x * eo) = x * eo := IntWalk.i64_in _ (by omega)
    have hwq : IntKind.i64.wrap ((x * eo).tdiv 1000) = M := by rw [Int.tdiv_eq_ediv_of_nonneg m4, m3]; exact IntWalk.i64_in _ (by omega)
    have hwq2 : (x * eo).tdiv 1000 = M := by rw [Int.tdiv_eq_ediv_of_nonneg m4, m3]
    have hwi : IntKind.i64.wrap (ei + 1) = ei + 1 := IntWalk.i64_in _ (by omega)
    have hwM : IntKind.i64.wrap M = M := IntWalk.i64_in _ (by omega)
    clear hk HX0 hx m1 m2 m3 m4 m5 m6 m7 m8 hMb hTb hok hlm hbo hxo hU hV hY hZ a1 a2 a3 a4 a5 a6 hold hold' hi hs ho HD HN
    obtain ⟨z0, z1, z2, z3, z4⟩ := Law.box5 (HE3.out.nth 1 rfl)
    obtain ⟨b0, b1, b2⟩ := Law.cells3 (HE3.out.nth 2 rfl)
    go_upto_region 6 with (go_at_call 12; ((with_reducible refine (HAP.out _ (State.OwnS.reads (HE3.out.nth 0 rfl))).mono ?_); rintro e w4 ⟨q1, d1, q2, d2, q3, d3, q4, d4, rfl, ho, hg⟩; have HE4 := Lib.hid (State.Held.state HE3.out hg ho); clear ho hg))
    clear z0 z1 z2 z3 z4 b0 b1 b2 HE3 HAP
    have he := (HE4.out.box 29 #[.int .i64 R, .slice q1 n1 d1, .slice q2 n1 d2, .slice q3 n1 d3, .slice q4 n2 d4]).box 35 #[.int .i64 ei, .int .i64 M, .int .i64 F, .int .i64 T]
    simp only [World.size_alloc] at he
    have HE6 := Lib.hid he; clear he HE4
    obtain ⟨B6, hB6⟩ : ∃ B, B = w4.heap.size + 1 := ⟨_, rfl⟩
    rw [← hB6] at HE6 ⊢
    clear hB6
    obtain ⟨B5, hB5⟩ : ∃ B, B = w4.heap.size := ⟨_, rfl⟩
    rw [← hB5] at HE6 ⊢
    clear hB5
    generalize (w4.alloc (.cells #[.int .i64 R, .slice q1 n1 d1, .slice q2 n1 d2, .slice q3 n1 d3, .slice q4 n2 d4] 29)).alloc (.cells #[.int .i64 ei, .int .i64 M, .int .i64 F, .int .i64 T] 35) = W6 at *
    obtain ⟨y0, y1, y2, y3⟩ := Law.cells4 (HE6.out.nth 5 rfl)
    go_upto_region 7 with fail
    clear y0 y1 y2 y3
    have HE7 := Lib.hid (HE6.out.box 35 #[.int .i64 ei, .int .i64 M, .int .i64 F, .int .i64 T]); clear HE6
    obtain ⟨B7, hB7⟩ : ∃ B, B = W6.heap.size := ⟨_, rfl⟩
    rw [← hB7] at HE7 ⊢
    clear hB7
    generalize W6.alloc (.cells #[.int .i64 ei, .int .i64 M, .int .i64 F, .int .i64 T] 35) = W7 at *
    obtain ⟨y0, y1, y2, y3⟩ := Law.cells4 (HE7.out.nth 6 rfl)
    obtain ⟨f0, f1, f2, f3⟩ := Law.frees4 (HE7.out.nth 6 rfl)
    go_upto_region 8 with fail
    have HE8 := Lib.hid (HE7.out.put 6 rfl 0 (.int .i64 (ei + 1)))
    clear y0 y1 y2 y3 f0 f1 f2 f3 HE7
    generalize W7.setCell ⟨B7, 0, none⟩ (.int .i64 (ei + 1)) = W8 at *
    obtain ⟨z0, z1, z2, z3, z4⟩ := Law.box5 (HE8.out.nth 1 rfl)
    go_upto_region 9 with fail
    clear z0 z1 z2 z3 z4
    have HLH := Lib.hid (fun u h k => HLH0.out u q1 q2 q3 q4 d1 d2 d3 d4 h k)
    have HLF := Lib.hid (fun u h k => HLF0.out u q1 q2 q3 q4 d1 d2 d3 d4 h k)
    have HSO := Lib.hid (fun u h => HSO0.out u q1 q2 q3 q4 d1 d2 d3 d4 h)
    clear HLH0 HLF0 HSO0
    rename_i KK hKK
    refine Draws.wp_region_tabG (w := w) rfl (by kernel_rfl) (by kernel_rfl) State.BordGDep (by kernel_rfl) [State.stateG (.slice (some ⟨g1, 0, none⟩) n1 c1) (.slice (some ⟨g2, 0, none⟩) n1 c2) (.slice (some ⟨g3, 0, none⟩) n1 c3) (.slice (some ⟨g4, 0, none⟩) n2 c4) n1 n1 n1 n2 xs ms ts bs, Law.boxG B3 29 #[.int .i64 R, .slice (some ⟨g1, 0, none⟩) n1 c1, .slice (some ⟨g2, 0, none⟩) n1 c2, .slice (some ⟨g3, 0, none⟩) n1 c3, .slice (some ⟨g4, 0, none⟩) n2 c4], Law.boxG B4 32 #[.int .i64 ei, .int .i64 es, .int .i64 eo], State.stateG (.slice q1 n1 d1) (.slice q2 n1 d2) (.slice q3 n1 d3) (.slice q4 n2 d4) n1 n1 n1 n2 xs mm mt bs, Law.boxG B5 29 #[.int .i64 R, .slice q1 n1 d1, .slice q2 n1 d2, .slice q3 n1 d3, .slice q4 n2 d4], Law.boxG B6 35 #[.int .i64 ei, .int .i64 M, .int .i64 F, .int .i64 T], Law.boxG B7 35 #[.int .i64 (ei + 1), .int .i64 M, .int .i64 F, .int .i64 T]] [] (fun _ => Law.emptyG) (State.BordG R ei es eo M F T x g1 g2 g3 g4 n1 n2 c1 c2 c3 c4 k B3 B4 B5 B6 B7 q1 q2 q3 q4 d1 d2 d3 d4) ?start ?step ?last
    case start => exact HE8.out.on (Mesh.gr_drew (Cell.grown_refl _))
    case step =>
      clear hKK
      intro L a W val G i o hI ho hL hd
      have hi : i < 51 := by have := (Array.getElem?_eq_some_iff.1 ho).1; simpa using this
      have hloc := State.BordG_local R ei es eo M F T x g1 g2 g3 g4 n1 n2 c1 c2 c3 c4 k B3 B4 B5 B6 B7 q1 q2 q3 q4 d1 d2 d3 d4
      obtain ⟨z0, z1, z2, z3, z4⟩ := Law.box5 (hI.hd.nth 1 rfl)
      obtain ⟨b0, b1, b2⟩ := Law.cells3 (hI.hd.nth 2 rfl)
      obtain ⟨x0, x1, x2, x3, x4⟩ := Law.box5 (hI.hd.nth 4 rfl)
      obtain ⟨y0, y1, y2, y3⟩ := Law.cells4 (hI.hd.nth 5 rfl)
      obtain ⟨u0, u1, u2, u3⟩ := Law.cells4 (hI.hd.nth 6 rfl)
      have c7 := State.own_cellAt (State.OwnS.m (hI.hd.nth 0 rfl)) HX.out HK.out
      rcases (show i = 0 ∨ i = 1 ∨ i = 2 ∨ i = 3 ∨ i = 4 ∨ i = 5 ∨ i = 6 ∨ i = 7 ∨ i = 8 ∨ i = 9 ∨ i = 10 ∨ i = 11 ∨ i = 12 ∨ i = 13 ∨ i = 14 ∨ i = 15 ∨ i = 16 ∨ i = 17 ∨ i = 18 ∨ i = 19 ∨ i = 20 ∨ i = 21 ∨ i = 22 ∨ i = 23 ∨ i = 24 ∨ i = 25 ∨ i = 26 ∨ i = 27 ∨ i = 28 ∨ i = 29 ∨ i = 30 ∨ i = 31 ∨ i = 32 ∨ i = 33 ∨ i = 34 ∨ i = 35 ∨ i = 36 ∨ i = 37 ∨ i = 38 ∨ i = 39 ∨ i = 40 ∨ i = 41 ∨ i = 42 ∨ i = 43 ∨ i = 44 ∨ i = 45 ∨ i = 46 ∨ i = 47 ∨ i = 48 ∨ i = 49 ∨ i = 50 by omega) with rfl | rfl | rfl | rfl | rfl | rfl | rfl | rfl | rfl | rfl | rfl | rfl | rfl | rfl | rfl | rfl | rfl | rfl | rfl | rfl | rfl | rfl | rfl | rfl | rfl | rfl | rfl | rfl | rfl | rfl | rfl | rfl | rfl | rfl | rfl | rfl | rfl | rfl | rfl | rfl | rfl | rfl | rfl | rfl | rfl | rfl | rfl | rfl | rfl | rfl | rfl
      · obtain rfl := Option.some.inj ho
        have p3 := (hI.old 3 (by kernel_rfl) rfl).get
        refine Draws.wpOp_of (by rfl) rfl (State.wp_value (v := .agg #[.int .i64 R, .slice (some ⟨g1, 0, none⟩) n1 c1, .slice (some ⟨g2, 0, none⟩) n1 c2, .slice (some ⟨g3, 0, none⟩) n1 c3, .slice (some ⟨g4, 0, none⟩) n2 c4]) (w' := W) ?_ (hI.same hloc hL _ _ (Cell.grown_refl _) (Draws.upd_at _ _ _)))
        simp only [execOp]
        go_simp
      · obtain rfl := Option.some.inj ho
        have p5 := (hI.old 5 (by kernel_rfl) rfl).get
        refine Draws.wpOp_of (by rfl) rfl (State.wp_value (v := .agg #[.int .i64 R, .slice q1 n1 d1, .slice q2 n1 d2, .slice q3 n1 d3, .slice q4 n2 d4]) (w' := W) ?_ (hI.same hloc hL _ _ (Cell.grown_refl _) (Draws.upd_at _ _ _)))
        simp only [execOp]
        go_simp
      · obtain rfl := Option.some.inj ho
        have p6 := (hI.old 6 (by kernel_rfl) rfl).get
        refine Draws.wpOp_of (by rfl) rfl (State.wp_value (v := .agg #[.int .i64 ei, .int .i64 M, .int .i64 F, .int .i64 T]) (w' := W) ?_ (hI.same hloc hL _ _ (Cell.grown_refl _) (Draws.upd_at _ _ _)))
        simp only [execOp]
        go_simp
      · obtain rfl := Option.some.inj ho
        have l0 := hd 0 (by simp [State.BordGDep])
        have e0 := (hI.at_ 0 30 rfl l0).get
        have l1 := hd 1 (by simp [State.BordGDep])
        have e1 := (hI.at_ 1 31 rfl l1).get
        have l2 := hd 2 (by simp [State.BordGDep])
        have e2 := (hI.at_ 2 32 rfl l2).get
        rw [show val 0 = _ from hI.gd 0 l0] at e0
        rw [show val 1 = _ from hI.gd 1 l1] at e1
        rw [show val 2 = _ from hI.gd 2 l2] at e2
        refine Draws.wpOp_of (by rfl) rfl ?_
        unfold Oper.wp
        simp only [execOp]
        go_simp
        refine Calls.mono (P := Try.prog) (HLH.out W (State.OwnS.reads (hI.hd.nth 0 rfl)) (State.OwnS.reads (hI.hd.nth 3 rfl))) ?_
        rintro e w1 ⟨rfl, hg⟩
        exact hI.same hloc hL _ (.bool true) hg (Draws.upd_at _ _ _)
      · obtain rfl := Option.some.inj ho
        have l3 := hd 3 (by simp [State.BordGDep])
        have e3 := (hI.at_ 3 33 rfl l3).get
        rw [show val 3 = _ from hI.gd 3 l3] at e3
        refine Draws.wpOp_of (by rfl) rfl (State.wp_value (v := .bool true) (w' := W) ?_ (hI.same hloc hL _ _ (Cell.grown_refl _) (Draws.upd_at _ _ _)))
        simp only [execOp]
        go_simp
      · obtain rfl := Option.some.inj ho
        have l4 := hd 4 (by simp [State.BordGDep])
        have e4 := (hI.at_ 4 34 rfl l4).get
        rw [show val 4 = _ from hI.gd 4 l4] at e4
        have ag := hI.at_ 4 34 rfl l4
        rw [show val 4 = _ from hI.gd 4 l4] at ag
        have p3 := (hI.old 3 (by kernel_rfl) rfl).get
        refine Draws.wpOp_want (by rfl) (Draws.want_at 4 34 rfl rfl ag) (State.wp_value (v := .agg #[.int .i64 R, .slice (some ⟨g1, 0, none⟩) n1 c1, .slice (some ⟨g2, 0, none⟩) n1 c2, .slice (some ⟨g3, 0, none⟩) n1 c3, .slice (some ⟨g4, 0, none⟩) n2 c4]) (w' := W) ?_ (hI.same hloc hL _ _ (Cell.grown_refl _) (Draws.upd_at _ _ _)))
        simp only [execOp]
        go_simp
      · obtain rfl := Option.some.inj ho
        have l4 := hd 4 (by simp [State.BordGDep])
        have e4 := (hI.at_ 4 34 rfl l4).get
        rw [show val 4 = _ from hI.gd 4 l4] at e4
        have ag := hI.at_ 4 34 rfl l4
        rw [show val 4 = _ from hI.gd 4 l4] at ag
        have p5 := (hI.old 5 (by kernel_rfl) rfl).get
        refine Draws.wpOp_want (by rfl) (Draws.want_at 4 34 rfl rfl ag) (State.wp_value (v := .agg #[.int .i64 R, .slice q1 n1 d1, .slice q2 n1 d2, .slice q3 n1 d3, .slice q4 n2 d4]) (w' := W) ?_ (hI.same hloc hL _ _ (Cell.grown_refl _) (Draws.upd_at _ _ _)))
        simp only [execOp]
        go_simp
      · obtain rfl := Option.some.inj ho
        have l4 := hd 4 (by simp [State.BordGDep])
        have e4 := (hI.at_ 4 34 rfl l4).get
        rw [show val 4 = _ from hI.gd 4 l4] at e4
        have ag := hI.at_ 4 34 rfl l4
        rw [show val 4 = _ from hI.gd 4 l4] at ag
        have p7 := (hI.old 7 (by kernel_rfl) rfl).get
        refine Draws.wpOp_want (by rfl) (Draws.want_at 4 34 rfl rfl ag) (State.wp_value (v := .agg #[.int .i64 (ei + 1), .int .i64 M, .int .i64 F, .int .i64 T]) (w' := W) ?_ (hI.same hloc hL _ _ (Cell.grown_refl _) (Draws.upd_at _ _ _)))
        simp only [execOp]
        go_simp
      · obtain rfl := Option.some.inj ho
        have l5 := hd 5 (by simp [State.BordGDep])
        have e5 := (hI.at_ 5 35 rfl l5).get
        have l6 := hd 6 (by simp [State.BordGDep])
        have e6 := (hI.at_ 6 36 rfl l6).get
        have l7 := hd 7 (by simp [State.BordGDep])
        have e7 := (hI.at_ 7 37 rfl l7).get
        have l4 := hd 4 (by simp [State.BordGDep])
        have e4 := (hI.at_ 4 34 rfl l4).get
        rw [show val 5 = _ from hI.gd 5 l5] at e5
        rw [show val 6 = _ from hI.gd 6 l6] at e6
        rw [show val 7 = _ from hI.gd 7 l7] at e7
        rw [show val 4 = _ from hI.gd 4 l4] at e4
        have ag := hI.at_ 4 34 rfl l4
        rw [show val 4 = _ from hI.gd 4 l4] at ag
        refine Draws.wpOp_want (by rfl) (Draws.want_at 4 34 rfl rfl ag) ?_
        unfold Oper.wp
        simp only [execOp]
        go_simp
        refine Calls.mono (P := Try.prog) (HLF.out W (State.OwnS.reads (hI.hd.nth 0 rfl)) (State.OwnS.reads (hI.hd.nth 3 rfl))) ?_
        rintro e w1 ⟨rfl, hg⟩
        exact hI.same hloc hL _ (.bool false) hg (Draws.upd_at _ _ _)
      · obtain rfl := Option.some.inj ho
        have l8 := hd 8 (by simp [State.BordGDep])
        have e8 := (hI.at_ 8 38 rfl l8).get
        have l4 := hd 4 (by simp [State.BordGDep])
        have e4 := (hI.at_ 4 34 rfl l4).get
        rw [show val 8 = _ from hI.gd 8 l8] at e8
        rw [show val 4 = _ from hI.gd 4 l4] at e4
        have ag := hI.at_ 4 34 rfl l4
        rw [show val 4 = _ from hI.gd 4 l4] at ag
        refine Draws.wpOp_want (by rfl) (Draws.want_at 4 34 rfl rfl ag) (State.wp_value (v := .bool true) (w' := W) ?_ (hI.same hloc hL _ _ (Cell.grown_refl _) (Draws.upd_at _ _ _)))
        simp only [execOp]
        go_simp
      · obtain rfl := Option.some.inj ho
        have l4 := hd 4 (by simp [State.BordGDep])
        have e4 := (hI.at_ 4 34 rfl l4).get
        have l9 := hd 9 (by simp [State.BordGDep])
        have e9 := (hI.at_ 9 39 rfl l9).get
        rw [show val 4 = _ from hI.gd 4 l4] at e4
        rw [show val 9 = _ from hI.gd 9 l9] at e9
        refine Draws.wpOp_of (by rfl) rfl (State.wp_value (v := .bool true) (w' := W) ?_ (hI.same hloc hL _ _ (Cell.grown_refl _) (Draws.upd_at _ _ _)))
        simp only [execOp]
        go_simp
      · obtain rfl := Option.some.inj ho
        have l10 := hd 10 (by simp [State.BordGDep])
        have e10 := (hI.at_ 10 40 rfl l10).get
        rw [show val 10 = _ from hI.gd 10 l10] at e10
        refine Draws.wpOp_of (by rfl) rfl (State.wp_value (v := .bool true) (w' := W) ?_ (hI.same hloc hL _ _ (Cell.grown_refl _) (Draws.upd_at _ _ _)))
        simp only [execOp]
        go_simp
      · obtain rfl := Option.some.inj ho
        have l11 := hd 11 (by simp [State.BordGDep])
        have e11 := (hI.at_ 11 41 rfl l11).get
        rw [show val 11 = _ from hI.gd 11 l11] at e11
        have ag := hI.at_ 11 41 rfl l11
        rw [show val 11 = _ from hI.gd 11 l11] at ag
        have p5 := (hI.old 5 (by kernel_rfl) rfl).get
        refine Draws.wpOp_want (by rfl) (Draws.want_at 11 41 rfl rfl ag) (State.wp_value (v := .agg #[.int .i64 R, .slice q1 n1 d1, .slice q2 n1 d2, .slice q3 n1 d3, .slice q4 n2 d4]) (w' := W) ?_ (hI.same hloc hL _ _ (Cell.grown_refl _) (Draws.upd_at _ _ _)))
        simp only [execOp]
        go_simp
      · obtain rfl := Option.some.inj ho
        have l12 := hd 12 (by simp [State.BordGDep])
        have e12 := (hI.at_ 12 42 rfl l12).get
        have l11 := hd 11 (by simp [State.BordGDep])
        have e11 := (hI.at_ 11 41 rfl l11).get
        rw [show val 12 = _ from hI.gd 12 l12] at e12
        rw [show val 11 = _ from hI.gd 11 l11] at e11
        have ag := hI.at_ 11 41 rfl l11
        rw [show val 11 = _ from hI.gd 11 l11] at ag
        refine Draws.wpOp_want (by rfl) (Draws.want_at 11 41 rfl rfl ag) ?_
        unfold Oper.wp
        simp only [execOp]
        go_simp
        refine Calls.mono (P := Try.prog) (HSO.out W (State.OwnS.reads (hI.hd.nth 3 rfl))) ?_
        rintro e w1 ⟨rfl, hg⟩
        exact hI.same hloc hL _ (.bool true) hg (Draws.upd_at _ _ _)
      · obtain rfl := Option.some.inj ho
        have l11 := hd 11 (by simp [State.BordGDep])
        have e11 := (hI.at_ 11 41 rfl l11).get
        have l13 := hd 13 (by simp [State.BordGDep])
        have e13 := (hI.at_ 13 43 rfl l13).get
        rw [show val 11 = _ from hI.gd 11 l11] at e11
        rw [show val 13 = _ from hI.gd 13 l13] at e13
        refine Draws.wpOp_of (by rfl) rfl (State.wp_value (v := .bool true) (w' := W) ?_ (hI.same hloc hL _ _ (Cell.grown_refl _) (Draws.upd_at _ _ _)))
        simp only [execOp]
        go_simp
      · obtain rfl := Option.some.inj ho
        have l14 := hd 14 (by simp [State.BordGDep])
        have e14 := (hI.at_ 14 44 rfl l14).get
        rw [show val 14 = _ from hI.gd 14 l14] at e14
        refine Draws.wpOp_of (by rfl) rfl (State.wp_value (v := .bool true) (w' := W) ?_ (hI.same hloc hL _ _ (Cell.grown_refl _) (Draws.upd_at _ _ _)))
        simp only [execOp]
        go_simp
      · obtain rfl := Option.some.inj ho
        have l15 := hd 15 (by simp [State.BordGDep])
        have e15 := (hI.at_ 15 45 rfl l15).get
        rw [show val 15 = _ from hI.gd 15 l15] at e15
        have ag := hI.at_ 15 45 rfl l15
        rw [show val 15 = _ from hI.gd 15 l15] at ag
        have p4 := (hI.old 4 (by kernel_rfl) rfl).get
        refine Draws.wpOp_want (by rfl) (Draws.want_at 15 45 rfl rfl ag) (State.wp_value (v := .agg #[.int .i64 ei, .int .i64 es, .int .i64 eo]) (w' := W) ?_ (hI.same hloc hL _ _ (Cell.grown_refl _) (Draws.upd_at _ _ _)))
        simp only [execOp]
        go_simp
      · obtain rfl := Option.some.inj ho
        have l16 := hd 16 (by simp [State.BordGDep])
        have e16 := (hI.at_ 16 46 rfl l16).get
        have l15 := hd 15 (by simp [State.BordGDep])
        have e15 := (hI.at_ 15 45 rfl l15).get
        rw [show val 16 = _ from hI.gd 16 l16] at e16
        rw [show val 15 = _ from hI.gd 15 l15] at e15
        have ag := hI.at_ 15 45 rfl l15
        rw [show val 15 = _ from hI.gd 15 l15] at ag
        refine Draws.wpOp_want (by rfl) (Draws.want_at 15 45 rfl rfl ag) ?_
        unfold Oper.wp
        simp only [execOp]
        go_simp
        refine Calls.mono (P := Try.prog) (HBO.out W) ?_
        rintro e w1 ⟨rfl, hg⟩
        exact hI.same hloc hL _ (.bool true) hg (Draws.upd_at _ _ _)
      · obtain rfl := Option.some.inj ho
        have l15 := hd 15 (by simp [State.BordGDep])
        have e15 := (hI.at_ 15 45 rfl l15).get
        have l17 := hd 17 (by simp [State.BordGDep])
        have e17 := (hI.at_ 17 47 rfl l17).get
        rw [show val 15 = _ from hI.gd 15 l15] at e15
        rw [show val 17 = _ from hI.gd 17 l17] at e17
        refine Draws.wpOp_of (by rfl) rfl (State.wp_value (v := .bool true) (w' := W) ?_ (hI.same hloc hL _ _ (Cell.grown_refl _) (Draws.upd_at _ _ _)))
        simp only [execOp]
        go_simp
      · obtain rfl := Option.some.inj ho
        have l18 := hd 18 (by simp [State.BordGDep])
        have e18 := (hI.at_ 18 48 rfl l18).get
        rw [show val 18 = _ from hI.gd 18 l18] at e18
        refine Draws.wpOp_of (by rfl) rfl (State.wp_value (v := .bool true) (w' := W) ?_ (hI.same hloc hL _ _ (Cell.grown_refl _) (Draws.upd_at _ _ _)))
        simp only [execOp]
        go_simp
      · obtain rfl := Option.some.inj ho
        have l19 := hd 19 (by simp [State.BordGDep])
        have e19 := (hI.at_ 19 49 rfl l19).get
        rw [show val 19 = _ from hI.gd 19 l19] at e19
        have ag := hI.at_ 19 49 rfl l19
        rw [show val 19 = _ from hI.gd 19 l19] at ag
        have p6 := (hI.old 6 (by kernel_rfl) rfl).get
        refine Draws.wpOp_want (by rfl) (Draws.want_at 19 49 rfl rfl ag) (State.wp_value (v := .pointer (some ⟨B6, 0, none⟩)) (w' := W) ?_ (hI.same hloc hL _ _ (Cell.grown_refl _) (Draws.upd_at _ _ _)))
        simp only [execOp]
        go_simp
      · obtain rfl := Option.some.inj ho
        have l20 := hd 20 (by simp [State.BordGDep])
        have e20 := (hI.at_ 20 50 rfl l20).get
        have l19 := hd 19 (by simp [State.BordGDep])
        have e19 := (hI.at_ 19 49 rfl l19).get
        rw [show val 20 = _ from hI.gd 20 l20] at e20
        rw [show val 19 = _ from hI.gd 19 l19] at e19
        have ag := hI.at_ 19 49 rfl l19
        rw [show val 19 = _ from hI.gd 19 l19] at ag
        refine Draws.wpOp_want (by rfl) (Draws.want_at 19 49 rfl rfl ag) (State.wp_value (v := .int .i64 ei) (w' := W) ?_ (hI.same hloc hL _ _ (Cell.grown_refl _) (Draws.upd_at _ _ _)))
        simp only [execOp]
        go_simp
      · obtain rfl := Option.some.inj ho
        have l19 := hd 19 (by simp [State.BordGDep])
        have e19 := (hI.at_ 19 49 rfl l19).get
        rw [show val 19 = _ from hI.gd 19 l19] at e19
        have ag := hI.at_ 19 49 rfl l19
        rw [show val 19 = _ from hI.gd 19 l19] at ag
        have p4 := (hI.old 4 (by kernel_rfl) rfl).get
        refine Draws.wpOp_want (by rfl) (Draws.want_at 19 49 rfl rfl ag) (State.wp_value (v := .pointer (some ⟨B4, 0, none⟩)) (w' := W) ?_ (hI.same hloc hL _ _ (Cell.grown_refl _) (Draws.upd_at _ _ _)))
        simp only [execOp]
        go_simp
      · obtain rfl := Option.some.inj ho
        have l22 := hd 22 (by simp [State.BordGDep])
        have e22 := (hI.at_ 22 52 rfl l22).get
        have l19 := hd 19 (by simp [State.BordGDep])
        have e19 := (hI.at_ 19 49 rfl l19).get
        rw [show val 22 = _ from hI.gd 22 l22] at e22
        rw [show val 19 = _ from hI.gd 19 l19] at e19
        have ag := hI.at_ 19 49 rfl l19
        rw [show val 19 = _ from hI.gd 19 l19] at ag
        refine Draws.wpOp_want (by rfl) (Draws.want_at 19 49 rfl rfl ag) (State.wp_value (v := .int .i64 ei) (w' := W) ?_ (hI.same hloc hL _ _ (Cell.grown_refl _) (Draws.upd_at _ _ _)))
        simp only [execOp]
        go_simp
      · obtain rfl := Option.some.inj ho
        have l21 := hd 21 (by simp [State.BordGDep])
        have e21 := (hI.at_ 21 51 rfl l21).get
        have l23 := hd 23 (by simp [State.BordGDep])
        have e23 := (hI.at_ 23 53 rfl l23).get
        have l19 := hd 19 (by simp [State.BordGDep])
        have e19 := (hI.at_ 19 49 rfl l19).get
        rw [show val 21 = _ from hI.gd 21 l21] at e21
        rw [show val 23 = _ from hI.gd 23 l23] at e23
        rw [show val 19 = _ from hI.gd 19 l19] at e19
        have ag := hI.at_ 19 49 rfl l19
        rw [show val 19 = _ from hI.gd 19 l19] at ag
        refine Draws.wpOp_want (by rfl) (Draws.want_at 19 49 rfl rfl ag) (State.wp_value (v := .bool true) (w' := W) ?_ (hI.same hloc hL _ _ (Cell.grown_refl _) (Draws.upd_at _ _ _)))
        simp only [execOp]
        go_simp
      · obtain rfl := Option.some.inj ho
        have l19 := hd 19 (by simp [State.BordGDep])
        have e19 := (hI.at_ 19 49 rfl l19).get
        have l24 := hd 24 (by simp [State.BordGDep])
        have e24 := (hI.at_ 24 54 rfl l24).get
        rw [show val 19 = _ from hI.gd 19 l19] at e19
        rw [show val 24 = _ from hI.gd 24 l24] at e24
        refine Draws.wpOp_of (by rfl) rfl (State.wp_value (v := .bool true) (w' := W) ?_ (hI.same hloc hL _ _ (Cell.grown_refl _) (Draws.upd_at _ _ _)))
        simp only [execOp]
        go_simp
      · obtain rfl := Option.some.inj ho
        have l25 := hd 25 (by simp [State.BordGDep])
        have e25 := (hI.at_ 25 55 rfl l25).get
        rw [show val 25 = _ from hI.gd 25 l25] at e25
        refine Draws.wpOp_of (by rfl) rfl (State.wp_value (v := .bool true) (w' := W) ?_ (hI.same hloc hL _ _ (Cell.grown_refl _) (Draws.upd_at _ _ _)))
        simp only [execOp]
        go_simp
      · obtain rfl := Option.some.inj ho
        have l26 := hd 26 (by simp [State.BordGDep])
        have e26 := (hI.at_ 26 56 rfl l26).get
        rw [show val 26 = _ from hI.gd 26 l26] at e26
        have ag := hI.at_ 26 56 rfl l26
        rw [show val 26 = _ from hI.gd 26 l26] at ag
        have p6 := (hI.old 6 (by kernel_rfl) rfl).get
        refine Draws.wpOp_want (by rfl) (Draws.want_at 26 56 rfl rfl ag) (State.wp_value (v := .pointer (some ⟨B6, 1, none⟩)) (w' := W) ?_ (hI.same hloc hL _ _ (Cell.grown_refl _) (Draws.upd_at _ _ _)))
        simp only [execOp]
        go_simp
      · obtain rfl := Option.some.inj ho
        have l27 := hd 27 (by simp [State.BordGDep])
        have e27 := (hI.at_ 27 57 rfl l27).get
        have l26 := hd 26 (by simp [State.BordGDep])
        have e26 := (hI.at_ 26 56 rfl l26).get
        rw [show val 27 = _ from hI.gd 27 l27] at e27
        rw [show val 26 = _ from hI.gd 26 l26] at e26
        have ag := hI.at_ 26 56 rfl l26
        rw [show val 26 = _ from hI.gd 26 l26] at ag
        refine Draws.wpOp_want (by rfl) (Draws.want_at 26 56 rfl rfl ag) (State.wp_value (v := .int .i64 M) (w' := W) ?_ (hI.same hloc hL _ _ (Cell.grown_refl _) (Draws.upd_at _ _ _)))
        simp only [execOp]
        go_simp
      · obtain rfl := Option.some.inj ho
        have l26 := hd 26 (by simp [State.BordGDep])
        have e26 := (hI.at_ 26 56 rfl l26).get
        rw [show val 26 = _ from hI.gd 26 l26] at e26
        have ag := hI.at_ 26 56 rfl l26
        rw [show val 26 = _ from hI.gd 26 l26] at ag
        have p3 := (hI.old 3 (by kernel_rfl) rfl).get
        refine Draws.wpOp_want (by rfl) (Draws.want_at 26 56 rfl rfl ag) (State.wp_value (v := .pointer (some ⟨B3, 2, none⟩)) (w' := W) ?_ (hI.same hloc hL _ _ (Cell.grown_refl _) (Draws.upd_at _ _ _)))
        simp only [execOp]
        go_simp
      · obtain rfl := Option.some.inj ho
        have l29 := hd 29 (by simp [State.BordGDep])
        have e29 := (hI.at_ 29 59 rfl l29).get
        have l26 := hd 26 (by simp [State.BordGDep])
        have e26 := (hI.at_ 26 56 rfl l26).get
        rw [show val 29 = _ from hI.gd 29 l29] at e29
        rw [show val 26 = _ from hI.gd 26 l26] at e26
        have ag := hI.at_ 26 56 rfl l26
        rw [show val 26 = _ from hI.gd 26 l26] at ag
        refine Draws.wpOp_want (by rfl) (Draws.want_at 26 56 rfl rfl ag) (State.wp_value (v := .slice (some ⟨g2, 0, none⟩) n1 c2) (w' := W) ?_ (hI.same hloc hL _ _ (Cell.grown_refl _) (Draws.upd_at _ _ _)))
        simp only [execOp]
        go_simp
      · obtain rfl := Option.some.inj ho
        have l26 := hd 26 (by simp [State.BordGDep])
        have e26 := (hI.at_ 26 56 rfl l26).get
        rw [show val 26 = _ from hI.gd 26 l26] at e26
        have ag := hI.at_ 26 56 rfl l26
        rw [show val 26 = _ from hI.gd 26 l26] at ag
        have p8 := (hI.old 8 (by kernel_rfl) rfl).get
        refine Draws.wpOp_want (by rfl) (Draws.want_at 26 56 rfl rfl ag) (State.wp_value (v := .int .i64 (k : Int)) (w' := W) ?_ (hI.same hloc hL _ _ (Cell.grown_refl _) (Draws.upd_at _ _ _)))
        simp only [execOp]
        go_simp
      · obtain rfl := Option.some.inj ho
        have l30 := hd 30 (by simp [State.BordGDep])
        have e30 := (hI.at_ 30 60 rfl l30).get
        have l31 := hd 31 (by simp [State.BordGDep])
        have e31 := (hI.at_ 31 61 rfl l31).get
        have l26 := hd 26 (by simp [State.BordGDep])
        have e26 := (hI.at_ 26 56 rfl l26).get
        rw [show val 30 = _ from hI.gd 30 l30] at e30
        rw [show val 31 = _ from hI.gd 31 l31] at e31
        rw [show val 26 = _ from hI.gd 26 l26] at e26
        have ag := hI.at_ 26 56 rfl l26
        rw [show val 26 = _ from hI.gd 26 l26] at ag
        refine Draws.wpOp_want (by rfl) (Draws.want_at 26 56 rfl rfl ag) (State.wp_value (v := .pointer (some ⟨g2, k, none⟩)) (w' := W) ?_ (hI.same hloc hL _ _ (Cell.grown_refl _) (Draws.upd_at _ _ _)))
        simp only [execOp]
        go_simp
      · obtain rfl := Option.some.inj ho
        have l32 := hd 32 (by simp [State.BordGDep])
        have e32 := (hI.at_ 32 62 rfl l32).get
        have l26 := hd 26 (by simp [State.BordGDep])
        have e26 := (hI.at_ 26 56 rfl l26).get
        rw [show val 32 = _ from hI.gd 32 l32] at e32
        rw [show val 26 = _ from hI.gd 26 l26] at e26
        have ag := hI.at_ 26 56 rfl l26
        rw [show val 26 = _ from hI.gd 26 l26] at ag
        refine Draws.wpOp_want (by rfl) (Draws.want_at 26 56 rfl rfl ag) (State.wp_value (v := .int .i64 x) (w' := W) ?_ (hI.same hloc hL _ _ (Cell.grown_refl _) (Draws.upd_at _ _ _)))
        simp only [execOp]
        go_simp
      · obtain rfl := Option.some.inj ho
        have l26 := hd 26 (by simp [State.BordGDep])
        have e26 := (hI.at_ 26 56 rfl l26).get
        rw [show val 26 = _ from hI.gd 26 l26] at e26
        have ag := hI.at_ 26 56 rfl l26
        rw [show val 26 = _ from hI.gd 26 l26] at ag
        have p4 := (hI.old 4 (by kernel_rfl) rfl).get
        refine Draws.wpOp_want (by rfl) (Draws.want_at 26 56 rfl rfl ag) (State.wp_value (v := .pointer (some ⟨B4, 2, none⟩)) (w' := W) ?_ (hI.same hloc hL _ _ (Cell.grown_refl _) (Draws.upd_at _ _ _)))
        simp only [execOp]
        go_simp
      · obtain rfl := Option.some.inj ho
        have l34 := hd 34 (by simp [State.BordGDep])
        have e34 := (hI.at_ 34 64 rfl l34).get
        have l26 := hd 26 (by simp [State.BordGDep])
        have e26 := (hI.at_ 26 56 rfl l26).get
        rw [show val 34 = _ from hI.gd 34 l34] at e34
        rw [show val 26 = _ from hI.gd 26 l26] at e26
        have ag := hI.at_ 26 56 rfl l26
        rw [show val 26 = _ from hI.gd 26 l26] at ag
        refine Draws.wpOp_want (by rfl) (Draws.want_at 26 56 rfl rfl ag) (State.wp_value (v := .int .i64 eo) (w' := W) ?_ (hI.same hloc hL _ _ (Cell.grown_refl _) (Draws.upd_at _ _ _)))
        simp only [execOp]
        go_simp
      · obtain rfl := Option.some.inj ho
        have l33 := hd 33 (by simp [State.BordGDep])
        have e33 := (hI.at_ 33 63 rfl l33).get
        have l35 := hd 35 (by simp [State.BordGDep])
        have e35 := (hI.at_ 35 65 rfl l35).get
        have l26 := hd 26 (by simp [State.BordGDep])
        have e26 := (hI.at_ 26 56 rfl l26).get
        rw [show val 33 = _ from hI.gd 33 l33] at e33
        rw [show val 35 = _ from hI.gd 35 l35] at e35
        rw [show val 26 = _ from hI.gd 26 l26] at e26
        have ag := hI.at_ 26 56 rfl l26
        rw [show val 26 = _ from hI.gd 26 l26] at ag
        refine Draws.wpOp_want (by rfl) (Draws.want_at 26 56 rfl rfl ag) (State.wp_value (v := .int .i64 (x * eo)) (w' := W) ?_ (hI.same hloc hL _ _ (Cell.grown_refl _) (Draws.upd_at _ _ _)))
        simp only [execOp]
        go_simp
      · obtain rfl := Option.some.inj ho
        have l36 := hd 36 (by simp [State.BordGDep])
        have e36 := (hI.at_ 36 66 rfl l36).get
        have l26 := hd 26 (by simp [State.BordGDep])
        have e26 := (hI.at_ 26 56 rfl l26).get
        rw [show val 36 = _ from hI.gd 36 l36] at e36
        rw [show val 26 = _ from hI.gd 26 l26] at e26
        have ag := hI.at_ 26 56 rfl l26
        rw [show val 26 = _ from hI.gd 26 l26] at ag
        refine Draws.wpOp_want (by rfl) (Draws.want_at 26 56 rfl rfl ag) (State.wp_value (v := .int .i64 M) (w' := W) ?_ (hI.same hloc hL _ _ (Cell.grown_refl _) (Draws.upd_at _ _ _)))
        simp only [execOp]
        go_simp
      · obtain rfl := Option.some.inj ho
        have l28 := hd 28 (by simp [State.BordGDep])
        have e28 := (hI.at_ 28 58 rfl l28).get
        have l37 := hd 37 (by simp [State.BordGDep])
        have e37 := (hI.at_ 37 67 rfl l37).get
        have l26 := hd 26 (by simp [State.BordGDep])
        have e26 := (hI.at_ 26 56 rfl l26).get
        rw [show val 28 = _ from hI.gd 28 l28] at e28
        rw [show val 37 = _ from hI.gd 37 l37] at e37
        rw [show val 26 = _ from hI.gd 26 l26] at e26
        have ag := hI.at_ 26 56 rfl l26
        rw [show val 26 = _ from hI.gd 26 l26] at ag
        refine Draws.wpOp_want (by rfl) (Draws.want_at 26 56 rfl rfl ag) (State.wp_value (v := .bool true) (w' := W) ?_ (hI.same hloc hL _ _ (Cell.grown_refl _) (Draws.upd_at _ _ _)))
        simp only [execOp]
        go_simp
      · obtain rfl := Option.some.inj ho
        have l26 := hd 26 (by simp [State.BordGDep])
        have e26 := (hI.at_ 26 56 rfl l26).get
        have l38 := hd 38 (by simp [State.BordGDep])
        have e38 := (hI.at_ 38 68 rfl l38).get
        rw [show val 26 = _ from hI.gd 26 l26] at e26
        rw [show val 38 = _ from hI.gd 38 l38] at e38
        refine Draws.wpOp_of (by rfl) rfl (State.wp_value (v := .bool true) (w' := W) ?_ (hI.same hloc hL _ _ (Cell.grown_refl _) (Draws.upd_at _ _ _)))
        simp only [execOp]
        go_simp
      · obtain rfl := Option.some.inj ho
        have l39 := hd 39 (by simp [State.BordGDep])
        have e39 := (hI.at_ 39 69 rfl l39).get
        rw [show val 39 = _ from hI.gd 39 l39] at e39
        refine Draws.wpOp_of (by rfl) rfl (State.wp_value (v := .bool true) (w' := W) ?_ (hI.same hloc hL _ _ (Cell.grown_refl _) (Draws.upd_at _ _ _)))
        simp only [execOp]
        go_simp
      · obtain rfl := Option.some.inj ho
        have l40 := hd 40 (by simp [State.BordGDep])
        have e40 := (hI.at_ 40 70 rfl l40).get
        rw [show val 40 = _ from hI.gd 40 l40] at e40
        have ag := hI.at_ 40 70 rfl l40
        rw [show val 40 = _ from hI.gd 40 l40] at ag
        have p6 := (hI.old 6 (by kernel_rfl) rfl).get
        refine Draws.wpOp_want (by rfl) (Draws.want_at 40 70 rfl rfl ag) (State.wp_value (v := .pointer (some ⟨B6, 2, none⟩)) (w' := W) ?_ (hI.same hloc hL _ _ (Cell.grown_refl _) (Draws.upd_at _ _ _)))
        simp only [execOp]
        go_simp
      · obtain rfl := Option.some.inj ho
        have l41 := hd 41 (by simp [State.BordGDep])
        have e41 := (hI.at_ 41 71 rfl l41).get
        have l40 := hd 40 (by simp [State.BordGDep])
        have e40 := (hI.at_ 40 70 rfl l40).get
        rw [show val 41 = _ from hI.gd 41 l41] at e41
        rw [show val 40 = _ from hI.gd 40 l40] at e40
        have ag := hI.at_ 40 70 rfl l40
        rw [show val 40 = _ from hI.gd 40 l40] at ag
        refine Draws.wpOp_want (by rfl) (Draws.want_at 40 70 rfl rfl ag) (State.wp_value (v := .int .i64 F) (w' := W) ?_ (hI.same hloc hL _ _ (Cell.grown_refl _) (Draws.upd_at _ _ _)))
        simp only [execOp]
        go_simp
      · obtain rfl := Option.some.inj ho
        have l40 := hd 40 (by simp [State.BordGDep])
        have e40 := (hI.at_ 40 70 rfl l40).get
        rw [show val 40 = _ from hI.gd 40 l40] at e40
        have ag := hI.at_ 40 70 rfl l40
        rw [show val 40 = _ from hI.gd 40 l40] at ag
        have p4 := (hI.old 4 (by kernel_rfl) rfl).get
        refine Draws.wpOp_want (by rfl) (Draws.want_at 40 70 rfl rfl ag) (State.wp_value (v := .pointer (some ⟨B4, 0, none⟩)) (w' := W) ?_ (hI.same hloc hL _ _ (Cell.grown_refl _) (Draws.upd_at _ _ _)))
        simp only [execOp]
        go_simp
      · obtain rfl := Option.some.inj ho
        have l43 := hd 43 (by simp [State.BordGDep])
        have e43 := (hI.at_ 43 73 rfl l43).get
        have l40 := hd 40 (by simp [State.BordGDep])
        have e40 := (hI.at_ 40 70 rfl l40).get
        rw [show val 43 = _ from hI.gd 43 l43] at e43
        rw [show val 40 = _ from hI.gd 40 l40] at e40
        have ag := hI.at_ 40 70 rfl l40
        rw [show val 40 = _ from hI.gd 40 l40] at ag
        refine Draws.wpOp_want (by rfl) (Draws.want_at 40 70 rfl rfl ag) (State.wp_value (v := .int .i64 ei) (w' := W) ?_ (hI.same hloc hL _ _ (Cell.grown_refl _) (Draws.upd_at _ _ _)))
        simp only [execOp]
        go_simp
      · obtain rfl := Option.some.inj ho
        have l40 := hd 40 (by simp [State.BordGDep])
        have e40 := (hI.at_ 40 70 rfl l40).get
        rw [show val 40 = _ from hI.gd 40 l40] at e40
        have ag := hI.at_ 40 70 rfl l40
        rw [show val 40 = _ from hI.gd 40 l40] at ag
        have p4 := (hI.old 4 (by kernel_rfl) rfl).get
        refine Draws.wpOp_want (by rfl) (Draws.want_at 40 70 rfl rfl ag) (State.wp_value (v := .pointer (some ⟨B4, 1, none⟩)) (w' := W) ?_ (hI.same hloc hL _ _ (Cell.grown_refl _) (Draws.upd_at _ _ _)))
        simp only [execOp]
        go_simp
      · obtain rfl := Option.some.inj ho
        have l45 := hd 45 (by simp [State.BordGDep])
        have e45 := (hI.at_ 45 75 rfl l45).get
        have l40 := hd 40 (by simp [State.BordGDep])
        have e40 := (hI.at_ 40 70 rfl l40).get
        rw [show val 45 = _ from hI.gd 45 l45] at e45
        rw [show val 40 = _ from hI.gd 40 l40] at e40
        have ag := hI.at_ 40 70 rfl l40
        rw [show val 40 = _ from hI.gd 40 l40] at ag
        refine Draws.wpOp_want (by rfl) (Draws.want_at 40 70 rfl rfl ag) (State.wp_value (v := .int .i64 es) (w' := W) ?_ (hI.same hloc hL _ _ (Cell.grown_refl _) (Draws.upd_at _ _ _)))
        simp only [execOp]
        go_simp
      · obtain rfl := Option.some.inj ho
        have l44 := hd 44 (by simp [State.BordGDep])
        have e44 := (hI.at_ 44 74 rfl l44).get
        have l46 := hd 46 (by simp [State.BordGDep])
        have e46 := (hI.at_ 46 76 rfl l46).get
        have l40 := hd 40 (by simp [State.BordGDep])
        have e40 := (hI.at_ 40 70 rfl l40).get
        rw [show val 44 = _ from hI.gd 44 l44] at e44
        rw [show val 46 = _ from hI.gd 46 l46] at e46
        rw [show val 40 = _ from hI.gd 40 l40] at e40
        have ag := hI.at_ 40 70 rfl l40
        rw [show val 40 = _ from hI.gd 40 l40] at ag
        refine Draws.wpOp_want (by rfl) (Draws.want_at 40 70 rfl rfl ag) (State.wp_value (v := .int .i64 F) (w' := W) ?_ (hI.same hloc hL _ _ (Cell.grown_refl _) (Draws.upd_at _ _ _)))
        simp only [execOp]
        go_simp
      · obtain rfl := Option.some.inj ho
        have l42 := hd 42 (by simp [State.BordGDep])
        have e42 := (hI.at_ 42 72 rfl l42).get
        have l47 := hd 47 (by simp [State.BordGDep])
        have e47 := (hI.at_ 47 77 rfl l47).get
        have l40 := hd 40 (by simp [State.BordGDep])
        have e40 := (hI.at_ 40 70 rfl l40).get
        rw [show val 42 = _ from hI.gd 42 l42] at e42
        rw [show val 47 = _ from hI.gd 47 l47] at e47
        rw [show val 40 = _ from hI.gd 40 l40] at e40
        have ag := hI.at_ 40 70 rfl l40
        rw [show val 40 = _ from hI.gd 40 l40] at ag
        refine Draws.wpOp_want (by rfl) (Draws.want_at 40 70 rfl rfl ag) (State.wp_value (v := .bool true) (w' := W) ?_ (hI.same hloc hL _ _ (Cell.grown_refl _) (Draws.upd_at _ _ _)))
        simp only [execOp]
        go_simp
      · obtain rfl := Option.some.inj ho
        have l40 := hd 40 (by simp [State.BordGDep])
        have e40 := (hI.at_ 40 70 rfl l40).get
        have l48 := hd 48 (by simp [State.BordGDep])
        have e48 := (hI.at_ 48 78 rfl l48).get
        rw [show val 40 = _ from hI.gd 40 l40] at e40
        rw [show val 48 = _ from hI.gd 48 l48] at e48
        refine Draws.wpOp_of (by rfl) rfl (State.wp_value (v := .bool true) (w' := W) ?_ (hI.same hloc hL _ _ (Cell.grown_refl _) (Draws.upd_at _ _ _)))
        simp only [execOp]
        go_simp
      · obtain rfl := Option.some.inj ho
        have l49 := hd 49 (by simp [State.BordGDep])
        have e49 := (hI.at_ 49 79 rfl l49).get
        rw [show val 49 = _ from hI.gd 49 l49] at e49
        refine Draws.wpOp_of (by rfl) rfl (State.wp_value (v := .bool true) (w' := W) ?_ (hI.same hloc hL _ _ (Cell.grown_refl _) (Draws.upd_at _ _ _)))
        simp only [execOp]
        go_simp
    case last =>
      intro L a W val G hI hall
      have v50 : val 50 = .bool true := hI.gd 50 (hall 50 (by simp))
      have hgr : w.grownBy W none := hI.hd.gr
      have ha := hI.frame (by kernel_rfl) hall
      refine hKK _ _ ?_
      clear hKK hI hall HLH HLF HSO HBO HX HE8
      simp [Draws.frameOf, Draws.slotOf, Act.put, List.range, List.range.loop] at ha
      subst ha
      rw [v50]
      clear v50
      go_wp2_with fail
      go_ret
      exact ⟨rfl, Cell.grown_below hgr (Nat.le_refl _)⟩

set_option maxRecDepth 100000 in
theorem lifted (os : Os) (started : os.Started) (H : Type) (enc : TypeId × Value → H) :
    ReturnsInHanded {} Try.checked os 3 .any (Rows.fnBordersSpec.pre6 enc Try.prog Try.f3 Rows.fnBordersRow.domain false) (Rows.fnBordersSpec.post enc Try.prog Try.f3 false true false false) := by
  refine returnsInHanded_of_change (C := Try.checked) own started (by kernel_rfl) Try.func3
    (ChangeSpec.witness6 (enc := enc) (C := Try.checked) false ⟨#[], #[.slice none 0 0], []⟩ 8 (by kernel_rfl) (by kernel_rfl) (by kernel_rfl) (by kernel_rfl)) ?_
  intro W base args ds gs before hval0 hW hcnd _
  have hval : ∀ (j : Nat) t v, Try.f3.params[j]? = some t → args[j]? = some v → Value.okWide Try.prog W .any base t v := hval0
  have hW' := hW
  obtain ⟨p, q, hA0, hV, rfl, hfz, hnd⟩ := hW
  have hA : DataW.TrodAll enc Try.prog W 0 (fun _ => true) true Try.f3.params.toList args.toList ds p := hA0
  rw [Try.params3] at hA hval
  obtain ⟨v0, vs0, d0, ds0, p0, q0, hargs, rfl, rfl, h0, r0⟩ := trodAll_cons hA
  obtain ⟨rfl, rfl, rfl⟩ := trodAll_nil r0
  obtain rfl : args = #[v0] := by cases args; simp_all
  obtain ⟨rfl, rfl⟩ := trodVars_none hV
  obtain ⟨a0, len0, cap0, rfl⟩ := okWide_slice Try.underlying22 (hval 0 22 v0 rfl rfl)
  have k0 := h0
  have lt0 : ∀ x ∈ p0, x.block < W.heap.size := by obtain ⟨m, hm⟩ := k0; exact DataW.trod_lt m _ _ _ hm
  obtain ⟨z0, w0⟩ : ∃ zs, IsRow .u8 W a0 len0 cap0 zs := by
    obtain ⟨fuel, hf⟩ := h0
    rcases open_ints Try.underlying22 Try.underlying5 (by kernel_rfl) hf with ⟨hcs, _⟩ | ⟨x, l, c, zs, hcs, _, hl, hm, hz, _, hcell, hwz⟩
    · simp [Value.cells] at hcs
      obtain ⟨rfl, rfl, rfl⟩ := hcs
      exact ⟨[], .inl ⟨rfl, rfl, rfl, rfl⟩⟩
    · simp [Value.cells] at hcs
      obtain ⟨rfl, rfl, rfl⟩ := hcs
      exact ⟨zs, .inr ⟨_, rfl, hl, hm, by simpa using hz, hcell, hwz⟩⟩
  clear hA0 hval0
  refine (walk a0 len0 cap0 z0 W w0).mono fun e W' ⟨he, bel⟩ => ?_
  subst he
  exact ⟨_, rfl, _, _, _, [], _, [], hW', trodAll_mk1 (shut_bool Try.underlying4 _), (trodAll_cons_mk (Below.trod laidOut (by kernel_rfl) (of_decide_eq_true (by kernel_rfl)) k0 bel lt0) trodAll_mk0), rfl, bel.frame _, fun h => by cases h⟩

theorem over : Rows.fnBordersRow.holds Try.pinned (OpenSpec.ofChange Rows.fnBordersSpec) :=
  OpenClaim.holds_of_wide 3 Try.f3 rfl rfl rfl rfl rfl rfl rfl ⟨rfl, rfl, rfl, rfl, rfl⟩ rfl rfl rfl rfl rfl (by kernel_rfl) Try.func3 (by kernel_rfl)
    (of_decide_eq_true (by kernel_rfl)) (by unfold Func.isWrapper; first | (rw [if_pos (by decide +kernel)]; kernel_rfl) | (rw [if_neg (by decide +kernel)]; exact ⟨rfl, rfl⟩))
    (fun os started H enc _ => lifted os started H enc)

theorem proved : Rows.FnBordersSaid := over
#print axioms proved
end Go.Proofs.Ytngacnckejnllaa.fnBorders
