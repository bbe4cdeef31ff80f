/- Proved: for every slice of bytes the law FnRains returns true: at a drawn state the program's RainOn, and its Soak of what RainOn answers, answer valid states and ledgers that explain the changes of the totals, each and both together; rain brings no tracer and takes no mass, a loss brings no mass.
   Conditions: none besides those that the given row prints. -/
import Derived.Test.YtmbmeajneankpaaRows
import Derived.WalkKit
import Derived.ProofKit
import Derived.OpenShut
import Derived.ShutString
import Derived.Test.YtmbmeajneankpaaStSrcL
import Derived.Test.YtmbmeajneankpaaStSrcI
import Derived.Test.YtmbmeajneankpaaStLedH
import Derived.ChangeOld
import Derived.Below
set_option maxRecDepth 100000
namespace Go.Proofs.Ytmbmeajneankpaa.fnRains
open Go.ChangeShapes Go.WideShapes Go.ChangeAt Go.RowKit
open Go.ChangeMaps (open_string shut_string)
set_option linter.unusedVariables false

theorem own : ownKnob Try.prog.godebug = none := by kernel_rfl
theorem laidOut : laidOutB Try.prog = true := by kernel_rfl

def IsRow (k : IntKind) (w : World) (a : Option Addr) (len cap : Nat) (zs : List Int) : Prop :=
  (a = none ∧ len = 0 ∧ cap = 0 ∧ zs = []) ∨
  ∃ x, a = some x ∧ len ≤ cap ∧ cap ≤ maxLen ∧ zs.length = cap ∧ (∀ i, i < zs.length → w.cell? (x.add i) = some (.int k (zs.getD i 0))) ∧ ∀ n ∈ zs, (Lit.int k n).wf = true

set_option maxHeartbeats 32000000 in
theorem walk (a0 : Option Addr) (len0 cap0 : Nat) (z0 : List Int) (w : World) (w0 : IsRow .u8 w a0 len0 cap0 z0) :
    Calls Try.prog 3 #[.slice a0 len0 cap0] w fun e w' => e = .returned (.bool true) ∧ Below w.heap.size w w' := by
  have hb := Draw.bytes_of w0
  have HB := Lib.hid hb; clear hb
  clear w0
  by_cases hlen : 1048576 < len0
  · have hd : decide (1048576 < (len0 : Int)) = true := by simp; omega
    go_enter Try.func3, Try.ntmps3
    go_wp2_with fail
    refine Draw.big_any.mono ?_; rintro e w1 ⟨rfl, rfl⟩
    rw [hd]
    go_wp2_with fail
    go_ret
    exact ⟨rfl, Below.refl _ _⟩
  · have hd : decide (1048576 < (len0 : Int)) = false := by simp; omega
    have hlen' : len0 ≤ 1048576 := by omega
    have HLen := Lib.hid hlen'; clear hlen'
    go_enter Try.func3, Try.ntmps3
    go_wp2_with fail
    refine Draw.big_any.mono ?_; rintro e w1 ⟨rfl, rfl⟩
    rw [hd]
    clear hd hlen
    go_wp2_with fail
    refine (State.drawState_is HLen.out HB.out (Nat.le_refl _)).mono ?_
    rintro e w1 ⟨R, n1, n2, xs, ms, ts, bs, x1, c1, x2, c2, x3, c3, x4, c4, rfl, hd, ho, hg⟩
    obtain ⟨hn2, hn2', hR⟩ := hd.sizes
    have hn := hd.leaves
    obtain ⟨g1, c1', hv⟩ := Mesh.own_at1 ho.l (by omega)
    cases hv
    obtain ⟨g2, rfl, -, -⟩ := Ints.own_atI ho.m (by omega)
    obtain ⟨g3, rfl, -, -⟩ := Ints.own_atI ho.t (by omega)
    obtain ⟨g4, rfl, -, -⟩ := Ints.own_atI ho.b (by omega)
    have HE1 := Lib.hid ((State.Held.state (Law.Held.nil w) hg ho).box 29 #[.int .i64 R, .slice (some ⟨g1, 0, none⟩) n1 c1, .slice (some ⟨g2, 0, none⟩) n1 c2, .slice (some ⟨g3, 0, none⟩) n1 c3, .slice (some ⟨g4, 0, none⟩) n2 c4])
    have HD := Lib.hid hd
    have H1 := Lib.hid (show n1 ≤ 1048576 by omega); have H2 := Lib.hid (show n2 ≤ 1048576 by omega)
    have HN := Lib.hid hn
    have hn1 : 1 ≤ (n1 : Int) := by omega
    have hn1' : (n1 : Int) ≤ 128 := by omega
    have HBW := Lib.hid (HB.out.kept (fun b hb' => (hg.block b hb' (by simp))))
    have HSZ := Lib.hid hg.size
    clear ho hg hd hn hn2 hn2' hR HB
    go_upto_region 4 with fail
    obtain ⟨B3, hB3⟩ : ∃ B, B = w1.heap.size := ⟨_, rfl⟩
    rw [← hB3] at HE1 ⊢
    clear hB3
    have HBX := Lib.hid (HBW.out.kept (fun b hb' => (World.grownBy_alloc w1 (.cells #[.int .i64 R, .slice (some ⟨g1, 0, none⟩) n1 c1, .slice (some ⟨g2, 0, none⟩) n1 c2, .slice (some ⟨g3, 0, none⟩) n1 c3, .slice (some ⟨g4, 0, none⟩) n2 c4] 29) none).block b (by have := HSZ.out; omega) (by simp)))
    have HSX := Lib.hid (Nat.le_trans HSZ.out (World.grownBy_alloc w1 (.cells #[.int .i64 R, .slice (some ⟨g1, 0, none⟩) n1 c1, .slice (some ⟨g2, 0, none⟩) n1 c2, .slice (some ⟨g3, 0, none⟩) n1 c3, .slice (some ⟨g4, 0, none⟩) n2 c4] 29) none).size)
    clear HBW HSZ
    generalize w1.alloc (.cells #[.int .i64 R, .slice (some ⟨g1, 0, none⟩) n1 c1, .slice (some ⟨g2, 0, none⟩) n1 c2, .slice (some ⟨g3, 0, none⟩) n1 c3, .slice (some ⟨g4, 0, none⟩) n2 c4] 29) = W1 at *
    go_upto_region 5 with (go_at_call 10; ((with_reducible refine (State.places_new HLen.out HBX.out HSX.out).mono ?_); rintro e w2 ⟨gp, cp, p0, p1, p2, rfl, q0, q1, q2, hp, hlo, hg⟩; have HE2 := Lib.hid (HE1.out.add hg hp (fun b hb => by rw [List.mem_singleton.1 hb]; exact hlo)); clear hp hlo hg))
    clear HE1 HBX HSX HLen
    have hok := HD.out.ok
    obtain ⟨hMb, hTb⟩ := HD.out.sums
    have ha0 : State.amtB p0 = true := decide_eq_true (by omega)
    obtain ⟨hxo, hxs, l0a, l0b⟩ := State.rn_ok (a := p0) hok
    obtain ⟨mx, hmx⟩ : ∃ z, z = State.rnM R xs ms ts bs p0 := ⟨_, rfl⟩
    obtain ⟨rl, hl0⟩ : ∃ z, z = State.rnL R xs ms ts bs p0 := ⟨_, rfl⟩
    rw [← hmx] at hxo hxs
    rw [← hl0] at hxs l0a l0b
    obtain ⟨hyo, hys, hyt, ⟨m1a, m1b⟩, m3a, m3b⟩ := State.sk_ok (a := p1) hxo
    obtain ⟨my, hmy⟩ : ∃ z, z = State.skM R xs mx ts bs p1 := ⟨_, rfl⟩
    obtain ⟨ty, hty⟩ : ∃ z, z = State.skT R xs mx ts bs p1 := ⟨_, rfl⟩
    obtain ⟨m1, hm1⟩ : ∃ z, z = State.skL1 R xs mx ts bs p1 := ⟨_, rfl⟩
    obtain ⟨m3, hm3⟩ : ∃ z, z = State.skL3 R xs mx ts bs p1 := ⟨_, rfl⟩
    rw [← hmy, ← hty] at hyo
    rw [← hmy, ← hm1] at hys
    rw [← hty, ← hm3] at hyt
    rw [← hm1] at m1a m1b
    rw [← hm3] at m3a m3b
    have HRN := Lib.hid (show ∀ u, State.ReadsS u (some ⟨g1, 0, none⟩) (some ⟨g2, 0, none⟩) (some ⟨g3, 0, none⟩) (some ⟨g4, 0, none⟩) n1 n1 n1 n2 xs ms ts bs → Calls Try.prog 11 #[.agg #[.int .i64 R, .slice (some ⟨g1, 0, none⟩) n1 c1, .slice (some ⟨g2, 0, none⟩) n1 c2, .slice (some ⟨g3, 0, none⟩) n1 c3, .slice (some ⟨g4, 0, none⟩) n2 c4], .int .i64 p0] u (State.GivesSL R n1 n1 n1 n2 xs mx ts bs rl 0 0 0 u) from fun u h => by
      have q := State.rainOn_is R _ _ _ _ n1 n1 n1 n2 c1 c2 c3 c4 xs ms ts bs p0 u h H1.out H1.out H1.out H2.out
      rw [← hmx, ← hl0] at q
      exact q)
    have HSK := Lib.hid (show ∀ u (q1 q2 q3 q4 : Option Addr) (d1 d2 d3 d4 : Nat), State.ReadsS u q1 q2 q3 q4 n1 n1 n1 n2 xs mx ts bs → Calls Try.prog 12 #[.agg #[.int .i64 R, .slice q1 n1 d1, .slice q2 n1 d2, .slice q3 n1 d3, .slice q4 n2 d4], .int .i64 p1] u (State.GivesSL R n1 n1 n1 n2 xs my ty bs 0 m1 0 m3 u) from fun u q1 q2 q3 q4 d1 d2 d3 d4 h => by
      have q := State.soak_is R _ _ _ _ n1 n1 n1 n2 d1 d2 d3 d4 xs mx ts bs p1 u h H1.out H1.out H1.out H2.out
      rw [← hmy, ← hty, ← hm1, ← hm3] at q
      exact q)
    clear hmx hl0 hmy hty hm1 hm3 ha0
    obtain ⟨U, hU⟩ : ∃ U, U = ms.sum := ⟨_, rfl⟩
    obtain ⟨V, hV⟩ : ∃ V, V = mx.sum := ⟨_, rfl⟩
    obtain ⟨V', hV'⟩ : ∃ V, V = my.sum := ⟨_, rfl⟩
    obtain ⟨Y, hY⟩ : ∃ Y, Y = ts.sum := ⟨_, rfl⟩
    obtain ⟨Z, hZ⟩ : ∃ Z, Z = ty.sum := ⟨_, rfl⟩
    rw [← hU, ← hV] at hxs
    rw [← hV, ← hV'] at hys
    rw [← hY, ← hZ] at hyt
    rw [← hU] at hMb
    rw [← hY] at hTb
    have w0 : ∀ z : Int, -20000000000000 ≤ z ∧ z ≤ 20000000000000 → IntKind.i64.wrap z = z := fun z hz => IntWalk.i64_in _ (by omega)
    have hold1 : State.holdB true true U V Y Y rl 0 0 0 = true := by unfold State.holdB; rw [w0 (U + rl) (by omega), w0 (U + rl - 0) (by omega), w0 (Y + 0) (by omega), w0 (Y + 0 - 0) (by omega)]; simp; omega
    have hold2 : State.holdB true true V V' Y Z 0 m1 0 m3 = true := by unfold State.holdB; rw [w0 (V + 0) (by omega), w0 (V + 0 - m1) (by omega), w0 (Y + 0) (by omega), w0 (Y + 0 - m3) (by omega)]; simp; omega
    have hold3 : State.holdB true true U V' Y Z rl m1 0 m3 = true := by unfold State.holdB; rw [w0 (U + rl) (by omega), w0 (U + rl - m1) (by omega), w0 (Y + 0) (by omega), w0 (Y + 0 - m3) (by omega)]; simp; omega
    have HL10 := Lib.hid (show ∀ u (q1 q2 q3 q4 : Option Addr) (d1 d2 d3 d4 : Nat), State.ReadsS u (some ⟨g1, 0, none⟩) (some ⟨g2, 0, none⟩) (some ⟨g3, 0, none⟩) (some ⟨g4, 0, none⟩) n1 n1 n1 n2 xs ms ts bs → State.ReadsS u q1 q2 q3 q4 n1 n1 n1 n2 xs mx ts bs → Calls Try.prog 13 #[.agg #[.int .i64 R, .slice (some ⟨g1, 0, none⟩) n1 c1, .slice (some ⟨g2, 0, none⟩) n1 c2, .slice (some ⟨g3, 0, none⟩) n1 c3, .slice (some ⟨g4, 0, none⟩) n2 c4], .agg #[.int .i64 R, .slice q1 n1 d1, .slice q2 n1 d2, .slice q3 n1 d3, .slice q4 n2 d4], .agg #[.int .i64 rl, .int .i64 0, .int .i64 0, .int .i64 0]] u fun e w' => e = .returned (.bool true) ∧ u.grownBy w' none from fun u q1 q2 q3 q4 d1 d2 d3 d4 h k => by
      have q := State.specLedgerHolds_is R R _ _ _ _ _ _ _ _ n1 n1 n1 n2 c1 c2 c3 c4 n1 n1 n1 n2 d1 d2 d3 d4 xs xs ms ts bs mx ts bs rl 0 0 0 u h H1.out H1.out H1.out H2.out k H1.out H1.out H1.out H2.out
      rw [hok, hxo, if_pos rfl, if_pos rfl, if_pos rfl, ← hU, ← hV, ← hY, hold1] at q
      exact q)
    have HL20 := Lib.hid (show ∀ u (q1 q2 q3 q4 s1 s2 s3 s4 : Option Addr) (d1 d2 d3 d4 j1 j2 j3 j4 : Nat), State.ReadsS u q1 q2 q3 q4 n1 n1 n1 n2 xs mx ts bs → State.ReadsS u s1 s2 s3 s4 n1 n1 n1 n2 xs my ty bs → Calls Try.prog 13 #[.agg #[.int .i64 R, .slice q1 n1 d1, .slice q2 n1 d2, .slice q3 n1 d3, .slice q4 n2 d4], .agg #[.int .i64 R, .slice s1 n1 j1, .slice s2 n1 j2, .slice s3 n1 j3, .slice s4 n2 j4], .agg #[.int .i64 0, .int .i64 m1, .int .i64 0, .int .i64 m3]] u fun e w' => e = .returned (.bool true) ∧ u.grownBy w' none from fun u q1 q2 q3 q4 s1 s2 s3 s4 d1 d2 d3 d4 j1 j2 j3 j4 h k => by
      have q := State.specLedgerHolds_is R R _ _ _ _ _ _ _ _ n1 n1 n1 n2 d1 d2 d3 d4 n1 n1 n1 n2 j1 j2 j3 j4 xs xs mx ts bs my ty bs 0 m1 0 m3 u h H1.out H1.out H1.out H2.out k H1.out H1.out H1.out H2.out
      rw [hxo, hyo, if_pos rfl, if_pos rfl, if_pos rfl, if_pos rfl, ← hV, ← hV', ← hY, ← hZ, hold2] at q
      exact q)
    have HL30 := Lib.hid (show ∀ u (s1 s2 s3 s4 : Option Addr) (j1 j2 j3 j4 : Nat), State.ReadsS u (some ⟨g1, 0, none⟩) (some ⟨g2, 0, none⟩) (some ⟨g3, 0, none⟩) (some ⟨g4, 0, none⟩) n1 n1 n1 n2 xs ms ts bs → State.ReadsS u s1 s2 s3 s4 n1 n1 n1 n2 xs my ty bs → Calls Try.prog 13 #[.agg #[.int .i64 R, .slice (some ⟨g1, 0, none⟩) n1 c1, .slice (some ⟨g2, 0, none⟩) n1 c2, .slice (some ⟨g3, 0, none⟩) n1 c3, .slice (some ⟨g4, 0, none⟩) n2 c4], .agg #[.int .i64 R, .slice s1 n1 j1, .slice s2 n1 j2, .slice s3 n1 j3, .slice s4 n2 j4], .agg #[.int .i64 rl, .int .i64 m1, .int .i64 0, .int .i64 m3]] u fun e w' => e = .returned (.bool true) ∧ u.grownBy w' none from fun u s1 s2 s3 s4 j1 j2 j3 j4 h k => by
      have q := State.specLedgerHolds_is R R _ _ _ _ _ _ _ _ n1 n1 n1 n2 c1 c2 c3 c4 n1 n1 n1 n2 j1 j2 j3 j4 xs xs ms ts bs my ty bs rl m1 0 m3 u h H1.out H1.out H1.out H2.out k H1.out H1.out H1.out H2.out
      rw [hok, hyo, if_pos rfl, if_pos rfl, if_pos rfl, if_pos rfl, ← hU, ← hV', ← hY, ← hZ, hold3] at q
      exact q)
    have HT1 := Lib.hid (show ∀ u, State.ReadsS u (some ⟨g1, 0, none⟩) (some ⟨g2, 0, none⟩) (some ⟨g3, 0, none⟩) (some ⟨g4, 0, none⟩) n1 n1 n1 n2 xs ms ts bs → Calls Try.prog 14 #[.agg #[.int .i64 R, .slice (some ⟨g1, 0, none⟩) n1 c1, .slice (some ⟨g2, 0, none⟩) n1 c2, .slice (some ⟨g3, 0, none⟩) n1 c3, .slice (some ⟨g4, 0, none⟩) n2 c4]] u fun e w' => e = .returned (.int .i64 Y) ∧ u.grownBy w' none from fun u h => by
      have q := State.specTotalTracer_is R _ _ _ _ n1 n1 n1 n2 c1 c2 c3 c4 xs ms ts bs u h H1.out H1.out H1.out H2.out
      rw [hok, if_pos rfl, ← hY] at q
      exact q)
    have HT20 := Lib.hid (show ∀ u (q1 q2 q3 q4 : Option Addr) (d1 d2 d3 d4 : Nat), State.ReadsS u q1 q2 q3 q4 n1 n1 n1 n2 xs mx ts bs → Calls Try.prog 14 #[.agg #[.int .i64 R, .slice q1 n1 d1, .slice q2 n1 d2, .slice q3 n1 d3, .slice q4 n2 d4]] u fun e w' => e = .returned (.int .i64 Y) ∧ u.grownBy w' none from fun u q1 q2 q3 q4 d1 d2 d3 d4 h => by
      have q := State.specTotalTracer_is R _ _ _ _ n1 n1 n1 n2 d1 d2 d3 d4 xs mx ts bs u h H1.out H1.out H1.out H2.out
      rw [hxo, if_pos rfl, ← hY] at q
      exact q)
    have HLA := Lib.hid (show ∀ u, Calls Try.prog 15 #[.agg #[.int .i64 rl, .int .i64 0, .int .i64 0, .int .i64 0], .agg #[.int .i64 0, .int .i64 m1, .int .i64 0, .int .i64 m3]] u fun e w' => e = .returned (.agg #[.int .i64 rl, .int .i64 m1, .int .i64 0, .int .i64 m3]) ∧ u.grownBy w' none from fun u => by
      have q := State.specLedgerAdd_is rl 0 0 0 0 m1 0 m3 u
      rw [Int.add_zero, Int.zero_add, Int.zero_add, Int.zero_add, w0 rl (by omega), w0 m1 (by omega), w0 0 (by omega), w0 m3 (by omega)] at q
      exact q)
    clear hold1 hold2 hold3 w0 hU hV hV' hY hZ hxs hys hyt hMb hTb hok hxo hyo l0a l0b m1a m1b m3a m3b q0 q1 q2 HD HN
    obtain ⟨z0, z1, z2, z3, z4⟩ := Law.box5 (HE2.out.nth 1 rfl)
    go_upto_region 5 with fail
    clear z0 z1 z2 z3 z4
    rename_i KK hKK
    refine Draws.wp_region_tabG (w := w) rfl (by kernel_rfl) (by kernel_rfl) State.RainGDep (by kernel_rfl) [State.stateG (.slice (some ⟨g1, 0, none⟩) n1 c1) (.slice (some ⟨g2, 0, none⟩) n1 c2) (.slice (some ⟨g3, 0, none⟩) n1 c3) (.slice (some ⟨g4, 0, none⟩) n2 c4) n1 n1 n1 n2 xs ms ts bs, Law.boxG B3 29 #[.int .i64 R, .slice (some ⟨g1, 0, none⟩) n1 c1, .slice (some ⟨g2, 0, none⟩) n1 c2, .slice (some ⟨g3, 0, none⟩) n1 c3, .slice (some ⟨g4, 0, none⟩) n2 c4], State.placesG gp p0 p1 p2] [4, 8, 9] (fun _ => Law.emptyG) (State.RainG R p0 p1 p2 g1 g2 g3 g4 n1 n2 c1 c2 c3 c4 B3 gp cp xs bs mx ts rl) ?start ?step ?last
    case start => exact (HE2.out.on (Mesh.gr_drew (Cell.grown_refl _))).addE.addE.addE
    case step =>
      clear hKK
      intro L a W val G i o hI ho hL hd
      have hi : i < 12 := by have := (Array.getElem?_eq_some_iff.1 ho).1; simpa using this
      have hloc := State.RainG_local R p0 p1 p2 g1 g2 g3 g4 n1 n2 c1 c2 c3 c4 B3 gp cp xs bs mx ts rl
      obtain ⟨z0, z1, z2, z3, z4⟩ := Law.box5 (hI.hd.nth 1 rfl)
      obtain ⟨c4', c5', c6'⟩ := hI.hd.nth 2 rfl
      rcases (show i = 0 ∨ i = 1 ∨ i = 2 ∨ i = 3 ∨ i = 4 ∨ i = 5 ∨ i = 6 ∨ i = 7 ∨ i = 8 ∨ i = 9 ∨ i = 10 ∨ i = 11 by omega) with rfl | rfl | rfl | rfl | rfl | rfl | rfl | rfl | rfl | rfl | rfl | rfl
      · obtain rfl := Option.some.inj ho
        have p3 := (hI.old 3 (by kernel_rfl) rfl).get
        refine Draws.wpOp_of (by rfl) rfl (State.wp_value (v := .agg #[.int .i64 R, .slice (some ⟨g1, 0, none⟩) n1 c1, .slice (some ⟨g2, 0, none⟩) n1 c2, .slice (some ⟨g3, 0, none⟩) n1 c3, .slice (some ⟨g4, 0, none⟩) n2 c4]) (w' := W) ?_ (hI.same hloc hL _ _ (Cell.grown_refl _) (Draws.upd_at _ _ _)))
        simp only [execOp]
        go_simp
      · obtain rfl := Option.some.inj ho
        have p4 := (hI.old 4 (by kernel_rfl) rfl).get
        refine Draws.wpOp_of (by rfl) rfl (State.wp_value (v := .slice (some ⟨gp, 0, none⟩) 12 cp) (w' := W) ?_ (hI.same hloc hL _ _ (Cell.grown_refl _) (Draws.upd_at _ _ _)))
        simp only [execOp]
        go_simp
      · obtain rfl := Option.some.inj ho
        have l1 := hd 1 (by simp [State.RainGDep])
        have e1 := (hI.at_ 1 17 rfl l1).get
        rw [show val 1 = _ from hI.gd 1 l1] at e1
        refine Draws.wpOp_of (by rfl) rfl (State.wp_value (v := .pointer (some ⟨gp, 0, none⟩)) (w' := W) ?_ (hI.same hloc hL _ _ (Cell.grown_refl _) (Draws.upd_at _ _ _)))
        simp only [execOp]
        go_simp
      · obtain rfl := Option.some.inj ho
        have l2 := hd 2 (by simp [State.RainGDep])
        have e2 := (hI.at_ 2 18 rfl l2).get
        rw [show val 2 = _ from hI.gd 2 l2] at e2
        refine Draws.wpOp_of (by rfl) rfl (State.wp_value (v := .int .i64 p0) (w' := W) ?_ (hI.same hloc hL _ _ (Cell.grown_refl _) (Draws.upd_at _ _ _)))
        simp only [execOp]
        go_simp
      · obtain rfl := Option.some.inj ho
        have l0 := hd 0 (by simp [State.RainGDep])
        have e0 := (hI.at_ 0 16 rfl l0).get
        have l3 := hd 3 (by simp [State.RainGDep])
        have e3 := (hI.at_ 3 19 rfl l3).get
        rw [show val 0 = _ from hI.gd 0 l0] at e0
        rw [show val 3 = _ from hI.gd 3 l3] at e3
        refine Draws.wpOp_of (by rfl) rfl ?_
        unfold Oper.wp
        simp only [execOp]
        go_simp
        refine Calls.mono (P := Try.prog) (HRN.out W (State.OwnS.reads (hI.hd.nth 0 rfl))) ?_
        rintro e w1 ⟨q1, d1, q2, d2, q3, d3, q4, d4, rfl, ho, hg⟩
        exact hI.made hloc hL _ (.tuple #[.agg #[.int .i64 R, .slice q1 n1 d1, .slice q2 n1 d2, .slice q3 n1 d3, .slice q4 n2 d4], .agg #[.int .i64 rl, .int .i64 0, .int .i64 0, .int .i64 0]]) (State.stateG (.slice q1 n1 d1) (.slice q2 n1 d2) (.slice q3 n1 d3) (.slice q4 n2 d4) n1 n1 n1 n2 xs mx ts bs) (hI.hd.fill 3 (g' := State.stateG (.slice q1 n1 d1) (.slice q2 n1 d2) (.slice q3 n1 d3) (.slice q4 n2 d4) n1 n1 n1 n2 xs mx ts bs) (congrArg some (hI.no 4 hL)) hg (ho.from (Nat.zero_le _)) ho.blocks) ⟨q1, d1, q2, d2, q3, d3, q4, d4, Draws.upd_at _ _ _, Draws.upd_at _ _ _⟩
      · obtain rfl := Option.some.inj ho
        have l4 := hd 4 (by simp [State.RainGDep])
        have e4 := (hI.at_ 4 20 rfl l4).get
        obtain ⟨q1, d1, q2, d2, q3, d3, q4, d4, v4, -⟩ := hI.gd 4 l4
        rw [v4] at e4
        refine Draws.wpOp_of (by rfl) rfl (State.wp_value (v := .tuple #[.agg #[.int .i64 R, .slice q1 n1 d1, .slice q2 n1 d2, .slice q3 n1 d3, .slice q4 n2 d4], .agg #[.int .i64 rl, .int .i64 0, .int .i64 0, .int .i64 0]]) (w' := W) ?_ (hI.same hloc hL _ _ (Cell.grown_refl _) ⟨q1, d1, q2, d2, q3, d3, q4, d4, Draws.upd_at _ _ _, v4⟩))
        simp only [execOp]
        go_simp
      · obtain rfl := Option.some.inj ho
        have l5 := hd 5 (by simp [State.RainGDep])
        have e5 := (hI.at_ 5 15 rfl l5).get
        obtain ⟨q1, d1, q2, d2, q3, d3, q4, d4, v5, -⟩ := hI.gd 5 l5
        rw [v5] at e5
        refine Draws.wpOp_of (by rfl) rfl (State.wp_value (v := .agg #[.int .i64 R, .slice q1 n1 d1, .slice q2 n1 d2, .slice q3 n1 d3, .slice q4 n2 d4]) (w' := W) ?_ (hI.same hloc hL _ _ (Cell.grown_refl _) ⟨q1, d1, q2, d2, q3, d3, q4, d4, Draws.upd_at _ _ _, v5⟩))
        simp only [execOp]
        go_simp
      · obtain rfl := Option.some.inj ho
        have l5 := hd 5 (by simp [State.RainGDep])
        have e5 := (hI.at_ 5 15 rfl l5).get
        obtain ⟨q1, d1, q2, d2, q3, d3, q4, d4, v5, -⟩ := hI.gd 5 l5
        rw [v5] at e5
        refine Draws.wpOp_of (by rfl) rfl (State.wp_value (v := .agg #[.int .i64 rl, .int .i64 0, .int .i64 0, .int .i64 0]) (w' := W) ?_ (hI.same hloc hL _ _ (Cell.grown_refl _) (Draws.upd_at _ _ _)))
        simp only [execOp]
        go_simp
      · obtain rfl := Option.some.inj ho
        refine Draws.wpOp_of (by rfl) rfl (State.wp_value (v := .pointer (some ⟨W.heap.size, 0, none⟩)) (w' := W.alloc (.cells #[.int .i64 0, .slice none 0 0, .slice none 0 0, .slice none 0 0, .slice none 0 0] 29)) ?_ ?_)
        · simp only [execOp]
          go_simp
        exact hI.made hloc hL _ _ (Law.boxG W.heap.size 29 #[.int .i64 0, .slice none 0 0, .slice none 0 0, .slice none 0 0, .slice none 0 0]) (hI.hd.fill 4 (g' := Law.boxG W.heap.size 29 #[.int .i64 0, .slice none 0 0, .slice none 0 0, .slice none 0 0, .slice none 0 0]) (congrArg some (hI.no 8 hL)) (World.grownBy_alloc W _ none) (World.alloc_heap_new W _) (fun b hb => by have : b = W.heap.size := (by simpa [Law.boxG] using hb); subst this; simp)) ⟨W.heap.size, _, _, _, _, _, Draws.upd_at _ _ _, Draws.upd_at _ _ _⟩
      · obtain rfl := Option.some.inj ho
        refine Draws.wpOp_of (by rfl) rfl (State.wp_value (v := .pointer (some ⟨W.heap.size, 0, none⟩)) (w' := W.alloc (.cells #[.int .i64 0, .int .i64 0, .int .i64 0, .int .i64 0] 33)) ?_ ?_)
        · simp only [execOp]
          go_simp
        exact hI.made hloc hL _ _ (Law.boxG W.heap.size 33 #[.int .i64 0, .int .i64 0, .int .i64 0, .int .i64 0]) (hI.hd.fill 5 (g' := Law.boxG W.heap.size 33 #[.int .i64 0, .int .i64 0, .int .i64 0, .int .i64 0]) (congrArg some (hI.no 9 hL)) (World.grownBy_alloc W _ none) (World.alloc_heap_new W _) (fun b hb => by have : b = W.heap.size := (by simpa [Law.boxG] using hb); subst this; simp)) ⟨W.heap.size, _, _, _, _, Draws.upd_at _ _ _, Draws.upd_at _ _ _⟩
      · obtain rfl := Option.some.inj ho
        have l8 := hd 8 (by simp [State.RainGDep])
        have e8 := (hI.at_ 8 5 rfl l8).get
        have l6 := hd 6 (by simp [State.RainGDep])
        have e6 := (hI.at_ 6 21 rfl l6).get
        obtain ⟨B5, o8_0, o8_1, o8_2, o8_3, o8_4, v8, -⟩ := hI.gd 8 l8
        rw [v8] at e8
        obtain ⟨q1, d1, q2, d2, q3, d3, q4, d4, v6, -⟩ := hI.gd 6 l6
        rw [v6] at e6
        obtain ⟨B5', o8_0, o8_1, o8_2, o8_3, o8_4, v8', g8⟩ := hI.gd 8 l8
        rw [v8] at v8'
        cases v8'
        obtain ⟨y0, y1, y2, y3, y4⟩ := Law.box5 (hI.hd.nth 4 (congrArg some g8))
        obtain ⟨f0, f1, f2, f3, f4⟩ := Law.free5 (hI.hd.nth 4 (congrArg some g8))
        refine Draws.wpOp_of (by rfl) rfl (State.wp_skip (w' := ((((W.setCell ⟨B5, 0, none⟩ (.int .i64 R)).setCell ⟨B5, 1, none⟩ (.slice q1 n1 d1)).setCell ⟨B5, 2, none⟩ (.slice q2 n1 d2)).setCell ⟨B5, 3, none⟩ (.slice q3 n1 d3)).setCell ⟨B5, 4, none⟩ (.slice q4 n2 d4)) ?_ ?_)
        · simp only [execOp]
          go_simp
        exact hI.turned (c := 8) hloc hL _ undef (Law.boxG B5 29 #[.int .i64 R, .slice q1 n1 d1, .slice q2 n1 d2, .slice q3 n1 d3, .slice q4 n2 d4]) (hI.hd.put5 4 (congrArg some g8) (.int .i64 R) (.slice q1 n1 d1) (.slice q2 n1 d2) (.slice q3 n1 d3) (.slice q4 n2 d4)) l8 (by kernel_rfl) ⟨B5, _, _, _, _, _, v8, Draws.upd_at _ _ _⟩ ⟨B5, q1, d1, q2, d2, q3, d3, q4, d4, v8, v6, Draws.upd_at _ _ _⟩
      · obtain rfl := Option.some.inj ho
        have l9 := hd 9 (by simp [State.RainGDep])
        have e9 := (hI.at_ 9 6 rfl l9).get
        have l7 := hd 7 (by simp [State.RainGDep])
        have e7 := (hI.at_ 7 22 rfl l7).get
        obtain ⟨B6, o9_0, o9_1, o9_2, o9_3, v9, -⟩ := hI.gd 9 l9
        rw [v9] at e9
        rw [show val 7 = _ from hI.gd 7 l7] at e7
        obtain ⟨B6', o9_0, o9_1, o9_2, o9_3, v9', g9⟩ := hI.gd 9 l9
        rw [v9] at v9'
        cases v9'
        obtain ⟨y0, y1, y2, y3⟩ := Law.cells4 (hI.hd.nth 5 (congrArg some g9))
        obtain ⟨f0, f1, f2, f3⟩ := Law.frees4 (hI.hd.nth 5 (congrArg some g9))
        refine Draws.wpOp_of (by rfl) rfl (State.wp_skip (w' := (((W.setCell ⟨B6, 0, none⟩ (.int .i64 rl)).setCell ⟨B6, 1, none⟩ (.int .i64 0)).setCell ⟨B6, 2, none⟩ (.int .i64 0)).setCell ⟨B6, 3, none⟩ (.int .i64 0)) ?_ ?_)
        · simp only [execOp]
          go_simp
        exact hI.turned (c := 9) hloc hL _ undef (Law.boxG B6 33 #[.int .i64 rl, .int .i64 0, .int .i64 0, .int .i64 0]) (hI.hd.put4 5 (congrArg some g9) (.int .i64 rl) (.int .i64 0) (.int .i64 0) (.int .i64 0)) l9 (by kernel_rfl) ⟨B6, _, _, _, _, v9, Draws.upd_at _ _ _⟩ ⟨B6, v9, (show val 7 = _ from hI.gd 7 l7), Draws.upd_at _ _ _⟩
    case last =>
    intro L a W val G hI hall
    have al : ∀ i, i < 12 → L i = true := fun i hi => hall i (by simpa using hi)
    obtain ⟨q1, d1, q2, d2, q3, d3, q4, d4, v4, r4⟩ := hI.gd 4 (al 4 (by decide))
    obtain ⟨q1', d1', q2', d2', q3', d3', q4', d4', v5, u⟩ := hI.gd 5 (al 5 (by decide))
    rw [v4] at u
    cases u
    obtain ⟨q1', d1', q2', d2', q3', d3', q4', d4', v6, u⟩ := hI.gd 6 (al 6 (by decide))
    rw [v5] at u
    cases u
    obtain ⟨B5, q1', d1', q2', d2', q3', d3', q4', d4', v8, u, r8⟩ := hI.gd 10 (al 10 (by decide))
    rw [v6] at u
    cases u
    obtain ⟨B6, v9, -, r9⟩ := hI.gd 11 (al 11 (by decide))
    have hH : Law.Held w W [State.stateG (.slice (some ⟨g1, 0, none⟩) n1 c1) (.slice (some ⟨g2, 0, none⟩) n1 c2) (.slice (some ⟨g3, 0, none⟩) n1 c3) (.slice (some ⟨g4, 0, none⟩) n2 c4) n1 n1 n1 n2 xs ms ts bs, Law.boxG B3 29 #[.int .i64 R, .slice (some ⟨g1, 0, none⟩) n1 c1, .slice (some ⟨g2, 0, none⟩) n1 c2, .slice (some ⟨g3, 0, none⟩) n1 c3, .slice (some ⟨g4, 0, none⟩) n2 c4], State.placesG gp p0 p1 p2, G 4, G 8, G 9] := hI.hd
    rw [r4, r8, r9] at hH
    have HE3 := Lib.hid hH
    have ha := hI.frame (by kernel_rfl) hall
    refine hKK _ _ ?_
    clear hKK hI hH hall al r4 r8 r9 HE2 HRN
    simp [Draws.frameOf, Draws.slotOf, Act.put, List.range, List.range.loop] at ha
    subst ha
    rw [v8, v9]
    clear v4 v5 v6 v8 v9
    go_upto_region 6 with fail
    rename_i KK hKK
    refine Draws.wp_region_tabG (w := w) rfl (by kernel_rfl) (by kernel_rfl) State.SoakGDep (by kernel_rfl) [State.stateG (.slice (some ⟨g1, 0, none⟩) n1 c1) (.slice (some ⟨g2, 0, none⟩) n1 c2) (.slice (some ⟨g3, 0, none⟩) n1 c3) (.slice (some ⟨g4, 0, none⟩) n2 c4) n1 n1 n1 n2 xs ms ts bs, Law.boxG B3 29 #[.int .i64 R, .slice (some ⟨g1, 0, none⟩) n1 c1, .slice (some ⟨g2, 0, none⟩) n1 c2, .slice (some ⟨g3, 0, none⟩) n1 c3, .slice (some ⟨g4, 0, none⟩) n2 c4], State.placesG gp p0 p1 p2, State.stateG (.slice q1 n1 d1) (.slice q2 n1 d2) (.slice q3 n1 d3) (.slice q4 n2 d4) n1 n1 n1 n2 xs mx ts bs, Law.boxG B5 29 #[.int .i64 R, .slice q1 n1 d1, .slice q2 n1 d2, .slice q3 n1 d3, .slice q4 n2 d4], Law.boxG B6 33 #[.int .i64 rl, .int .i64 0, .int .i64 0, .int .i64 0]] [4, 8, 9] (fun _ => Law.emptyG) (State.SoakG R p0 p1 p2 g1 g2 g3 g4 n1 n2 c1 c2 c3 c4 B3 gp cp xs bs q1 d1 q2 d2 q3 d3 q4 d4 B5 B6 my ty m1 m3) ?start ?step ?last
    case start => exact (HE3.out.on (Mesh.gr_drew (Cell.grown_refl _))).addE.addE.addE
    case step =>
      clear hKK
      intro L a W val G i o hI ho hL hd
      have hi : i < 12 := by have := (Array.getElem?_eq_some_iff.1 ho).1; simpa using this
      have hloc := State.SoakG_local R p0 p1 p2 g1 g2 g3 g4 n1 n2 c1 c2 c3 c4 B3 gp cp xs bs q1 d1 q2 d2 q3 d3 q4 d4 B5 B6 my ty m1 m3
      obtain ⟨z0, z1, z2, z3, z4⟩ := Law.box5 (hI.hd.nth 4 rfl)
      obtain ⟨c4', c5', c6'⟩ := hI.hd.nth 2 rfl
      rcases (show i = 0 ∨ i = 1 ∨ i = 2 ∨ i = 3 ∨ i = 4 ∨ i = 5 ∨ i = 6 ∨ i = 7 ∨ i = 8 ∨ i = 9 ∨ i = 10 ∨ i = 11 by omega) with rfl | rfl | rfl | rfl | rfl | rfl | rfl | rfl | rfl | rfl | rfl | rfl
      · obtain rfl := Option.some.inj ho
        have p5 := (hI.old 5 (by kernel_rfl) rfl).get
        refine Draws.wpOp_of (by rfl) rfl (State.wp_value (v := .agg #[.int .i64 R, .slice q1 n1 d1, .slice q2 n1 d2, .slice q3 n1 d3, .slice q4 n2 d4]) (w' := W) ?_ (hI.same hloc hL _ _ (Cell.grown_refl _) (Draws.upd_at _ _ _)))
        simp only [execOp]
        go_simp
      · obtain rfl := Option.some.inj ho
        have p4 := (hI.old 4 (by kernel_rfl) rfl).get
        refine Draws.wpOp_of (by rfl) rfl (State.wp_value (v := .slice (some ⟨gp, 0, none⟩) 12 cp) (w' := W) ?_ (hI.same hloc hL _ _ (Cell.grown_refl _) (Draws.upd_at _ _ _)))
        simp only [execOp]
        go_simp
      · obtain rfl := Option.some.inj ho
        have l1 := hd 1 (by simp [State.SoakGDep])
        have e1 := (hI.at_ 1 25 rfl l1).get
        rw [show val 1 = _ from hI.gd 1 l1] at e1
        refine Draws.wpOp_of (by rfl) rfl (State.wp_value (v := .pointer (some ⟨gp, 1, none⟩)) (w' := W) ?_ (hI.same hloc hL _ _ (Cell.grown_refl _) (Draws.upd_at _ _ _)))
        simp only [execOp]
        go_simp
      · obtain rfl := Option.some.inj ho
        have l2 := hd 2 (by simp [State.SoakGDep])
        have e2 := (hI.at_ 2 26 rfl l2).get
        rw [show val 2 = _ from hI.gd 2 l2] at e2
        refine Draws.wpOp_of (by rfl) rfl (State.wp_value (v := .int .i64 p1) (w' := W) ?_ (hI.same hloc hL _ _ (Cell.grown_refl _) (Draws.upd_at _ _ _)))
        simp only [execOp]
        go_simp
      · obtain rfl := Option.some.inj ho
        have l0 := hd 0 (by simp [State.SoakGDep])
        have e0 := (hI.at_ 0 24 rfl l0).get
        have l3 := hd 3 (by simp [State.SoakGDep])
        have e3 := (hI.at_ 3 27 rfl l3).get
        rw [show val 0 = _ from hI.gd 0 l0] at e0
        rw [show val 3 = _ from hI.gd 3 l3] at e3
        refine Draws.wpOp_of (by rfl) rfl ?_
        unfold Oper.wp
        simp only [execOp]
        go_simp
        refine Calls.mono (P := Try.prog) (HSK.out W _ _ _ _ _ _ _ _ (State.OwnS.reads (hI.hd.nth 3 rfl))) ?_
        rintro e w1 ⟨s1, j1, s2, j2, s3, j3, s4, j4, rfl, ho, hg⟩
        exact hI.made hloc hL _ (.tuple #[.agg #[.int .i64 R, .slice s1 n1 j1, .slice s2 n1 j2, .slice s3 n1 j3, .slice s4 n2 j4], .agg #[.int .i64 0, .int .i64 m1, .int .i64 0, .int .i64 m3]]) (State.stateG (.slice s1 n1 j1) (.slice s2 n1 j2) (.slice s3 n1 j3) (.slice s4 n2 j4) n1 n1 n1 n2 xs my ty bs) (hI.hd.fill 6 (g' := State.stateG (.slice s1 n1 j1) (.slice s2 n1 j2) (.slice s3 n1 j3) (.slice s4 n2 j4) n1 n1 n1 n2 xs my ty bs) (congrArg some (hI.no 4 hL)) hg (ho.from (Nat.zero_le _)) ho.blocks) ⟨s1, j1, s2, j2, s3, j3, s4, j4, Draws.upd_at _ _ _, Draws.upd_at _ _ _⟩
      · obtain rfl := Option.some.inj ho
        have l4 := hd 4 (by simp [State.SoakGDep])
        have e4 := (hI.at_ 4 28 rfl l4).get
        obtain ⟨s1, j1, s2, j2, s3, j3, s4, j4, v4, -⟩ := hI.gd 4 l4
        rw [v4] at e4
        refine Draws.wpOp_of (by rfl) rfl (State.wp_value (v := .tuple #[.agg #[.int .i64 R, .slice s1 n1 j1, .slice s2 n1 j2, .slice s3 n1 j3, .slice s4 n2 j4], .agg #[.int .i64 0, .int .i64 m1, .int .i64 0, .int .i64 m3]]) (w' := W) ?_ (hI.same hloc hL _ _ (Cell.grown_refl _) ⟨s1, j1, s2, j2, s3, j3, s4, j4, Draws.upd_at _ _ _, v4⟩))
        simp only [execOp]
        go_simp
      · obtain rfl := Option.some.inj ho
        have l5 := hd 5 (by simp [State.SoakGDep])
        have e5 := (hI.at_ 5 23 rfl l5).get
        obtain ⟨s1, j1, s2, j2, s3, j3, s4, j4, v5, -⟩ := hI.gd 5 l5
        rw [v5] at e5
        refine Draws.wpOp_of (by rfl) rfl (State.wp_value (v := .agg #[.int .i64 R, .slice s1 n1 j1, .slice s2 n1 j2, .slice s3 n1 j3, .slice s4 n2 j4]) (w' := W) ?_ (hI.same hloc hL _ _ (Cell.grown_refl _) ⟨s1, j1, s2, j2, s3, j3, s4, j4, Draws.upd_at _ _ _, v5⟩))
        simp only [execOp]
        go_simp
      · obtain rfl := Option.some.inj ho
        have l5 := hd 5 (by simp [State.SoakGDep])
        have e5 := (hI.at_ 5 23 rfl l5).get
        obtain ⟨s1, j1, s2, j2, s3, j3, s4, j4, v5, -⟩ := hI.gd 5 l5
        rw [v5] at e5
        refine Draws.wpOp_of (by rfl) rfl (State.wp_value (v := .agg #[.int .i64 0, .int .i64 m1, .int .i64 0, .int .i64 m3]) (w' := W) ?_ (hI.same hloc hL _ _ (Cell.grown_refl _) (Draws.upd_at _ _ _)))
        simp only [execOp]
        go_simp
      · obtain rfl := Option.some.inj ho
        refine Draws.wpOp_of (by rfl) rfl (State.wp_value (v := .pointer (some ⟨W.heap.size, 0, none⟩)) (w' := W.alloc (.cells #[.int .i64 0, .slice none 0 0, .slice none 0 0, .slice none 0 0, .slice none 0 0] 29)) ?_ ?_)
        · simp only [execOp]
          go_simp
        exact hI.made hloc hL _ _ (Law.boxG W.heap.size 29 #[.int .i64 0, .slice none 0 0, .slice none 0 0, .slice none 0 0, .slice none 0 0]) (hI.hd.fill 7 (g' := Law.boxG W.heap.size 29 #[.int .i64 0, .slice none 0 0, .slice none 0 0, .slice none 0 0, .slice none 0 0]) (congrArg some (hI.no 8 hL)) (World.grownBy_alloc W _ none) (World.alloc_heap_new W _) (fun b hb => by have : b = W.heap.size := (by simpa [Law.boxG] using hb); subst this; simp)) ⟨W.heap.size, _, _, _, _, _, Draws.upd_at _ _ _, Draws.upd_at _ _ _⟩
      · obtain rfl := Option.some.inj ho
        refine Draws.wpOp_of (by rfl) rfl (State.wp_value (v := .pointer (some ⟨W.heap.size, 0, none⟩)) (w' := W.alloc (.cells #[.int .i64 0, .int .i64 0, .int .i64 0, .int .i64 0] 33)) ?_ ?_)
        · simp only [execOp]
          go_simp
        exact hI.made hloc hL _ _ (Law.boxG W.heap.size 33 #[.int .i64 0, .int .i64 0, .int .i64 0, .int .i64 0]) (hI.hd.fill 8 (g' := Law.boxG W.heap.size 33 #[.int .i64 0, .int .i64 0, .int .i64 0, .int .i64 0]) (congrArg some (hI.no 9 hL)) (World.grownBy_alloc W _ none) (World.alloc_heap_new W _) (fun b hb => by have : b = W.heap.size := (by simpa [Law.boxG] using hb); subst this; simp)) ⟨W.heap.size, _, _, _, _, Draws.upd_at _ _ _, Draws.upd_at _ _ _⟩
      · obtain rfl := Option.some.inj ho
        have l8 := hd 8 (by simp [State.SoakGDep])
        have e8 := (hI.at_ 8 7 rfl l8).get
        have l6 := hd 6 (by simp [State.SoakGDep])
        have e6 := (hI.at_ 6 29 rfl l6).get
        obtain ⟨B7, o8_0, o8_1, o8_2, o8_3, o8_4, v8, -⟩ := hI.gd 8 l8
        rw [v8] at e8
        obtain ⟨s1, j1, s2, j2, s3, j3, s4, j4, v6, -⟩ := hI.gd 6 l6
        rw [v6] at e6
        obtain ⟨B7', o8_0, o8_1, o8_2, o8_3, o8_4, v8', g8⟩ := hI.gd 8 l8
        rw [v8] at v8'
        cases v8'
        obtain ⟨y0, y1, y2, y3, y4⟩ := Law.box5 (hI.hd.nth 7 (congrArg some g8))
        obtain ⟨f0, f1, f2, f3, f4⟩ := Law.free5 (hI.hd.nth 7 (congrArg some g8))
        refine Draws.wpOp_of (by rfl) rfl (State.wp_skip (w' := ((((W.setCell ⟨B7, 0, none⟩ (.int .i64 R)).setCell ⟨B7, 1, none⟩ (.slice s1 n1 j1)).setCell ⟨B7, 2, none⟩ (.slice s2 n1 j2)).setCell ⟨B7, 3, none⟩ (.slice s3 n1 j3)).setCell ⟨B7, 4, none⟩ (.slice s4 n2 j4)) ?_ ?_)
        · simp only [execOp]
          go_simp
        exact hI.turned (c := 8) hloc hL _ undef (Law.boxG B7 29 #[.int .i64 R, .slice s1 n1 j1, .slice s2 n1 j2, .slice s3 n1 j3, .slice s4 n2 j4]) (hI.hd.put5 7 (congrArg some g8) (.int .i64 R) (.slice s1 n1 j1) (.slice s2 n1 j2) (.slice s3 n1 j3) (.slice s4 n2 j4)) l8 (by kernel_rfl) ⟨B7, _, _, _, _, _, v8, Draws.upd_at _ _ _⟩ ⟨B7, s1, j1, s2, j2, s3, j3, s4, j4, v8, v6, Draws.upd_at _ _ _⟩
      · obtain rfl := Option.some.inj ho
        have l9 := hd 9 (by simp [State.SoakGDep])
        have e9 := (hI.at_ 9 8 rfl l9).get
        have l7 := hd 7 (by simp [State.SoakGDep])
        have e7 := (hI.at_ 7 30 rfl l7).get
        obtain ⟨B8, o9_0, o9_1, o9_2, o9_3, v9, -⟩ := hI.gd 9 l9
        rw [v9] at e9
        rw [show val 7 = _ from hI.gd 7 l7] at e7
        obtain ⟨B8', o9_0, o9_1, o9_2, o9_3, v9', g9⟩ := hI.gd 9 l9
        rw [v9] at v9'
        cases v9'
        obtain ⟨y0, y1, y2, y3⟩ := Law.cells4 (hI.hd.nth 8 (congrArg some g9))
        obtain ⟨f0, f1, f2, f3⟩ := Law.frees4 (hI.hd.nth 8 (congrArg some g9))
        refine Draws.wpOp_of (by rfl) rfl (State.wp_skip (w' := (((W.setCell ⟨B8, 0, none⟩ (.int .i64 0)).setCell ⟨B8, 1, none⟩ (.int .i64 m1)).setCell ⟨B8, 2, none⟩ (.int .i64 0)).setCell ⟨B8, 3, none⟩ (.int .i64 m3)) ?_ ?_)
        · simp only [execOp]
          go_simp
        exact hI.turned (c := 9) hloc hL _ undef (Law.boxG B8 33 #[.int .i64 0, .int .i64 m1, .int .i64 0, .int .i64 m3]) (hI.hd.put4 8 (congrArg some g9) (.int .i64 0) (.int .i64 m1) (.int .i64 0) (.int .i64 m3)) l9 (by kernel_rfl) ⟨B8, _, _, _, _, v9, Draws.upd_at _ _ _⟩ ⟨B8, v9, (show val 7 = _ from hI.gd 7 l7), Draws.upd_at _ _ _⟩
    case last =>
    intro L a W val G hI hall
    have al : ∀ i, i < 12 → L i = true := fun i hi => hall i (by simpa using hi)
    obtain ⟨s1, j1, s2, j2, s3, j3, s4, j4, v4, r4⟩ := hI.gd 4 (al 4 (by decide))
    obtain ⟨s1', j1', s2', j2', s3', j3', s4', j4', v5, u⟩ := hI.gd 5 (al 5 (by decide))
    rw [v4] at u
    cases u
    obtain ⟨s1', j1', s2', j2', s3', j3', s4', j4', v6, u⟩ := hI.gd 6 (al 6 (by decide))
    rw [v5] at u
    cases u
    obtain ⟨B7, s1', j1', s2', j2', s3', j3', s4', j4', v8, u, r8⟩ := hI.gd 10 (al 10 (by decide))
    rw [v6] at u
    cases u
    obtain ⟨B8, v9, -, r9⟩ := hI.gd 11 (al 11 (by decide))
    have hH : Law.Held w W [State.stateG (.slice (some ⟨g1, 0, none⟩) n1 c1) (.slice (some ⟨g2, 0, none⟩) n1 c2) (.slice (some ⟨g3, 0, none⟩) n1 c3) (.slice (some ⟨g4, 0, none⟩) n2 c4) n1 n1 n1 n2 xs ms ts bs, Law.boxG B3 29 #[.int .i64 R, .slice (some ⟨g1, 0, none⟩) n1 c1, .slice (some ⟨g2, 0, none⟩) n1 c2, .slice (some ⟨g3, 0, none⟩) n1 c3, .slice (some ⟨g4, 0, none⟩) n2 c4], State.placesG gp p0 p1 p2, State.stateG (.slice q1 n1 d1) (.slice q2 n1 d2) (.slice q3 n1 d3) (.slice q4 n2 d4) n1 n1 n1 n2 xs mx ts bs, Law.boxG B5 29 #[.int .i64 R, .slice q1 n1 d1, .slice q2 n1 d2, .slice q3 n1 d3, .slice q4 n2 d4], Law.boxG B6 33 #[.int .i64 rl, .int .i64 0, .int .i64 0, .int .i64 0], G 4, G 8, G 9] := hI.hd
    rw [r4, r8, r9] at hH
    have HE4 := Lib.hid hH
    have ha := hI.frame (by kernel_rfl) hall
    refine hKK _ _ ?_
    clear hKK hI hH hall al r4 r8 r9 HE3 HSK
    simp [Draws.frameOf, Draws.slotOf, Act.put, List.range, List.range.loop] at ha
    subst ha
    rw [v8, v9]
    clear v4 v5 v6 v8 v9
    go_upto_region 7 with fail
    have HL1 := Lib.hid (fun u h k => HL10.out u q1 q2 q3 q4 d1 d2 d3 d4 h k)
    have HL2 := Lib.hid (fun u h k => HL20.out u q1 q2 q3 q4 s1 s2 s3 s4 d1 d2 d3 d4 j1 j2 j3 j4 h k)
    have HL3 := Lib.hid (fun u h k => HL30.out u s1 s2 s3 s4 j1 j2 j3 j4 h k)
    have HT2 := Lib.hid (fun u h => HT20.out u q1 q2 q3 q4 d1 d2 d3 d4 h)
    clear HL10 HL20 HL30 HT20
    rename_i KK hKK
    refine Draws.wp_region_tabG (w := w) rfl (by kernel_rfl) (by kernel_rfl) State.HoldGDep (by kernel_rfl) [State.stateG (.slice (some ⟨g1, 0, none⟩) n1 c1) (.slice (some ⟨g2, 0, none⟩) n1 c2) (.slice (some ⟨g3, 0, none⟩) n1 c3) (.slice (some ⟨g4, 0, none⟩) n2 c4) n1 n1 n1 n2 xs ms ts bs, Law.boxG B3 29 #[.int .i64 R, .slice (some ⟨g1, 0, none⟩) n1 c1, .slice (some ⟨g2, 0, none⟩) n1 c2, .slice (some ⟨g3, 0, none⟩) n1 c3, .slice (some ⟨g4, 0, none⟩) n2 c4], State.placesG gp p0 p1 p2, State.stateG (.slice q1 n1 d1) (.slice q2 n1 d2) (.slice q3 n1 d3) (.slice q4 n2 d4) n1 n1 n1 n2 xs mx ts bs, Law.boxG B5 29 #[.int .i64 R, .slice q1 n1 d1, .slice q2 n1 d2, .slice q3 n1 d3, .slice q4 n2 d4], Law.boxG B6 33 #[.int .i64 rl, .int .i64 0, .int .i64 0, .int .i64 0], State.stateG (.slice s1 n1 j1) (.slice s2 n1 j2) (.slice s3 n1 j3) (.slice s4 n2 j4) n1 n1 n1 n2 xs my ty bs, Law.boxG B7 29 #[.int .i64 R, .slice s1 n1 j1, .slice s2 n1 j2, .slice s3 n1 j3, .slice s4 n2 j4], Law.boxG B8 33 #[.int .i64 0, .int .i64 m1, .int .i64 0, .int .i64 m3]] [] (fun _ => Law.emptyG) (State.HoldG R rl m1 m3 Y g1 g2 g3 g4 n1 n2 c1 c2 c3 c4 B3 B5 B6 B7 B8 q1 q2 q3 q4 s1 s2 s3 s4 d1 d2 d3 d4 j1 j2 j3 j4) ?start ?step ?last
    case start => exact HE4.out.on (Mesh.gr_drew (Cell.grown_refl _))
    case step =>
      clear hKK
      intro L a W val G i o hI ho hL hd
      have hi : i < 36 := by have := (Array.getElem?_eq_some_iff.1 ho).1; simpa using this
      have hloc := State.HoldG_local R rl m1 m3 Y g1 g2 g3 g4 n1 n2 c1 c2 c3 c4 B3 B5 B6 B7 B8 q1 q2 q3 q4 s1 s2 s3 s4 d1 d2 d3 d4 j1 j2 j3 j4
      obtain ⟨z0, z1, z2, z3, z4⟩ := Law.box5 (hI.hd.nth 1 rfl)
      obtain ⟨x0, x1, x2, x3, x4⟩ := Law.box5 (hI.hd.nth 4 rfl)
      obtain ⟨y0, y1, y2, y3⟩ := Law.cells4 (hI.hd.nth 5 rfl)
      obtain ⟨t0, t1, t2, t3, t4⟩ := Law.box5 (hI.hd.nth 7 rfl)
      obtain ⟨u0, u1, u2, u3⟩ := Law.cells4 (hI.hd.nth 8 rfl)
      rcases (show i = 0 ∨ i = 1 ∨ i = 2 ∨ i = 3 ∨ i = 4 ∨ i = 5 ∨ i = 6 ∨ i = 7 ∨ i = 8 ∨ i = 9 ∨ i = 10 ∨ i = 11 ∨ i = 12 ∨ i = 13 ∨ i = 14 ∨ i = 15 ∨ i = 16 ∨ i = 17 ∨ i = 18 ∨ i = 19 ∨ i = 20 ∨ i = 21 ∨ i = 22 ∨ i = 23 ∨ i = 24 ∨ i = 25 ∨ i = 26 ∨ i = 27 ∨ i = 28 ∨ i = 29 ∨ i = 30 ∨ i = 31 ∨ i = 32 ∨ i = 33 ∨ i = 34 ∨ i = 35 by omega) with rfl | rfl | rfl | rfl | rfl | rfl | rfl | rfl | rfl | rfl | rfl | rfl | rfl | rfl | rfl | rfl | rfl | rfl | rfl | rfl | rfl | rfl | rfl | rfl | rfl | rfl | rfl | rfl | rfl | rfl | rfl | rfl | rfl | rfl | rfl | rfl
      · obtain rfl := Option.some.inj ho
        have p3 := (hI.old 3 (by kernel_rfl) rfl).get
        refine Draws.wpOp_of (by rfl) rfl (State.wp_value (v := .agg #[.int .i64 R, .slice (some ⟨g1, 0, none⟩) n1 c1, .slice (some ⟨g2, 0, none⟩) n1 c2, .slice (some ⟨g3, 0, none⟩) n1 c3, .slice (some ⟨g4, 0, none⟩) n2 c4]) (w' := W) ?_ (hI.same hloc hL _ _ (Cell.grown_refl _) (Draws.upd_at _ _ _)))
        simp only [execOp]
        go_simp
      · obtain rfl := Option.some.inj ho
        have p5 := (hI.old 5 (by kernel_rfl) rfl).get
        refine Draws.wpOp_of (by rfl) rfl (State.wp_value (v := .agg #[.int .i64 R, .slice q1 n1 d1, .slice q2 n1 d2, .slice q3 n1 d3, .slice q4 n2 d4]) (w' := W) ?_ (hI.same hloc hL _ _ (Cell.grown_refl _) (Draws.upd_at _ _ _)))
        simp only [execOp]
        go_simp
      · obtain rfl := Option.some.inj ho
        have p6 := (hI.old 6 (by kernel_rfl) rfl).get
        refine Draws.wpOp_of (by rfl) rfl (State.wp_value (v := .agg #[.int .i64 rl, .int .i64 0, .int .i64 0, .int .i64 0]) (w' := W) ?_ (hI.same hloc hL _ _ (Cell.grown_refl _) (Draws.upd_at _ _ _)))
        simp only [execOp]
        go_simp
      · obtain rfl := Option.some.inj ho
        have l0 := hd 0 (by simp [State.HoldGDep])
        have e0 := (hI.at_ 0 31 rfl l0).get
        have l1 := hd 1 (by simp [State.HoldGDep])
        have e1 := (hI.at_ 1 32 rfl l1).get
        have l2 := hd 2 (by simp [State.HoldGDep])
        have e2 := (hI.at_ 2 33 rfl l2).get
        rw [show val 0 = _ from hI.gd 0 l0] at e0
        rw [show val 1 = _ from hI.gd 1 l1] at e1
        rw [show val 2 = _ from hI.gd 2 l2] at e2
        refine Draws.wpOp_of (by rfl) rfl ?_
        unfold Oper.wp
        simp only [execOp]
        go_simp
        refine Calls.mono (P := Try.prog) (HL1.out W (State.OwnS.reads (hI.hd.nth 0 rfl)) (State.OwnS.reads (hI.hd.nth 3 rfl))) ?_
        rintro e w1 ⟨rfl, hg⟩
        exact hI.same hloc hL _ (.bool true) hg (Draws.upd_at _ _ _)
      · obtain rfl := Option.some.inj ho
        have l3 := hd 3 (by simp [State.HoldGDep])
        have e3 := (hI.at_ 3 34 rfl l3).get
        rw [show val 3 = _ from hI.gd 3 l3] at e3
        refine Draws.wpOp_of (by rfl) rfl (State.wp_value (v := .bool true) (w' := W) ?_ (hI.same hloc hL _ _ (Cell.grown_refl _) (Draws.upd_at _ _ _)))
        simp only [execOp]
        go_simp
      · obtain rfl := Option.some.inj ho
        have l4 := hd 4 (by simp [State.HoldGDep])
        have e4 := (hI.at_ 4 35 rfl l4).get
        rw [show val 4 = _ from hI.gd 4 l4] at e4
        have ag := hI.at_ 4 35 rfl l4
        rw [show val 4 = _ from hI.gd 4 l4] at ag
        have p5 := (hI.old 5 (by kernel_rfl) rfl).get
        refine Draws.wpOp_want (by rfl) (Draws.want_at 4 35 rfl rfl ag) (State.wp_value (v := .agg #[.int .i64 R, .slice q1 n1 d1, .slice q2 n1 d2, .slice q3 n1 d3, .slice q4 n2 d4]) (w' := W) ?_ (hI.same hloc hL _ _ (Cell.grown_refl _) (Draws.upd_at _ _ _)))
        simp only [execOp]
        go_simp
      · obtain rfl := Option.some.inj ho
        have l4 := hd 4 (by simp [State.HoldGDep])
        have e4 := (hI.at_ 4 35 rfl l4).get
        rw [show val 4 = _ from hI.gd 4 l4] at e4
        have ag := hI.at_ 4 35 rfl l4
        rw [show val 4 = _ from hI.gd 4 l4] at ag
        have p7 := (hI.old 7 (by kernel_rfl) rfl).get
        refine Draws.wpOp_want (by rfl) (Draws.want_at 4 35 rfl rfl ag) (State.wp_value (v := .agg #[.int .i64 R, .slice s1 n1 j1, .slice s2 n1 j2, .slice s3 n1 j3, .slice s4 n2 j4]) (w' := W) ?_ (hI.same hloc hL _ _ (Cell.grown_refl _) (Draws.upd_at _ _ _)))
        simp only [execOp]
        go_simp
      · obtain rfl := Option.some.inj ho
        have l4 := hd 4 (by simp [State.HoldGDep])
        have e4 := (hI.at_ 4 35 rfl l4).get
        rw [show val 4 = _ from hI.gd 4 l4] at e4
        have ag := hI.at_ 4 35 rfl l4
        rw [show val 4 = _ from hI.gd 4 l4] at ag
        have p8 := (hI.old 8 (by kernel_rfl) rfl).get
        refine Draws.wpOp_want (by rfl) (Draws.want_at 4 35 rfl rfl ag) (State.wp_value (v := .agg #[.int .i64 0, .int .i64 m1, .int .i64 0, .int .i64 m3]) (w' := W) ?_ (hI.same hloc hL _ _ (Cell.grown_refl _) (Draws.upd_at _ _ _)))
        simp only [execOp]
        go_simp
      · obtain rfl := Option.some.inj ho
        have l5 := hd 5 (by simp [State.HoldGDep])
        have e5 := (hI.at_ 5 36 rfl l5).get
        have l6 := hd 6 (by simp [State.HoldGDep])
        have e6 := (hI.at_ 6 37 rfl l6).get
        have l7 := hd 7 (by simp [State.HoldGDep])
        have e7 := (hI.at_ 7 38 rfl l7).get
        have l4 := hd 4 (by simp [State.HoldGDep])
        have e4 := (hI.at_ 4 35 rfl l4).get
        rw [show val 5 = _ from hI.gd 5 l5] at e5
        rw [show val 6 = _ from hI.gd 6 l6] at e6
        rw [show val 7 = _ from hI.gd 7 l7] at e7
        rw [show val 4 = _ from hI.gd 4 l4] at e4
        have ag := hI.at_ 4 35 rfl l4
        rw [show val 4 = _ from hI.gd 4 l4] at ag
        refine Draws.wpOp_want (by rfl) (Draws.want_at 4 35 rfl rfl ag) ?_
        unfold Oper.wp
        simp only [execOp]
        go_simp
        refine Calls.mono (P := Try.prog) (HL2.out W (State.OwnS.reads (hI.hd.nth 3 rfl)) (State.OwnS.reads (hI.hd.nth 6 rfl))) ?_
        rintro e w1 ⟨rfl, hg⟩
        exact hI.same hloc hL _ (.bool true) hg (Draws.upd_at _ _ _)
      · obtain rfl := Option.some.inj ho
        have l4 := hd 4 (by simp [State.HoldGDep])
        have e4 := (hI.at_ 4 35 rfl l4).get
        have l8 := hd 8 (by simp [State.HoldGDep])
        have e8 := (hI.at_ 8 39 rfl l8).get
        rw [show val 4 = _ from hI.gd 4 l4] at e4
        rw [show val 8 = _ from hI.gd 8 l8] at e8
        refine Draws.wpOp_of (by rfl) rfl (State.wp_value (v := .bool true) (w' := W) ?_ (hI.same hloc hL _ _ (Cell.grown_refl _) (Draws.upd_at _ _ _)))
        simp only [execOp]
        go_simp
      · obtain rfl := Option.some.inj ho
        have l9 := hd 9 (by simp [State.HoldGDep])
        have e9 := (hI.at_ 9 40 rfl l9).get
        rw [show val 9 = _ from hI.gd 9 l9] at e9
        refine Draws.wpOp_of (by rfl) rfl (State.wp_value (v := .bool true) (w' := W) ?_ (hI.same hloc hL _ _ (Cell.grown_refl _) (Draws.upd_at _ _ _)))
        simp only [execOp]
        go_simp
      · obtain rfl := Option.some.inj ho
        have l10 := hd 10 (by simp [State.HoldGDep])
        have e10 := (hI.at_ 10 41 rfl l10).get
        rw [show val 10 = _ from hI.gd 10 l10] at e10
        have ag := hI.at_ 10 41 rfl l10
        rw [show val 10 = _ from hI.gd 10 l10] at ag
        have p5 := (hI.old 5 (by kernel_rfl) rfl).get
        refine Draws.wpOp_want (by rfl) (Draws.want_at 10 41 rfl rfl ag) (State.wp_value (v := .agg #[.int .i64 R, .slice q1 n1 d1, .slice q2 n1 d2, .slice q3 n1 d3, .slice q4 n2 d4]) (w' := W) ?_ (hI.same hloc hL _ _ (Cell.grown_refl _) (Draws.upd_at _ _ _)))
        simp only [execOp]
        go_simp
      · obtain rfl := Option.some.inj ho
        have l11 := hd 11 (by simp [State.HoldGDep])
        have e11 := (hI.at_ 11 42 rfl l11).get
        have l10 := hd 10 (by simp [State.HoldGDep])
        have e10 := (hI.at_ 10 41 rfl l10).get
        rw [show val 11 = _ from hI.gd 11 l11] at e11
        rw [show val 10 = _ from hI.gd 10 l10] at e10
        have ag := hI.at_ 10 41 rfl l10
        rw [show val 10 = _ from hI.gd 10 l10] at ag
        refine Draws.wpOp_want (by rfl) (Draws.want_at 10 41 rfl rfl ag) ?_
        unfold Oper.wp
        simp only [execOp]
        go_simp
        refine Calls.mono (P := Try.prog) (HT2.out W (State.OwnS.reads (hI.hd.nth 3 rfl))) ?_
        rintro e w1 ⟨rfl, hg⟩
        exact hI.same hloc hL _ (.int .i64 Y) hg (Draws.upd_at _ _ _)
      · obtain rfl := Option.some.inj ho
        have l10 := hd 10 (by simp [State.HoldGDep])
        have e10 := (hI.at_ 10 41 rfl l10).get
        rw [show val 10 = _ from hI.gd 10 l10] at e10
        have ag := hI.at_ 10 41 rfl l10
        rw [show val 10 = _ from hI.gd 10 l10] at ag
        have p3 := (hI.old 3 (by kernel_rfl) rfl).get
        refine Draws.wpOp_want (by rfl) (Draws.want_at 10 41 rfl rfl ag) (State.wp_value (v := .agg #[.int .i64 R, .slice (some ⟨g1, 0, none⟩) n1 c1, .slice (some ⟨g2, 0, none⟩) n1 c2, .slice (some ⟨g3, 0, none⟩) n1 c3, .slice (some ⟨g4, 0, none⟩) n2 c4]) (w' := W) ?_ (hI.same hloc hL _ _ (Cell.grown_refl _) (Draws.upd_at _ _ _)))
        simp only [execOp]
        go_simp
      · obtain rfl := Option.some.inj ho
        have l13 := hd 13 (by simp [State.HoldGDep])
        have e13 := (hI.at_ 13 44 rfl l13).get
        have l10 := hd 10 (by simp [State.HoldGDep])
        have e10 := (hI.at_ 10 41 rfl l10).get
        rw [show val 13 = _ from hI.gd 13 l13] at e13
        rw [show val 10 = _ from hI.gd 10 l10] at e10
        have ag := hI.at_ 10 41 rfl l10
        rw [show val 10 = _ from hI.gd 10 l10] at ag
        refine Draws.wpOp_want (by rfl) (Draws.want_at 10 41 rfl rfl ag) ?_
        unfold Oper.wp
        simp only [execOp]
        go_simp
        refine Calls.mono (P := Try.prog) (HT1.out W (State.OwnS.reads (hI.hd.nth 0 rfl))) ?_
        rintro e w1 ⟨rfl, hg⟩
        exact hI.same hloc hL _ (.int .i64 Y) hg (Draws.upd_at _ _ _)
      · obtain rfl := Option.some.inj ho
        have l12 := hd 12 (by simp [State.HoldGDep])
        have e12 := (hI.at_ 12 43 rfl l12).get
        have l14 := hd 14 (by simp [State.HoldGDep])
        have e14 := (hI.at_ 14 45 rfl l14).get
        have l10 := hd 10 (by simp [State.HoldGDep])
        have e10 := (hI.at_ 10 41 rfl l10).get
        rw [show val 12 = _ from hI.gd 12 l12] at e12
        rw [show val 14 = _ from hI.gd 14 l14] at e14
        rw [show val 10 = _ from hI.gd 10 l10] at e10
        have ag := hI.at_ 10 41 rfl l10
        rw [show val 10 = _ from hI.gd 10 l10] at ag
        refine Draws.wpOp_want (by rfl) (Draws.want_at 10 41 rfl rfl ag) (State.wp_value (v := .bool true) (w' := W) ?_ (hI.same hloc hL _ _ (Cell.grown_refl _) (Draws.upd_at _ _ _)))
        simp only [execOp]
        go_simp
      · obtain rfl := Option.some.inj ho
        have l10 := hd 10 (by simp [State.HoldGDep])
        have e10 := (hI.at_ 10 41 rfl l10).get
        have l15 := hd 15 (by simp [State.HoldGDep])
        have e15 := (hI.at_ 15 46 rfl l15).get
        rw [show val 10 = _ from hI.gd 10 l10] at e10
        rw [show val 15 = _ from hI.gd 15 l15] at e15
        refine Draws.wpOp_of (by rfl) rfl (State.wp_value (v := .bool true) (w' := W) ?_ (hI.same hloc hL _ _ (Cell.grown_refl _) (Draws.upd_at _ _ _)))
        simp only [execOp]
        go_simp
      · obtain rfl := Option.some.inj ho
        have l16 := hd 16 (by simp [State.HoldGDep])
        have e16 := (hI.at_ 16 47 rfl l16).get
        rw [show val 16 = _ from hI.gd 16 l16] at e16
        refine Draws.wpOp_of (by rfl) rfl (State.wp_value (v := .bool true) (w' := W) ?_ (hI.same hloc hL _ _ (Cell.grown_refl _) (Draws.upd_at _ _ _)))
        simp only [execOp]
        go_simp
      · obtain rfl := Option.some.inj ho
        have l17 := hd 17 (by simp [State.HoldGDep])
        have e17 := (hI.at_ 17 48 rfl l17).get
        rw [show val 17 = _ from hI.gd 17 l17] at e17
        have ag := hI.at_ 17 48 rfl l17
        rw [show val 17 = _ from hI.gd 17 l17] at ag
        have p6 := (hI.old 6 (by kernel_rfl) rfl).get
        refine Draws.wpOp_want (by rfl) (Draws.want_at 17 48 rfl rfl ag) (State.wp_value (v := .pointer (some ⟨B6, 1, none⟩)) (w' := W) ?_ (hI.same hloc hL _ _ (Cell.grown_refl _) (Draws.upd_at _ _ _)))
        simp only [execOp]
        go_simp
      · obtain rfl := Option.some.inj ho
        have l18 := hd 18 (by simp [State.HoldGDep])
        have e18 := (hI.at_ 18 49 rfl l18).get
        have l17 := hd 17 (by simp [State.HoldGDep])
        have e17 := (hI.at_ 17 48 rfl l17).get
        rw [show val 18 = _ from hI.gd 18 l18] at e18
        rw [show val 17 = _ from hI.gd 17 l17] at e17
        have ag := hI.at_ 17 48 rfl l17
        rw [show val 17 = _ from hI.gd 17 l17] at ag
        refine Draws.wpOp_want (by rfl) (Draws.want_at 17 48 rfl rfl ag) (State.wp_value (v := .int .i64 0) (w' := W) ?_ (hI.same hloc hL _ _ (Cell.grown_refl _) (Draws.upd_at _ _ _)))
        simp only [execOp]
        go_simp
      · obtain rfl := Option.some.inj ho
        have l19 := hd 19 (by simp [State.HoldGDep])
        have e19 := (hI.at_ 19 50 rfl l19).get
        have l17 := hd 17 (by simp [State.HoldGDep])
        have e17 := (hI.at_ 17 48 rfl l17).get
        rw [show val 19 = _ from hI.gd 19 l19] at e19
        rw [show val 17 = _ from hI.gd 17 l17] at e17
        have ag := hI.at_ 17 48 rfl l17
        rw [show val 17 = _ from hI.gd 17 l17] at ag
        refine Draws.wpOp_want (by rfl) (Draws.want_at 17 48 rfl rfl ag) (State.wp_value (v := .bool true) (w' := W) ?_ (hI.same hloc hL _ _ (Cell.grown_refl _) (Draws.upd_at _ _ _)))
        simp only [execOp]
        go_simp
      · obtain rfl := Option.some.inj ho
        have l17 := hd 17 (by simp [State.HoldGDep])
        have e17 := (hI.at_ 17 48 rfl l17).get
        have l20 := hd 20 (by simp [State.HoldGDep])
        have e20 := (hI.at_ 20 51 rfl l20).get
        rw [show val 17 = _ from hI.gd 17 l17] at e17
        rw [show val 20 = _ from hI.gd 20 l20] at e20
        refine Draws.wpOp_of (by rfl) rfl (State.wp_value (v := .bool true) (w' := W) ?_ (hI.same hloc hL _ _ (Cell.grown_refl _) (Draws.upd_at _ _ _)))
        simp only [execOp]
        go_simp
      · obtain rfl := Option.some.inj ho
        have l21 := hd 21 (by simp [State.HoldGDep])
        have e21 := (hI.at_ 21 52 rfl l21).get
        rw [show val 21 = _ from hI.gd 21 l21] at e21
        refine Draws.wpOp_of (by rfl) rfl (State.wp_value (v := .bool true) (w' := W) ?_ (hI.same hloc hL _ _ (Cell.grown_refl _) (Draws.upd_at _ _ _)))
        simp only [execOp]
        go_simp
      · obtain rfl := Option.some.inj ho
        have l22 := hd 22 (by simp [State.HoldGDep])
        have e22 := (hI.at_ 22 53 rfl l22).get
        rw [show val 22 = _ from hI.gd 22 l22] at e22
        have ag := hI.at_ 22 53 rfl l22
        rw [show val 22 = _ from hI.gd 22 l22] at ag
        have p8 := (hI.old 8 (by kernel_rfl) rfl).get
        refine Draws.wpOp_want (by rfl) (Draws.want_at 22 53 rfl rfl ag) (State.wp_value (v := .pointer (some ⟨B8, 0, none⟩)) (w' := W) ?_ (hI.same hloc hL _ _ (Cell.grown_refl _) (Draws.upd_at _ _ _)))
        simp only [execOp]
        go_simp
      · obtain rfl := Option.some.inj ho
        have l23 := hd 23 (by simp [State.HoldGDep])
        have e23 := (hI.at_ 23 54 rfl l23).get
        have l22 := hd 22 (by simp [State.HoldGDep])
        have e22 := (hI.at_ 22 53 rfl l22).get
        rw [show val 23 = _ from hI.gd 23 l23] at e23
        rw [show val 22 = _ from hI.gd 22 l22] at e22
        have ag := hI.at_ 22 53 rfl l22
        rw [show val 22 = _ from hI.gd 22 l22] at ag
        refine Draws.wpOp_want (by rfl) (Draws.want_at 22 53 rfl rfl ag) (State.wp_value (v := .int .i64 0) (w' := W) ?_ (hI.same hloc hL _ _ (Cell.grown_refl _) (Draws.upd_at _ _ _)))
        simp only [execOp]
        go_simp
      · obtain rfl := Option.some.inj ho
        have l24 := hd 24 (by simp [State.HoldGDep])
        have e24 := (hI.at_ 24 55 rfl l24).get
        have l22 := hd 22 (by simp [State.HoldGDep])
        have e22 := (hI.at_ 22 53 rfl l22).get
        rw [show val 24 = _ from hI.gd 24 l24] at e24
        rw [show val 22 = _ from hI.gd 22 l22] at e22
        have ag := hI.at_ 22 53 rfl l22
        rw [show val 22 = _ from hI.gd 22 l22] at ag
        refine Draws.wpOp_want (by rfl) (Draws.want_at 22 53 rfl rfl ag) (State.wp_value (v := .bool true) (w' := W) ?_ (hI.same hloc hL _ _ (Cell.grown_refl _) (Draws.upd_at _ _ _)))
        simp only [execOp]
        go_simp
      · obtain rfl := Option.some.inj ho
        have l22 := hd 22 (by simp [State.HoldGDep])
        have e22 := (hI.at_ 22 53 rfl l22).get
        have l25 := hd 25 (by simp [State.HoldGDep])
        have e25 := (hI.at_ 25 56 rfl l25).get
        rw [show val 22 = _ from hI.gd 22 l22] at e22
        rw [show val 25 = _ from hI.gd 25 l25] at e25
        refine Draws.wpOp_of (by rfl) rfl (State.wp_value (v := .bool true) (w' := W) ?_ (hI.same hloc hL _ _ (Cell.grown_refl _) (Draws.upd_at _ _ _)))
        simp only [execOp]
        go_simp
      · obtain rfl := Option.some.inj ho
        have l26 := hd 26 (by simp [State.HoldGDep])
        have e26 := (hI.at_ 26 57 rfl l26).get
        rw [show val 26 = _ from hI.gd 26 l26] at e26
        refine Draws.wpOp_of (by rfl) rfl (State.wp_value (v := .bool true) (w' := W) ?_ (hI.same hloc hL _ _ (Cell.grown_refl _) (Draws.upd_at _ _ _)))
        simp only [execOp]
        go_simp
      · obtain rfl := Option.some.inj ho
        have l27 := hd 27 (by simp [State.HoldGDep])
        have e27 := (hI.at_ 27 58 rfl l27).get
        rw [show val 27 = _ from hI.gd 27 l27] at e27
        have ag := hI.at_ 27 58 rfl l27
        rw [show val 27 = _ from hI.gd 27 l27] at ag
        have p3 := (hI.old 3 (by kernel_rfl) rfl).get
        refine Draws.wpOp_want (by rfl) (Draws.want_at 27 58 rfl rfl ag) (State.wp_value (v := .agg #[.int .i64 R, .slice (some ⟨g1, 0, none⟩) n1 c1, .slice (some ⟨g2, 0, none⟩) n1 c2, .slice (some ⟨g3, 0, none⟩) n1 c3, .slice (some ⟨g4, 0, none⟩) n2 c4]) (w' := W) ?_ (hI.same hloc hL _ _ (Cell.grown_refl _) (Draws.upd_at _ _ _)))
        simp only [execOp]
        go_simp
      · obtain rfl := Option.some.inj ho
        have l27 := hd 27 (by simp [State.HoldGDep])
        have e27 := (hI.at_ 27 58 rfl l27).get
        rw [show val 27 = _ from hI.gd 27 l27] at e27
        have ag := hI.at_ 27 58 rfl l27
        rw [show val 27 = _ from hI.gd 27 l27] at ag
        have p7 := (hI.old 7 (by kernel_rfl) rfl).get
        refine Draws.wpOp_want (by rfl) (Draws.want_at 27 58 rfl rfl ag) (State.wp_value (v := .agg #[.int .i64 R, .slice s1 n1 j1, .slice s2 n1 j2, .slice s3 n1 j3, .slice s4 n2 j4]) (w' := W) ?_ (hI.same hloc hL _ _ (Cell.grown_refl _) (Draws.upd_at _ _ _)))
        simp only [execOp]
        go_simp
      · obtain rfl := Option.some.inj ho
        have l27 := hd 27 (by simp [State.HoldGDep])
        have e27 := (hI.at_ 27 58 rfl l27).get
        rw [show val 27 = _ from hI.gd 27 l27] at e27
        have ag := hI.at_ 27 58 rfl l27
        rw [show val 27 = _ from hI.gd 27 l27] at ag
        have p6 := (hI.old 6 (by kernel_rfl) rfl).get
        refine Draws.wpOp_want (by rfl) (Draws.want_at 27 58 rfl rfl ag) (State.wp_value (v := .agg #[.int .i64 rl, .int .i64 0, .int .i64 0, .int .i64 0]) (w' := W) ?_ (hI.same hloc hL _ _ (Cell.grown_refl _) (Draws.upd_at _ _ _)))
        simp only [execOp]
        go_simp
      · obtain rfl := Option.some.inj ho
        have l27 := hd 27 (by simp [State.HoldGDep])
        have e27 := (hI.at_ 27 58 rfl l27).get
        rw [show val 27 = _ from hI.gd 27 l27] at e27
        have ag := hI.at_ 27 58 rfl l27
        rw [show val 27 = _ from hI.gd 27 l27] at ag
        have p8 := (hI.old 8 (by kernel_rfl) rfl).get
        refine Draws.wpOp_want (by rfl) (Draws.want_at 27 58 rfl rfl ag) (State.wp_value (v := .agg #[.int .i64 0, .int .i64 m1, .int .i64 0, .int .i64 m3]) (w' := W) ?_ (hI.same hloc hL _ _ (Cell.grown_refl _) (Draws.upd_at _ _ _)))
        simp only [execOp]
        go_simp
      · obtain rfl := Option.some.inj ho
        have l30 := hd 30 (by simp [State.HoldGDep])
        have e30 := (hI.at_ 30 61 rfl l30).get
        have l31 := hd 31 (by simp [State.HoldGDep])
        have e31 := (hI.at_ 31 62 rfl l31).get
        have l27 := hd 27 (by simp [State.HoldGDep])
        have e27 := (hI.at_ 27 58 rfl l27).get
        rw [show val 30 = _ from hI.gd 30 l30] at e30
        rw [show val 31 = _ from hI.gd 31 l31] at e31
        rw [show val 27 = _ from hI.gd 27 l27] at e27
        have ag := hI.at_ 27 58 rfl l27
        rw [show val 27 = _ from hI.gd 27 l27] at ag
        refine Draws.wpOp_want (by rfl) (Draws.want_at 27 58 rfl rfl ag) ?_
        unfold Oper.wp
        simp only [execOp]
        go_simp
        refine Calls.mono (P := Try.prog) (HLA.out W) ?_
        rintro e w1 ⟨rfl, hg⟩
        exact hI.same hloc hL _ (.agg #[.int .i64 rl, .int .i64 m1, .int .i64 0, .int .i64 m3]) hg (Draws.upd_at _ _ _)
      · obtain rfl := Option.some.inj ho
        have l28 := hd 28 (by simp [State.HoldGDep])
        have e28 := (hI.at_ 28 59 rfl l28).get
        have l29 := hd 29 (by simp [State.HoldGDep])
        have e29 := (hI.at_ 29 60 rfl l29).get
        have l32 := hd 32 (by simp [State.HoldGDep])
        have e32 := (hI.at_ 32 63 rfl l32).get
        have l27 := hd 27 (by simp [State.HoldGDep])
        have e27 := (hI.at_ 27 58 rfl l27).get
        rw [show val 28 = _ from hI.gd 28 l28] at e28
        rw [show val 29 = _ from hI.gd 29 l29] at e29
        rw [show val 32 = _ from hI.gd 32 l32] at e32
        rw [show val 27 = _ from hI.gd 27 l27] at e27
        have ag := hI.at_ 27 58 rfl l27
        rw [show val 27 = _ from hI.gd 27 l27] at ag
        refine Draws.wpOp_want (by rfl) (Draws.want_at 27 58 rfl rfl ag) ?_
        unfold Oper.wp
        simp only [execOp]
        go_simp
        refine Calls.mono (P := Try.prog) (HL3.out W (State.OwnS.reads (hI.hd.nth 0 rfl)) (State.OwnS.reads (hI.hd.nth 6 rfl))) ?_
        rintro e w1 ⟨rfl, hg⟩
        exact hI.same hloc hL _ (.bool true) hg (Draws.upd_at _ _ _)
      · obtain rfl := Option.some.inj ho
        have l27 := hd 27 (by simp [State.HoldGDep])
        have e27 := (hI.at_ 27 58 rfl l27).get
        have l33 := hd 33 (by simp [State.HoldGDep])
        have e33 := (hI.at_ 33 64 rfl l33).get
        rw [show val 27 = _ from hI.gd 27 l27] at e27
        rw [show val 33 = _ from hI.gd 33 l33] at e33
        refine Draws.wpOp_of (by rfl) rfl (State.wp_value (v := .bool true) (w' := W) ?_ (hI.same hloc hL _ _ (Cell.grown_refl _) (Draws.upd_at _ _ _)))
        simp only [execOp]
        go_simp
      · obtain rfl := Option.some.inj ho
        have l34 := hd 34 (by simp [State.HoldGDep])
        have e34 := (hI.at_ 34 65 rfl l34).get
        rw [show val 34 = _ from hI.gd 34 l34] at e34
        refine Draws.wpOp_of (by rfl) rfl (State.wp_value (v := .bool true) (w' := W) ?_ (hI.same hloc hL _ _ (Cell.grown_refl _) (Draws.upd_at _ _ _)))
        simp only [execOp]
        go_simp
    case last =>
      intro L a W val G hI hall
      have v9 : val 35 = .bool true := hI.gd 35 (hall 35 (by simp))
      have hgr : w.grownBy W none := hI.hd.gr
      have ha := hI.frame (by kernel_rfl) hall
      refine hKK _ _ ?_
      clear hKK hI hall HE4 HL1 HL2 HL3 HT1 HT2 HLA
      simp [Draws.frameOf, Draws.slotOf, Act.put, List.range, List.range.loop] at ha
      subst ha
      rw [v9]
      clear v9
      go_wp2_with fail
      go_ret
      exact ⟨rfl, Cell.grown_below hgr (Nat.le_refl _)⟩

set_option maxRecDepth 100000 in
theorem lifted (os : Os) (started : os.Started) (H : Type) (enc : TypeId × Value → H) :
    ReturnsInHanded {} Try.checked os 3 .any (Rows.fnRainsSpec.pre6 enc Try.prog Try.f3 Rows.fnRainsRow.domain false) (Rows.fnRainsSpec.post enc Try.prog Try.f3 false true false false) := by
  refine returnsInHanded_of_change (C := Try.checked) own started (by kernel_rfl) Try.func3
    (ChangeSpec.witness6 (enc := enc) (C := Try.checked) false ⟨#[], #[.slice none 0 0], []⟩ 8 (by kernel_rfl) (by kernel_rfl) (by kernel_rfl) (by kernel_rfl)) ?_
  intro W base args ds gs before hval0 hW hcnd _
  have hval : ∀ (j : Nat) t v, Try.f3.params[j]? = some t → args[j]? = some v → Value.okWide Try.prog W .any base t v := hval0
  have hW' := hW
  obtain ⟨p, q, hA0, hV, rfl, hfz, hnd⟩ := hW
  have hA : DataW.TrodAll enc Try.prog W 0 (fun _ => true) true Try.f3.params.toList args.toList ds p := hA0
  rw [Try.params3] at hA hval
  obtain ⟨v0, vs0, d0, ds0, p0, q0, hargs, rfl, rfl, h0, r0⟩ := trodAll_cons hA
  obtain ⟨rfl, rfl, rfl⟩ := trodAll_nil r0
  obtain rfl : args = #[v0] := by cases args; simp_all
  obtain ⟨rfl, rfl⟩ := trodVars_none hV
  obtain ⟨a0, len0, cap0, rfl⟩ := okWide_slice Try.underlying22 (hval 0 22 v0 rfl rfl)
  have k0 := h0
  have lt0 : ∀ x ∈ p0, x.block < W.heap.size := by obtain ⟨m, hm⟩ := k0; exact DataW.trod_lt m _ _ _ hm
  obtain ⟨z0, w0⟩ : ∃ zs, IsRow .u8 W a0 len0 cap0 zs := by
    obtain ⟨fuel, hf⟩ := h0
    rcases open_ints Try.underlying22 Try.underlying5 (by kernel_rfl) hf with ⟨hcs, _⟩ | ⟨x, l, c, zs, hcs, _, hl, hm, hz, _, hcell, hwz⟩
    · simp [Value.cells] at hcs
      obtain ⟨rfl, rfl, rfl⟩ := hcs
      exact ⟨[], .inl ⟨rfl, rfl, rfl, rfl⟩⟩
    · simp [Value.cells] at hcs
      obtain ⟨rfl, rfl, rfl⟩ := hcs
      exact ⟨zs, .inr ⟨_, rfl, hl, hm, by simpa using hz, hcell, hwz⟩⟩
  clear hA0 hval0
  refine (walk a0 len0 cap0 z0 W w0).mono fun e W' ⟨he, bel⟩ => ?_
  subst he
  exact ⟨_, rfl, _, _, _, [], _, [], hW', trodAll_mk1 (shut_bool Try.underlying4 _), (trodAll_cons_mk (Below.trod laidOut (by kernel_rfl) (of_decide_eq_true (by kernel_rfl)) k0 bel lt0) trodAll_mk0), rfl, bel.frame _, fun h => by cases h⟩

theorem over : Rows.fnRainsRow.holds Try.pinned (OpenSpec.ofChange Rows.fnRainsSpec) :=
  OpenClaim.holds_of_wide 3 Try.f3 rfl rfl rfl rfl rfl rfl rfl ⟨rfl, rfl, rfl, rfl, rfl⟩ rfl rfl rfl rfl rfl (by kernel_rfl) Try.func3 (by kernel_rfl)
    (of_decide_eq_true (by kernel_rfl)) (by unfold Func.isWrapper; first | (rw [if_pos (by decide +kernel)]; kernel_rfl) | (rw [if_neg (by decide +kernel)]; exact ⟨rfl, rfl⟩))
    (fun os started H enc _ => lifted os started H enc)

theorem proved : Rows.FnRainsSaid := over
#print axioms proved
end Go.Proofs.Ytmbmeajneankpaa.fnRains
