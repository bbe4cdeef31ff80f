/- Proved: for every slice of bytes the law FnDriedOut returns true: the program's DryOut of a drawn state counts the leaves that have mass before the program's Soak and none behind it; a leaf without mass behind it has no tracer; the number of leaves stays.
   Conditions: none besides those that the given row prints. -/
import Derived.Test.YtmbmeajneankpaaRows
import Derived.WalkKit
import Derived.ProofKit
import Derived.OpenShut
import Derived.ShutString
import Derived.Test.YtmbmeajneankpaaStSrcL
import Derived.Test.YtmbmeajneankpaaStSrcI
import Derived.ChangeOld
import Derived.Below
set_option maxRecDepth 100000
namespace Go.Proofs.Ytmbmeajneankpaa.fnDriedOut
open Go.ChangeShapes Go.WideShapes Go.ChangeAt Go.RowKit
open Go.ChangeMaps (open_string shut_string)
set_option linter.unusedVariables false

theorem own : ownKnob Try.prog.godebug = none := by kernel_rfl
theorem laidOut : laidOutB Try.prog = true := by kernel_rfl

def IsRow (k : IntKind) (w : World) (a : Option Addr) (len cap : Nat) (zs : List Int) : Prop :=
  (a = none ∧ len = 0 ∧ cap = 0 ∧ zs = []) ∨
  ∃ x, a = some x ∧ len ≤ cap ∧ cap ≤ maxLen ∧ zs.length = cap ∧ (∀ i, i < zs.length → w.cell? (x.add i) = some (.int k (zs.getD i 0))) ∧ ∀ n ∈ zs, (Lit.int k n).wf = true

set_option maxHeartbeats 32000000 in
theorem walk (a0 : Option Addr) (len0 cap0 : Nat) (z0 : List Int) (w : World) (w0 : IsRow .u8 w a0 len0 cap0 z0) :
    Calls Try.prog 4 #[.slice a0 len0 cap0] w fun e w' => e = .returned (.bool true) ∧ Below w.heap.size w w' := by
  have hb := Draw.bytes_of w0
  have HB := Lib.hid hb; clear hb
  clear w0
  by_cases hlen : 1048576 < len0
  · have hd : decide (1048576 < (len0 : Int)) = true := by simp; omega
    go_enter Try.func4, Try.ntmps4
    go_wp2_with fail
    refine Draw.big_any.mono ?_; rintro e w1 ⟨rfl, rfl⟩
    rw [hd]
    go_wp2_with fail
    go_ret
    exact ⟨rfl, Below.refl _ _⟩
  · have hd : decide (1048576 < (len0 : Int)) = false := by simp; omega
    have hlen' : len0 ≤ 1048576 := by omega
    have HLen := Lib.hid hlen'; clear hlen'
    go_enter Try.func4, Try.ntmps4
    go_wp2_with fail
    refine Draw.big_any.mono ?_; rintro e w1 ⟨rfl, rfl⟩
    rw [hd]
    clear hd hlen
    go_wp2_with fail
    refine (State.drawState_is HLen.out HB.out (Nat.le_refl _)).mono ?_
    rintro e w1 ⟨R, n1, n2, xs, ms, ts, bs, x1, c1, x2, c2, x3, c3, x4, c4, rfl, hd, ho, hg⟩
    obtain ⟨hn2, hn2', hR⟩ := hd.sizes
    have hn := hd.leaves
    obtain ⟨g1, c1', hv⟩ := Mesh.own_at1 ho.l (by omega)
    cases hv
    obtain ⟨g2, rfl, -, -⟩ := Ints.own_atI ho.m (by omega)
    obtain ⟨g3, rfl, -, -⟩ := Ints.own_atI ho.t (by omega)
    obtain ⟨g4, rfl, -, -⟩ := Ints.own_atI ho.b (by omega)
    have HE1 := Lib.hid ((State.Held.state (Law.Held.nil w) hg ho).box 29 #[.int .i64 R, .slice (some ⟨g1, 0, none⟩) n1 c1, .slice (some ⟨g2, 0, none⟩) n1 c2, .slice (some ⟨g3, 0, none⟩) n1 c3, .slice (some ⟨g4, 0, none⟩) n2 c4])
    have HD := Lib.hid hd
    have H1 := Lib.hid (show n1 ≤ 1048576 by omega); have H2 := Lib.hid (show n2 ≤ 1048576 by omega)
    have HN := Lib.hid hn
    have hn1 : 1 ≤ (n1 : Int) := by omega
    have hn1' : (n1 : Int) ≤ 128 := by omega
    have HBW := Lib.hid (HB.out.kept (fun b hb' => (hg.block b hb' (by simp))))
    have HSZ := Lib.hid hg.size
    clear ho hg hd hn hn2 hn2' hR HB
    go_upto_region 4 with fail
    obtain ⟨B3, hB3⟩ : ∃ B, B = w1.heap.size := ⟨_, rfl⟩
    rw [← hB3] at HE1 ⊢
    clear hB3
    have HBX := Lib.hid (HBW.out.kept (fun b hb' => (World.grownBy_alloc w1 (.cells #[.int .i64 R, .slice (some ⟨g1, 0, none⟩) n1 c1, .slice (some ⟨g2, 0, none⟩) n1 c2, .slice (some ⟨g3, 0, none⟩) n1 c3, .slice (some ⟨g4, 0, none⟩) n2 c4] 29) none).block b (by have := HSZ.out; omega) (by simp)))
    have HSX := Lib.hid (Nat.le_trans HSZ.out (World.grownBy_alloc w1 (.cells #[.int .i64 R, .slice (some ⟨g1, 0, none⟩) n1 c1, .slice (some ⟨g2, 0, none⟩) n1 c2, .slice (some ⟨g3, 0, none⟩) n1 c3, .slice (some ⟨g4, 0, none⟩) n2 c4] 29) none).size)
    clear HBW HSZ
    generalize w1.alloc (.cells #[.int .i64 R, .slice (some ⟨g1, 0, none⟩) n1 c1, .slice (some ⟨g2, 0, none⟩) n1 c2, .slice (some ⟨g3, 0, none⟩) n1 c3, .slice (some ⟨g4, 0, none⟩) n2 c4] 29) = W1 at *
    go_upto_region 5 with (go_at_call 10; ((with_reducible refine (State.places_new HLen.out HBX.out HSX.out).mono ?_); rintro e w2 ⟨gp, cp, p0, p1, p2, rfl, q0, q1, q2, hp, hlo, hg⟩; have HE2 := Lib.hid (HE1.out.add hg hp (fun b hb => by rw [List.mem_singleton.1 hb]; exact hlo)); clear hp hlo hg))
    clear HE1 HBX HSX HLen
    have hok := HD.out.ok
    obtain ⟨hl2, hl3⟩ := HD.out.len
    have ha0 : State.amtB p0 = true := decide_eq_true (by omega)
    have hsb : State.srcB R xs ms ts bs p0 = true := by unfold State.srcB; rw [hok, ha0]; rfl
    obtain ⟨hyo, -, -, ⟨m1a, m1b⟩, m3a, m3b⟩ := State.sk_ok (a := p0) hok
    have HSD := Lib.hid fun k => State.soak_dry (a := p0) hok k
    have HKZ := Lib.hid (show ∀ k, k < n1 → (State.msAt (State.skM R xs ms ts bs p0) k = 0 ↔ State.msAt ms k ≤ State.partN p0 xs k) from fun k hk => by
      have q := State.kept_zero hok ha0 k
      rw [← (State.soak_at (ts := ts) (show k < ms.length by omega)).1] at q
      rw [State.skM, if_pos hsb]
      exact q)
    have HLR := Lib.hid fun k => State.leaf_range hok k
    have HPF := Lib.hid fun k => (State.part_facts ha0 xs k).2
    have HDL := Lib.hid fun k => State.dried_len p0 xs ms k
    obtain ⟨hlm, hlt⟩ := State.sk_lens (R := R) (xs := xs) (ms := ms) (ts := ts) (bs := bs) (a := p0) (by omega)
    obtain ⟨mx, hmx⟩ : ∃ z, z = State.skM R xs ms ts bs p0 := ⟨_, rfl⟩
    obtain ⟨tx, htx⟩ : ∃ z, z = State.skT R xs ms ts bs p0 := ⟨_, rfl⟩
    obtain ⟨m1, hm1⟩ : ∃ z, z = State.skL1 R xs ms ts bs p0 := ⟨_, rfl⟩
    obtain ⟨m3, hm3⟩ : ∃ z, z = State.skL3 R xs ms ts bs p0 := ⟨_, rfl⟩
    have HSK := Lib.hid (show ∀ u, State.ReadsS u (some ⟨g1, 0, none⟩) (some ⟨g2, 0, none⟩) (some ⟨g3, 0, none⟩) (some ⟨g4, 0, none⟩) n1 n1 n1 n2 xs ms ts bs → Calls Try.prog 12 #[.agg #[.int .i64 R, .slice (some ⟨g1, 0, none⟩) n1 c1, .slice (some ⟨g2, 0, none⟩) n1 c2, .slice (some ⟨g3, 0, none⟩) n1 c3, .slice (some ⟨g4, 0, none⟩) n2 c4], .int .i64 p0] u (State.GivesSL R n1 n1 n1 n2 xs mx tx bs 0 m1 0 m3 u) from fun u h => by
      have q := State.soak_is R _ _ _ _ n1 n1 n1 n2 c1 c2 c3 c4 xs ms ts bs p0 u h H1.out H1.out H1.out H2.out
      rw [← hmx, ← htx, ← hm1, ← hm3] at q
      exact q)
    have HDO0 := Lib.hid (show ∀ u, State.ReadsS u (some ⟨g1, 0, none⟩) (some ⟨g2, 0, none⟩) (some ⟨g3, 0, none⟩) (some ⟨g4, 0, none⟩) n1 n1 n1 n2 xs ms ts bs → Calls Try.prog 16 #[.agg #[.int .i64 R, .slice (some ⟨g1, 0, none⟩) n1 c1, .slice (some ⟨g2, 0, none⟩) n1 c2, .slice (some ⟨g3, 0, none⟩) n1 c3, .slice (some ⟨g4, 0, none⟩) n2 c4], .int .i64 p0] u fun e w' => e = .returned (.int .i64 (State.driedN p0 xs ms n1 : Int)) ∧ u.grownBy w' none from fun u h => by
      have q := State.dryOut_is R _ _ _ _ n1 n1 n1 n2 c1 c2 c3 c4 xs ms ts bs p0 u h H1.out H1.out H1.out H2.out
      rw [State.drG, if_pos hsb, hl2] at q
      exact q)
    rw [← hmx] at HKZ HSD hlm
    rw [← htx] at HSD hlt
    have HL := Lib.hid (show ms.length = n1 ∧ mx.length = n1 ∧ tx.length = n1 by omega)
    clear hmx htx hm1 hm3 hsb ha0 hyo m1a m1b m3a m3b hlm hlt hok hl2 hl3 q0 q1 q2 HD HN
    obtain ⟨z0, z1, z2, z3, z4⟩ := Law.box5 (HE2.out.nth 1 rfl)
    go_upto_region 5 with fail
    clear z0 z1 z2 z3 z4
    rename_i KK hKK
    refine Draws.wp_region_tabG (w := w) rfl (by kernel_rfl) (by kernel_rfl) State.DrySGDep (by kernel_rfl) [State.stateG (.slice (some ⟨g1, 0, none⟩) n1 c1) (.slice (some ⟨g2, 0, none⟩) n1 c2) (.slice (some ⟨g3, 0, none⟩) n1 c3) (.slice (some ⟨g4, 0, none⟩) n2 c4) n1 n1 n1 n2 xs ms ts bs, Law.boxG B3 29 #[.int .i64 R, .slice (some ⟨g1, 0, none⟩) n1 c1, .slice (some ⟨g2, 0, none⟩) n1 c2, .slice (some ⟨g3, 0, none⟩) n1 c3, .slice (some ⟨g4, 0, none⟩) n2 c4], State.placesG gp p0 p1 p2] [4, 8, 9] (fun _ => Law.emptyG) (State.DrySG R p0 p1 p2 g1 g2 g3 g4 n1 n2 c1 c2 c3 c4 B3 gp cp xs bs mx tx m1 m3) ?start ?step ?last
    case start => exact (HE2.out.on (Mesh.gr_drew (Cell.grown_refl _))).addE.addE.addE
    case step =>
      clear hKK
      intro L a W val G i o hI ho hL hd
      have hi : i < 12 := by have := (Array.getElem?_eq_some_iff.1 ho).1; simpa using this
      have hloc := State.DrySG_local R p0 p1 p2 g1 g2 g3 g4 n1 n2 c1 c2 c3 c4 B3 gp cp xs bs mx tx m1 m3
      obtain ⟨z0, z1, z2, z3, z4⟩ := Law.box5 (hI.hd.nth 1 rfl)
      obtain ⟨c4', c5', c6'⟩ := hI.hd.nth 2 rfl
      rcases (show i = 0 ∨ i = 1 ∨ i = 2 ∨ i = 3 ∨ i = 4 ∨ i = 5 ∨ i = 6 ∨ i = 7 ∨ i = 8 ∨ i = 9 ∨ i = 10 ∨ i = 11 by omega) with rfl | rfl | rfl | rfl | rfl | rfl | rfl | rfl | rfl | rfl | rfl | rfl
      · obtain rfl := Option.some.inj ho
        have p3 := (hI.old 3 (by kernel_rfl) rfl).get
        refine Draws.wpOp_of (by rfl) rfl (State.wp_value (v := .agg #[.int .i64 R, .slice (some ⟨g1, 0, none⟩) n1 c1, .slice (some ⟨g2, 0, none⟩) n1 c2, .slice (some ⟨g3, 0, none⟩) n1 c3, .slice (some ⟨g4, 0, none⟩) n2 c4]) (w' := W) ?_ (hI.same hloc hL _ _ (Cell.grown_refl _) (Draws.upd_at _ _ _)))
        simp only [execOp]
        go_simp
      · obtain rfl := Option.some.inj ho
        have p4 := (hI.old 4 (by kernel_rfl) rfl).get
        refine Draws.wpOp_of (by rfl) rfl (State.wp_value (v := .slice (some ⟨gp, 0, none⟩) 12 cp) (w' := W) ?_ (hI.same hloc hL _ _ (Cell.grown_refl _) (Draws.upd_at _ _ _)))
        simp only [execOp]
        go_simp
      · obtain rfl := Option.some.inj ho
        have l1 := hd 1 (by simp [State.DrySGDep])
        have e1 := (hI.at_ 1 17 rfl l1).get
        rw [show val 1 = _ from hI.gd 1 l1] at e1
        refine Draws.wpOp_of (by rfl) rfl (State.wp_value (v := .pointer (some ⟨gp, 0, none⟩)) (w' := W) ?_ (hI.same hloc hL _ _ (Cell.grown_refl _) (Draws.upd_at _ _ _)))
        simp only [execOp]
        go_simp
      · obtain rfl := Option.some.inj ho
        have l2 := hd 2 (by simp [State.DrySGDep])
        have e2 := (hI.at_ 2 18 rfl l2).get
        rw [show val 2 = _ from hI.gd 2 l2] at e2
        refine Draws.wpOp_of (by rfl) rfl (State.wp_value (v := .int .i64 p0) (w' := W) ?_ (hI.same hloc hL _ _ (Cell.grown_refl _) (Draws.upd_at _ _ _)))
        simp only [execOp]
        go_simp
      · obtain rfl := Option.some.inj ho
        have l0 := hd 0 (by simp [State.DrySGDep])
        have e0 := (hI.at_ 0 16 rfl l0).get
        have l3 := hd 3 (by simp [State.DrySGDep])
        have e3 := (hI.at_ 3 19 rfl l3).get
        rw [show val 0 = _ from hI.gd 0 l0] at e0
        rw [show val 3 = _ from hI.gd 3 l3] at e3
        refine Draws.wpOp_of (by rfl) rfl ?_
        unfold Oper.wp
        simp only [execOp]
        go_simp
        refine Calls.mono (P := Try.prog) (HSK.out W (State.OwnS.reads (hI.hd.nth 0 rfl))) ?_
        rintro e w1 ⟨q1, d1, q2, d2, q3, d3, q4, d4, rfl, ho, hg⟩
        exact hI.made hloc hL _ (.tuple #[.agg #[.int .i64 R, .slice q1 n1 d1, .slice q2 n1 d2, .slice q3 n1 d3, .slice q4 n2 d4], .agg #[.int .i64 0, .int .i64 m1, .int .i64 0, .int .i64 m3]]) (State.stateG (.slice q1 n1 d1) (.slice q2 n1 d2) (.slice q3 n1 d3) (.slice q4 n2 d4) n1 n1 n1 n2 xs mx tx bs) (hI.hd.fill 3 (g' := State.stateG (.slice q1 n1 d1) (.slice q2 n1 d2) (.slice q3 n1 d3) (.slice q4 n2 d4) n1 n1 n1 n2 xs mx tx bs) (congrArg some (hI.no 4 hL)) hg (ho.from (Nat.zero_le _)) ho.blocks) ⟨q1, d1, q2, d2, q3, d3, q4, d4, Draws.upd_at _ _ _, Draws.upd_at _ _ _⟩
      · obtain rfl := Option.some.inj ho
        have l4 := hd 4 (by simp [State.DrySGDep])
        have e4 := (hI.at_ 4 20 rfl l4).get
        obtain ⟨q1, d1, q2, d2, q3, d3, q4, d4, v4, -⟩ := hI.gd 4 l4
        rw [v4] at e4
        refine Draws.wpOp_of (by rfl) rfl (State.wp_value (v := .tuple #[.agg #[.int .i64 R, .slice q1 n1 d1, .slice q2 n1 d2, .slice q3 n1 d3, .slice q4 n2 d4], .agg #[.int .i64 0, .int .i64 m1, .int .i64 0, .int .i64 m3]]) (w' := W) ?_ (hI.same hloc hL _ _ (Cell.grown_refl _) ⟨q1, d1, q2, d2, q3, d3, q4, d4, Draws.upd_at _ _ _, v4⟩))
        simp only [execOp]
        go_simp
      · obtain rfl := Option.some.inj ho
        have l5 := hd 5 (by simp [State.DrySGDep])
        have e5 := (hI.at_ 5 15 rfl l5).get
        obtain ⟨q1, d1, q2, d2, q3, d3, q4, d4, v5, -⟩ := hI.gd 5 l5
        rw [v5] at e5
        refine Draws.wpOp_of (by rfl) rfl (State.wp_value (v := .agg #[.int .i64 R, .slice q1 n1 d1, .slice q2 n1 d2, .slice q3 n1 d3, .slice q4 n2 d4]) (w' := W) ?_ (hI.same hloc hL _ _ (Cell.grown_refl _) ⟨q1, d1, q2, d2, q3, d3, q4, d4, Draws.upd_at _ _ _, v5⟩))
        simp only [execOp]
        go_simp
      · obtain rfl := Option.some.inj ho
        have l5 := hd 5 (by simp [State.DrySGDep])
        have e5 := (hI.at_ 5 15 rfl l5).get
        obtain ⟨q1, d1, q2, d2, q3, d3, q4, d4, v5, -⟩ := hI.gd 5 l5
        rw [v5] at e5
        refine Draws.wpOp_of (by rfl) rfl (State.wp_value (v := .agg #[.int .i64 0, .int .i64 m1, .int .i64 0, .int .i64 m3]) (w' := W) ?_ (hI.same hloc hL _ _ (Cell.grown_refl _) (Draws.upd_at _ _ _)))
        simp only [execOp]
        go_simp
      · obtain rfl := Option.some.inj ho
        refine Draws.wpOp_of (by rfl) rfl (State.wp_value (v := .pointer (some ⟨W.heap.size, 0, none⟩)) (w' := W.alloc (.cells #[.int .i64 0, .slice none 0 0, .slice none 0 0, .slice none 0 0, .slice none 0 0] 29)) ?_ ?_)
        · simp only [execOp]
          go_simp
        exact hI.made hloc hL _ _ (Law.boxG W.heap.size 29 #[.int .i64 0, .slice none 0 0, .slice none 0 0, .slice none 0 0, .slice none 0 0]) (hI.hd.fill 4 (g' := Law.boxG W.heap.size 29 #[.int .i64 0, .slice none 0 0, .slice none 0 0, .slice none 0 0, .slice none 0 0]) (congrArg some (hI.no 8 hL)) (World.grownBy_alloc W _ none) (World.alloc_heap_new W _) (fun b hb => by have : b = W.heap.size := (by simpa [Law.boxG] using hb); subst this; simp)) ⟨W.heap.size, _, _, _, _, _, Draws.upd_at _ _ _, Draws.upd_at _ _ _⟩
      · obtain rfl := Option.some.inj ho
        refine Draws.wpOp_of (by rfl) rfl (State.wp_value (v := .pointer (some ⟨W.heap.size, 0, none⟩)) (w' := W.alloc (.cells #[.int .i64 0, .int .i64 0, .int .i64 0, .int .i64 0] 33)) ?_ ?_)
        · simp only [execOp]
          go_simp
        exact hI.made hloc hL _ _ (Law.boxG W.heap.size 33 #[.int .i64 0, .int .i64 0, .int .i64 0, .int .i64 0]) (hI.hd.fill 5 (g' := Law.boxG W.heap.size 33 #[.int .i64 0, .int .i64 0, .int .i64 0, .int .i64 0]) (congrArg some (hI.no 9 hL)) (World.grownBy_alloc W _ none) (World.alloc_heap_new W _) (fun b hb => by have : b = W.heap.size := (by simpa [Law.boxG] using hb); subst this; simp)) ⟨W.heap.size, _, _, _, _, Draws.upd_at _ _ _, Draws.upd_at _ _ _⟩
      · obtain rfl := Option.some.inj ho
        have l8 := hd 8 (by simp [State.DrySGDep])
        have e8 := (hI.at_ 8 5 rfl l8).get
        have l6 := hd 6 (by simp [State.DrySGDep])
        have e6 := (hI.at_ 6 21 rfl l6).get
        obtain ⟨B5, o8_0, o8_1, o8_2, o8_3, o8_4, v8, -⟩ := hI.gd 8 l8
        rw [v8] at e8
        obtain ⟨q1, d1, q2, d2, q3, d3, q4, d4, v6, -⟩ := hI.gd 6 l6
        rw [v6] at e6
        obtain ⟨B5', o8_0, o8_1, o8_2, o8_3, o8_4, v8', g8⟩ := hI.gd 8 l8
        rw [v8] at v8'
        cases v8'
        obtain ⟨y0, y1, y2, y3, y4⟩ := Law.box5 (hI.hd.nth 4 (congrArg some g8))
        obtain ⟨f0, f1, f2, f3, f4⟩ := Law.free5 (hI.hd.nth 4 (congrArg some g8))
        refine Draws.wpOp_of (by rfl) rfl (State.wp_skip (w' := ((((W.setCell ⟨B5, 0, none⟩ (.int .i64 R)).setCell ⟨B5, 1, none⟩ (.slice q1 n1 d1)).setCell ⟨B5, 2, none⟩ (.slice q2 n1 d2)).setCell ⟨B5, 3, none⟩ (.slice q3 n1 d3)).setCell ⟨B5, 4, none⟩ (.slice q4 n2 d4)) ?_ ?_)
        · simp only [execOp]
          go_simp
        exact hI.turned (c := 8) hloc hL _ undef (Law.boxG B5 29 #[.int .i64 R, .slice q1 n1 d1, .slice q2 n1 d2, .slice q3 n1 d3, .slice q4 n2 d4]) (hI.hd.put5 4 (congrArg some g8) (.int .i64 R) (.slice q1 n1 d1) (.slice q2 n1 d2) (.slice q3 n1 d3) (.slice q4 n2 d4)) l8 (by kernel_rfl) ⟨B5, _, _, _, _, _, v8, Draws.upd_at _ _ _⟩ ⟨B5, q1, d1, q2, d2, q3, d3, q4, d4, v8, v6, Draws.upd_at _ _ _⟩
      · obtain rfl := Option.some.inj ho
        have l9 := hd 9 (by simp [State.DrySGDep])
        have e9 := (hI.at_ 9 6 rfl l9).get
        have l7 := hd 7 (by simp [State.DrySGDep])
        have e7 := (hI.at_ 7 22 rfl l7).get
        obtain ⟨B6, o9_0, o9_1, o9_2, o9_3, v9, -⟩ := hI.gd 9 l9
        rw [v9] at e9
        rw [show val 7 = _ from hI.gd 7 l7] at e7
        obtain ⟨B6', o9_0, o9_1, o9_2, o9_3, v9', g9⟩ := hI.gd 9 l9
        rw [v9] at v9'
        cases v9'
        obtain ⟨y0, y1, y2, y3⟩ := Law.cells4 (hI.hd.nth 5 (congrArg some g9))
        obtain ⟨f0, f1, f2, f3⟩ := Law.frees4 (hI.hd.nth 5 (congrArg some g9))
        refine Draws.wpOp_of (by rfl) rfl (State.wp_skip (w' := (((W.setCell ⟨B6, 0, none⟩ (.int .i64 0)).setCell ⟨B6, 1, none⟩ (.int .i64 m1)).setCell ⟨B6, 2, none⟩ (.int .i64 0)).setCell ⟨B6, 3, none⟩ (.int .i64 m3)) ?_ ?_)
        · simp only [execOp]
          go_simp
        exact hI.turned (c := 9) hloc hL _ undef (Law.boxG B6 33 #[.int .i64 0, .int .i64 m1, .int .i64 0, .int .i64 m3]) (hI.hd.put4 5 (congrArg some g9) (.int .i64 0) (.int .i64 m1) (.int .i64 0) (.int .i64 m3)) l9 (by kernel_rfl) ⟨B6, _, _, _, _, v9, Draws.upd_at _ _ _⟩ ⟨B6, v9, (show val 7 = _ from hI.gd 7 l7), Draws.upd_at _ _ _⟩
    case last =>
    intro L a W val G hI hall
    have al : ∀ i, i < 12 → L i = true := fun i hi => hall i (by simpa using hi)
    obtain ⟨q1, d1, q2, d2, q3, d3, q4, d4, v4, r4⟩ := hI.gd 4 (al 4 (by decide))
    obtain ⟨q1', d1', q2', d2', q3', d3', q4', d4', v5, u⟩ := hI.gd 5 (al 5 (by decide))
    rw [v4] at u
    cases u
    obtain ⟨q1', d1', q2', d2', q3', d3', q4', d4', v6, u⟩ := hI.gd 6 (al 6 (by decide))
    rw [v5] at u
    cases u
    obtain ⟨B5, q1', d1', q2', d2', q3', d3', q4', d4', v8, u, r8⟩ := hI.gd 10 (al 10 (by decide))
    rw [v6] at u
    cases u
    obtain ⟨B6, v9, -, r9⟩ := hI.gd 11 (al 11 (by decide))
    have hH : Law.Held w W [State.stateG (.slice (some ⟨g1, 0, none⟩) n1 c1) (.slice (some ⟨g2, 0, none⟩) n1 c2) (.slice (some ⟨g3, 0, none⟩) n1 c3) (.slice (some ⟨g4, 0, none⟩) n2 c4) n1 n1 n1 n2 xs ms ts bs, Law.boxG B3 29 #[.int .i64 R, .slice (some ⟨g1, 0, none⟩) n1 c1, .slice (some ⟨g2, 0, none⟩) n1 c2, .slice (some ⟨g3, 0, none⟩) n1 c3, .slice (some ⟨g4, 0, none⟩) n2 c4], State.placesG gp p0 p1 p2, G 4, G 8, G 9] := hI.hd
    rw [r4, r8, r9] at hH
    have HE3 := Lib.hid hH
    have ha := hI.frame (by kernel_rfl) hall
    refine hKK _ _ ?_
    clear hKK hI hH hall al r4 r8 r9 HE2 HSK
    simp [Draws.frameOf, Draws.slotOf, Act.put, List.range, List.range.loop] at ha
    subst ha
    rw [v8, v9]
    clear v4 v5 v6 v8 v9
    go_wp2_with fail
    go_loopw [7, 8] (fun c i wr => ∃ k m : Nat, (k : Int) ≤ n1 ∧ i = .int .i64 k ∧ c = .int .i64 m ∧ Hid (m = State.driedN p0 xs ms k) ∧ Hid (Law.Held w wr [State.stateG (.slice (some ⟨g1, 0, none⟩) n1 c1) (.slice (some ⟨g2, 0, none⟩) n1 c2) (.slice (some ⟨g3, 0, none⟩) n1 c3) (.slice (some ⟨g4, 0, none⟩) n2 c4) n1 n1 n1 n2 xs ms ts bs, Law.boxG B3 29 #[.int .i64 R, .slice (some ⟨g1, 0, none⟩) n1 c1, .slice (some ⟨g2, 0, none⟩) n1 c2, .slice (some ⟨g3, 0, none⟩) n1 c3, .slice (some ⟨g4, 0, none⟩) n2 c4], State.placesG gp p0 p1 p2, State.stateG (.slice q1 n1 d1) (.slice q2 n1 d2) (.slice q3 n1 d3) (.slice q4 n2 d4) n1 n1 n1 n2 xs mx tx bs, Law.boxG B5 29 #[.int .i64 R, .slice q1 n1 d1, .slice q2 n1 d2, .slice q3 n1 d3, .slice q4 n2 d4], Law.boxG B6 33 #[.int .i64 0, .int .i64 m1, .int .i64 0, .int .i64 m3]])) (fun _ i _ => n1 - (intOf i).toNat)
    case atStart => exact ⟨0, 0, by omega, rfl, rfl, Lib.hid rfl, HE3⟩
    case round =>
      clear HE3
      obtain ⟨k, m, hk, rfl, rfl, HM, HF⟩ := hrel
      obtain ⟨z0, z1, z2, z3, z4⟩ := Law.box5 (HF.out.nth 1 rfl)
      obtain ⟨x0, x1, x2, x3, x4⟩ := Law.box5 (HF.out.nth 4 rfl)
      by_cases hlt : (k : Int) < n1
      · have HK := Lib.hid (show k < n1 by omega)
        obtain ⟨b2, X, eb, hX, fX, -⟩ := State.own_cellI (State.OwnS.m (HF.out.nth 0 rfl)) HK.out
        cases eb
        obtain ⟨b5, V, rfl, hV, fV, -⟩ := State.own_cellI (State.OwnS.m (HF.out.nth 3 rfl)) HK.out
        obtain ⟨b6, T, rfl, hT, fT, -⟩ := State.own_cellI (State.OwnS.t (HF.out.nth 3 rfl)) HK.out
        have e1 := State.msAt_of hX; have e2 := State.msAt_of hV; have e3 := State.tsAt_of hT
        have hkz := HKZ.out k HK.out
        have hlr := HLR.out k
        have hpf := HPF.out k
        have hsd := HSD.out k
        have hdm : (m : Int) ≤ k := by have := HM.out; have := HDL.out k; omega
        rw [e1, e2] at hkz
        rw [e1] at hlr
        rw [e2, e3] at hsd
        have hB : State.dries p0 xs ms k = decide (0 < X ∧ X ≤ State.partN p0 xs k) := by unfold State.dries; rw [e1]
        clear hX hV hT e1 e2 e3
        by_cases hv : V = 0
        · have ht := hsd hv
          subst hv
          subst ht
          have hxp := hkz.1 rfl
          by_cases hx : 0 < X
          · have HT := Lib.hid (State.dried_yes (a := p0) (xs := xs) (ms := ms) (n := k) (by rw [hB]; exact decide_eq_true ⟨hx, hxp⟩))
            clear hB hkz hsd hxp hlr hpf
            go_wp2_with fail
            exact ⟨⟨k + 1, m + 1, by omega, by go_num, by go_num, Lib.hid (by rw [HT.out, HM.out]), HF⟩, by simp [intOf]; omega⟩
          · have HT := Lib.hid (State.dried_no (a := p0) (xs := xs) (ms := ms) (n := k) (by rw [hB]; exact decide_eq_false fun e => hx e.1))
            clear hB hkz hsd hxp hlr hpf
            go_wp2_with fail
            exact ⟨⟨k + 1, m, by omega, by go_num, rfl, Lib.hid (by rw [HT.out, HM.out]), HF⟩, by simp [intOf]; omega⟩
        · have HT := Lib.hid (State.dried_no (a := p0) (xs := xs) (ms := ms) (n := k) (by rw [hB]; exact decide_eq_false fun e => hv (hkz.2 e.2)))
          have hx : 0 < X := by
            have := mt hkz.2 hv
            omega
          clear hB hkz hsd hlr hpf
          go_wp2_with fail
          exact ⟨⟨k + 1, m, by omega, by go_num, rfl, Lib.hid (by rw [HT.out, HM.out]), HF⟩, by simp [intOf]; omega⟩
      · obtain rfl : n1 = k := by omega
        have HDO := HDO0
        rw [← HM.out] at HDO
        clear HDO0 HM HKZ HSD HLR HPF HDL HL
        go_upto_region 14 with fail
        clear z0 z1 z2 z3 z4 x0 x1 x2 x3 x4
        rename_i KK hKK
        refine Draws.wp_region_tabG (w := w) rfl (by kernel_rfl) (by kernel_rfl) State.DryCGDep (by kernel_rfl) [State.stateG (.slice (some ⟨g1, 0, none⟩) n1 c1) (.slice (some ⟨g2, 0, none⟩) n1 c2) (.slice (some ⟨g3, 0, none⟩) n1 c3) (.slice (some ⟨g4, 0, none⟩) n2 c4) n1 n1 n1 n2 xs ms ts bs, Law.boxG B3 29 #[.int .i64 R, .slice (some ⟨g1, 0, none⟩) n1 c1, .slice (some ⟨g2, 0, none⟩) n1 c2, .slice (some ⟨g3, 0, none⟩) n1 c3, .slice (some ⟨g4, 0, none⟩) n2 c4], State.placesG gp p0 p1 p2, State.stateG (.slice q1 n1 d1) (.slice q2 n1 d2) (.slice q3 n1 d3) (.slice q4 n2 d4) n1 n1 n1 n2 xs mx tx bs, Law.boxG B5 29 #[.int .i64 R, .slice q1 n1 d1, .slice q2 n1 d2, .slice q3 n1 d3, .slice q4 n2 d4], Law.boxG B6 33 #[.int .i64 0, .int .i64 m1, .int .i64 0, .int .i64 m3]] [] (fun _ => Law.emptyG) (State.DryCG R p0 g1 g2 g3 g4 n1 n2 c1 c2 c3 c4 B3 B5 gp cp m q1 q2 q3 q4 d1 d2 d3 d4) ?start ?step ?last
        case start => exact HF.out.on (Mesh.gr_drew (Cell.grown_refl _))
        case step =>
          clear hKK
          intro L a W val G i o hI ho hL hd
          have hi : i < 17 := by have := (Array.getElem?_eq_some_iff.1 ho).1; simpa using this
          have hloc := State.DryCG_local R p0 g1 g2 g3 g4 n1 n2 c1 c2 c3 c4 B3 B5 gp cp m q1 q2 q3 q4 d1 d2 d3 d4
          obtain ⟨z0, z1, z2, z3, z4⟩ := Law.box5 (hI.hd.nth 1 rfl)
          obtain ⟨x0, x1, x2, x3, x4⟩ := Law.box5 (hI.hd.nth 4 rfl)
          obtain ⟨c4', c5', c6'⟩ := hI.hd.nth 2 rfl
          rcases (show i = 0 ∨ i = 1 ∨ i = 2 ∨ i = 3 ∨ i = 4 ∨ i = 5 ∨ i = 6 ∨ i = 7 ∨ i = 8 ∨ i = 9 ∨ i = 10 ∨ i = 11 ∨ i = 12 ∨ i = 13 ∨ i = 14 ∨ i = 15 ∨ i = 16 by omega) with rfl | rfl | rfl | rfl | rfl | rfl | rfl | rfl | rfl | rfl | rfl | rfl | rfl | rfl | rfl | rfl | rfl
          · obtain rfl := Option.some.inj ho
            have p5 := (hI.old 5 (by kernel_rfl) rfl).get
            refine Draws.wpOp_of (by rfl) rfl (State.wp_value (v := .pointer (some ⟨B5, 2, none⟩)) (w' := W) ?_ (hI.same hloc hL _ _ (Cell.grown_refl _) (Draws.upd_at _ _ _)))
            simp only [execOp]
            go_simp
          · obtain rfl := Option.some.inj ho
            have l0 := hd 0 (by simp [State.DryCGDep])
            have e0 := (hI.at_ 0 67 rfl l0).get
            rw [show val 0 = _ from hI.gd 0 l0] at e0
            refine Draws.wpOp_of (by rfl) rfl (State.wp_value (v := .slice q2 n1 d2) (w' := W) ?_ (hI.same hloc hL _ _ (Cell.grown_refl _) (Draws.upd_at _ _ _)))
            simp only [execOp]
            go_simp
          · obtain rfl := Option.some.inj ho
            have l1 := hd 1 (by simp [State.DryCGDep])
            have e1 := (hI.at_ 1 68 rfl l1).get
            rw [show val 1 = _ from hI.gd 1 l1] at e1
            refine Draws.wpOp_of (by rfl) rfl (State.wp_value (v := .int .i64 (n1 : Int)) (w' := W) ?_ (hI.same hloc hL _ _ (Cell.grown_refl _) (Draws.upd_at _ _ _)))
            simp only [execOp]
            go_simp
          · obtain rfl := Option.some.inj ho
            have p3 := (hI.old 3 (by kernel_rfl) rfl).get
            refine Draws.wpOp_of (by rfl) rfl (State.wp_value (v := .pointer (some ⟨B3, 2, none⟩)) (w' := W) ?_ (hI.same hloc hL _ _ (Cell.grown_refl _) (Draws.upd_at _ _ _)))
            simp only [execOp]
            go_simp
          · obtain rfl := Option.some.inj ho
            have l3 := hd 3 (by simp [State.DryCGDep])
            have e3 := (hI.at_ 3 70 rfl l3).get
            rw [show val 3 = _ from hI.gd 3 l3] at e3
            refine Draws.wpOp_of (by rfl) rfl (State.wp_value (v := .slice (some ⟨g2, 0, none⟩) n1 c2) (w' := W) ?_ (hI.same hloc hL _ _ (Cell.grown_refl _) (Draws.upd_at _ _ _)))
            simp only [execOp]
            go_simp
          · obtain rfl := Option.some.inj ho
            have l4 := hd 4 (by simp [State.DryCGDep])
            have e4 := (hI.at_ 4 71 rfl l4).get
            rw [show val 4 = _ from hI.gd 4 l4] at e4
            refine Draws.wpOp_of (by rfl) rfl (State.wp_value (v := .int .i64 (n1 : Int)) (w' := W) ?_ (hI.same hloc hL _ _ (Cell.grown_refl _) (Draws.upd_at _ _ _)))
            simp only [execOp]
            go_simp
          · obtain rfl := Option.some.inj ho
            have l2 := hd 2 (by simp [State.DryCGDep])
            have e2 := (hI.at_ 2 69 rfl l2).get
            have l5 := hd 5 (by simp [State.DryCGDep])
            have e5 := (hI.at_ 5 72 rfl l5).get
            rw [show val 2 = _ from hI.gd 2 l2] at e2
            rw [show val 5 = _ from hI.gd 5 l5] at e5
            refine Draws.wpOp_of (by rfl) rfl (State.wp_value (v := .bool true) (w' := W) ?_ (hI.same hloc hL _ _ (Cell.grown_refl _) (Draws.upd_at _ _ _)))
            simp only [execOp]
            go_simp
          · obtain rfl := Option.some.inj ho
            have l6 := hd 6 (by simp [State.DryCGDep])
            have e6 := (hI.at_ 6 73 rfl l6).get
            rw [show val 6 = _ from hI.gd 6 l6] at e6
            refine Draws.wpOp_of (by rfl) rfl (State.wp_value (v := .bool true) (w' := W) ?_ (hI.same hloc hL _ _ (Cell.grown_refl _) (Draws.upd_at _ _ _)))
            simp only [execOp]
            go_simp
          · obtain rfl := Option.some.inj ho
            have l7 := hd 7 (by simp [State.DryCGDep])
            have e7 := (hI.at_ 7 74 rfl l7).get
            rw [show val 7 = _ from hI.gd 7 l7] at e7
            have ag := hI.at_ 7 74 rfl l7
            rw [show val 7 = _ from hI.gd 7 l7] at ag
            have p3 := (hI.old 3 (by kernel_rfl) rfl).get
            refine Draws.wpOp_want (by rfl) (Draws.want_at 7 74 rfl rfl ag) (State.wp_value (v := .agg #[.int .i64 R, .slice (some ⟨g1, 0, none⟩) n1 c1, .slice (some ⟨g2, 0, none⟩) n1 c2, .slice (some ⟨g3, 0, none⟩) n1 c3, .slice (some ⟨g4, 0, none⟩) n2 c4]) (w' := W) ?_ (hI.same hloc hL _ _ (Cell.grown_refl _) (Draws.upd_at _ _ _)))
            simp only [execOp]
            go_simp
          · obtain rfl := Option.some.inj ho
            have l7 := hd 7 (by simp [State.DryCGDep])
            have e7 := (hI.at_ 7 74 rfl l7).get
            rw [show val 7 = _ from hI.gd 7 l7] at e7
            have ag := hI.at_ 7 74 rfl l7
            rw [show val 7 = _ from hI.gd 7 l7] at ag
            have p4 := (hI.old 4 (by kernel_rfl) rfl).get
            refine Draws.wpOp_want (by rfl) (Draws.want_at 7 74 rfl rfl ag) (State.wp_value (v := .slice (some ⟨gp, 0, none⟩) 12 cp) (w' := W) ?_ (hI.same hloc hL _ _ (Cell.grown_refl _) (Draws.upd_at _ _ _)))
            simp only [execOp]
            go_simp
          · obtain rfl := Option.some.inj ho
            have l9 := hd 9 (by simp [State.DryCGDep])
            have e9 := (hI.at_ 9 76 rfl l9).get
            have l7 := hd 7 (by simp [State.DryCGDep])
            have e7 := (hI.at_ 7 74 rfl l7).get
            rw [show val 9 = _ from hI.gd 9 l9] at e9
            rw [show val 7 = _ from hI.gd 7 l7] at e7
            have ag := hI.at_ 7 74 rfl l7
            rw [show val 7 = _ from hI.gd 7 l7] at ag
            refine Draws.wpOp_want (by rfl) (Draws.want_at 7 74 rfl rfl ag) (State.wp_value (v := .pointer (some ⟨gp, 0, none⟩)) (w' := W) ?_ (hI.same hloc hL _ _ (Cell.grown_refl _) (Draws.upd_at _ _ _)))
            simp only [execOp]
            go_simp
          · obtain rfl := Option.some.inj ho
            have l10 := hd 10 (by simp [State.DryCGDep])
            have e10 := (hI.at_ 10 77 rfl l10).get
            have l7 := hd 7 (by simp [State.DryCGDep])
            have e7 := (hI.at_ 7 74 rfl l7).get
            rw [show val 10 = _ from hI.gd 10 l10] at e10
            rw [show val 7 = _ from hI.gd 7 l7] at e7
            have ag := hI.at_ 7 74 rfl l7
            rw [show val 7 = _ from hI.gd 7 l7] at ag
            refine Draws.wpOp_want (by rfl) (Draws.want_at 7 74 rfl rfl ag) (State.wp_value (v := .int .i64 p0) (w' := W) ?_ (hI.same hloc hL _ _ (Cell.grown_refl _) (Draws.upd_at _ _ _)))
            simp only [execOp]
            go_simp
          · obtain rfl := Option.some.inj ho
            have l8 := hd 8 (by simp [State.DryCGDep])
            have e8 := (hI.at_ 8 75 rfl l8).get
            have l11 := hd 11 (by simp [State.DryCGDep])
            have e11 := (hI.at_ 11 78 rfl l11).get
            have l7 := hd 7 (by simp [State.DryCGDep])
            have e7 := (hI.at_ 7 74 rfl l7).get
            rw [show val 8 = _ from hI.gd 8 l8] at e8
            rw [show val 11 = _ from hI.gd 11 l11] at e11
            rw [show val 7 = _ from hI.gd 7 l7] at e7
            have ag := hI.at_ 7 74 rfl l7
            rw [show val 7 = _ from hI.gd 7 l7] at ag
            refine Draws.wpOp_want (by rfl) (Draws.want_at 7 74 rfl rfl ag) ?_
            unfold Oper.wp
            simp only [execOp]
            go_simp
            refine Calls.mono (P := Try.prog) (HDO.out W (State.OwnS.reads (hI.hd.nth 0 rfl))) ?_
            rintro e w1 ⟨rfl, hg⟩
            exact hI.same hloc hL _ (.int .i64 (m : Int)) hg (Draws.upd_at _ _ _)
          · obtain rfl := Option.some.inj ho
            have l7 := hd 7 (by simp [State.DryCGDep])
            have e7 := (hI.at_ 7 74 rfl l7).get
            rw [show val 7 = _ from hI.gd 7 l7] at e7
            have ag := hI.at_ 7 74 rfl l7
            rw [show val 7 = _ from hI.gd 7 l7] at ag
            have p7 := (hI.old 7 (by kernel_rfl) rfl).get
            refine Draws.wpOp_want (by rfl) (Draws.want_at 7 74 rfl rfl ag) (State.wp_value (v := .int .i64 (m : Int)) (w' := W) ?_ (hI.same hloc hL _ _ (Cell.grown_refl _) (Draws.upd_at _ _ _)))
            simp only [execOp]
            go_simp
          · obtain rfl := Option.some.inj ho
            have l12 := hd 12 (by simp [State.DryCGDep])
            have e12 := (hI.at_ 12 79 rfl l12).get
            have l13 := hd 13 (by simp [State.DryCGDep])
            have e13 := (hI.at_ 13 80 rfl l13).get
            have l7 := hd 7 (by simp [State.DryCGDep])
            have e7 := (hI.at_ 7 74 rfl l7).get
            rw [show val 12 = _ from hI.gd 12 l12] at e12
            rw [show val 13 = _ from hI.gd 13 l13] at e13
            rw [show val 7 = _ from hI.gd 7 l7] at e7
            have ag := hI.at_ 7 74 rfl l7
            rw [show val 7 = _ from hI.gd 7 l7] at ag
            refine Draws.wpOp_want (by rfl) (Draws.want_at 7 74 rfl rfl ag) (State.wp_value (v := .bool true) (w' := W) ?_ (hI.same hloc hL _ _ (Cell.grown_refl _) (Draws.upd_at _ _ _)))
            simp only [execOp]
            go_simp
          · obtain rfl := Option.some.inj ho
            have l7 := hd 7 (by simp [State.DryCGDep])
            have e7 := (hI.at_ 7 74 rfl l7).get
            have l14 := hd 14 (by simp [State.DryCGDep])
            have e14 := (hI.at_ 14 81 rfl l14).get
            rw [show val 7 = _ from hI.gd 7 l7] at e7
            rw [show val 14 = _ from hI.gd 14 l14] at e14
            refine Draws.wpOp_of (by rfl) rfl (State.wp_value (v := .bool true) (w' := W) ?_ (hI.same hloc hL _ _ (Cell.grown_refl _) (Draws.upd_at _ _ _)))
            simp only [execOp]
            go_simp
          · obtain rfl := Option.some.inj ho
            have l15 := hd 15 (by simp [State.DryCGDep])
            have e15 := (hI.at_ 15 82 rfl l15).get
            rw [show val 15 = _ from hI.gd 15 l15] at e15
            refine Draws.wpOp_of (by rfl) rfl (State.wp_value (v := .bool true) (w' := W) ?_ (hI.same hloc hL _ _ (Cell.grown_refl _) (Draws.upd_at _ _ _)))
            simp only [execOp]
            go_simp
        case last =>
          intro L a W val G hI hall
          have v9 : val 16 = .bool true := hI.gd 16 (hall 16 (by simp))
          have hgr : w.grownBy W none := hI.hd.gr
          have ha := hI.frame (by kernel_rfl) hall
          refine hKK _ _ ?_
          clear hKK hI hall HF HDO
          simp [Draws.frameOf, Draws.slotOf, Act.put, List.range, List.range.loop] at ha
          subst ha
          rw [v9]
          clear v9
          go_wp2_with fail
          go_ret
          exact ⟨rfl, Cell.grown_below hgr (Nat.le_refl _)⟩

set_option maxRecDepth 100000 in
theorem lifted (os : Os) (started : os.Started) (H : Type) (enc : TypeId × Value → H) :
    ReturnsInHanded {} Try.checked os 4 .any (Rows.fnDriedOutSpec.pre6 enc Try.prog Try.f4 Rows.fnDriedOutRow.domain false) (Rows.fnDriedOutSpec.post enc Try.prog Try.f4 false true false false) := by
  refine returnsInHanded_of_change (C := Try.checked) own started (by kernel_rfl) Try.func4
    (ChangeSpec.witness6 (enc := enc) (C := Try.checked) false ⟨#[], #[.slice none 0 0], []⟩ 8 (by kernel_rfl) (by kernel_rfl) (by kernel_rfl) (by kernel_rfl)) ?_
  intro W base args ds gs before hval0 hW hcnd _
  have hval : ∀ (j : Nat) t v, Try.f4.params[j]? = some t → args[j]? = some v → Value.okWide Try.prog W .any base t v := hval0
  have hW' := hW
  obtain ⟨p, q, hA0, hV, rfl, hfz, hnd⟩ := hW
  have hA : DataW.TrodAll enc Try.prog W 0 (fun _ => true) true Try.f4.params.toList args.toList ds p := hA0
  rw [Try.params4] at hA hval
  obtain ⟨v0, vs0, d0, ds0, p0, q0, hargs, rfl, rfl, h0, r0⟩ := trodAll_cons hA
  obtain ⟨rfl, rfl, rfl⟩ := trodAll_nil r0
  obtain rfl : args = #[v0] := by cases args; simp_all
  obtain ⟨rfl, rfl⟩ := trodVars_none hV
  obtain ⟨a0, len0, cap0, rfl⟩ := okWide_slice Try.underlying22 (hval 0 22 v0 rfl rfl)
  have k0 := h0
  have lt0 : ∀ x ∈ p0, x.block < W.heap.size := by obtain ⟨m, hm⟩ := k0; exact DataW.trod_lt m _ _ _ hm
  obtain ⟨z0, w0⟩ : ∃ zs, IsRow .u8 W a0 len0 cap0 zs := by
    obtain ⟨fuel, hf⟩ := h0
    rcases open_ints Try.underlying22 Try.underlying5 (by kernel_rfl) hf with ⟨hcs, _⟩ | ⟨x, l, c, zs, hcs, _, hl, hm, hz, _, hcell, hwz⟩
    · simp [Value.cells] at hcs
      obtain ⟨rfl, rfl, rfl⟩ := hcs
      exact ⟨[], .inl ⟨rfl, rfl, rfl, rfl⟩⟩
    · simp [Value.cells] at hcs
      obtain ⟨rfl, rfl, rfl⟩ := hcs
      exact ⟨zs, .inr ⟨_, rfl, hl, hm, by simpa using hz, hcell, hwz⟩⟩
  clear hA0 hval0
  refine (walk a0 len0 cap0 z0 W w0).mono fun e W' ⟨he, bel⟩ => ?_
  subst he
  exact ⟨_, rfl, _, _, _, [], _, [], hW', trodAll_mk1 (shut_bool Try.underlying4 _), (trodAll_cons_mk (Below.trod laidOut (by kernel_rfl) (of_decide_eq_true (by kernel_rfl)) k0 bel lt0) trodAll_mk0), rfl, bel.frame _, fun h => by cases h⟩

theorem over : Rows.fnDriedOutRow.holds Try.pinned (OpenSpec.ofChange Rows.fnDriedOutSpec) :=
  OpenClaim.holds_of_wide 4 Try.f4 rfl rfl rfl rfl rfl rfl rfl ⟨rfl, rfl, rfl, rfl, rfl⟩ rfl rfl rfl rfl rfl (by kernel_rfl) Try.func4 (by kernel_rfl)
    (of_decide_eq_true (by kernel_rfl)) (by unfold Func.isWrapper; first | (rw [if_pos (by decide +kernel)]; kernel_rfl) | (rw [if_neg (by decide +kernel)]; exact ⟨rfl, rfl⟩))
    (fun os started H enc _ => lifted os started H enc)

theorem proved : Rows.FnDriedOutSaid := over
#print axioms proved
end Go.Proofs.Ytmbmeajneankpaa.fnDriedOut
