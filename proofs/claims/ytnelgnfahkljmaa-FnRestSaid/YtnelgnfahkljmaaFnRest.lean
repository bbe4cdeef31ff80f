/- Proved: for every slice of bytes the law FnRest returns true: a drawn state at rest is left as it is by the ticks 0 to 15 of the reference model's StepState; DryLeaves names as many leaves as have the mass 0; WaterLine's first position is at most its second one, which is 0 exactly if all leaves are dry.
   Conditions: none besides those that the given row prints. -/
import Derived.Test.YtnelgnfahkljmaaRows
import Derived.WalkKit
import Derived.ProofKit
import Derived.OpenShut
import Derived.ShutString
import Derived.Test.YtnelgnfahkljmaaStRestL
import Derived.Test.YtnelgnfahkljmaaStRestI
import Derived.Test.YtnelgnfahkljmaaStRestW
import Derived.Test.YtnelgnfahkljmaaStPutL
import Derived.Test.YtnelgnfahkljmaaPkStep
import Derived.ChangeOld
import Derived.Below
set_option maxRecDepth 100000
namespace Go.Proofs.Ytnelgnfahkljmaa.fnRest
open Go.ChangeShapes Go.WideShapes Go.ChangeAt Go.RowKit
open Go.ChangeMaps (open_string shut_string)
set_option linter.unusedVariables false

theorem own : ownKnob Try.prog.godebug = none := by kernel_rfl
theorem laidOut : laidOutB Try.prog = true := by kernel_rfl

def IsRow (k : IntKind) (w : World) (a : Option Addr) (len cap : Nat) (zs : List Int) : Prop :=
  (a = none ∧ len = 0 ∧ cap = 0 ∧ zs = []) ∨
  ∃ x, a = some x ∧ len ≤ cap ∧ cap ≤ maxLen ∧ zs.length = cap ∧ (∀ i, i < zs.length → w.cell? (x.add i) = some (.int k (zs.getD i 0))) ∧ ∀ n ∈ zs, (Lit.int k n).wf = true

set_option maxHeartbeats 32000000 in
theorem walk (a0 : Option Addr) (len0 cap0 : Nat) (z0 : List Int) (w : World) (w0 : IsRow .u8 w a0 len0 cap0 z0) :
    Calls Try.prog 4 #[.slice a0 len0 cap0] w fun e w' => e = .returned (.bool true) ∧ Below w.heap.size w w' := by
  have hb := Draw.bytes_of w0
  have HB := Lib.hid hb; clear hb
  clear w0
  by_cases hlen : 1048576 < len0
  · have hd : decide (1048576 < (len0 : Int)) = true := by simp; omega
    go_enter Try.func4, Try.ntmps4
    go_wp2_with fail
    refine Draw.big_any.mono ?_; rintro e w1 ⟨rfl, rfl⟩
    rw [hd]
    go_wp2_with fail
    go_ret
    exact ⟨rfl, Below.refl _ _⟩
  · have hd : decide (1048576 < (len0 : Int)) = false := by simp; omega
    have hlen' : len0 ≤ 1048576 := by omega
    have HLen := Lib.hid hlen'; clear hlen'
    go_enter Try.func4, Try.ntmps4
    go_wp2_with fail
    refine Draw.big_any.mono ?_; rintro e w1 ⟨rfl, rfl⟩
    rw [hd]
    clear hd hlen
    go_wp2_with fail
    refine (State.drawState_is HLen.out HB.out (Nat.le_refl _)).mono ?_
    rintro e w1 ⟨R, n1, n2, xs, ms, ts, bs, x1, c1, x2, c2, x3, c3, x4, c4, rfl, hd, ho, hg⟩
    obtain ⟨hn2, hn2', hR⟩ := hd.sizes
    have hn := hd.leaves
    obtain ⟨g1, c1', hv⟩ := Mesh.own_at1 ho.l (by omega)
    cases hv
    obtain ⟨g2, rfl, -, -⟩ := Ints.own_atI ho.m (by omega)
    obtain ⟨g3, rfl, -, -⟩ := Ints.own_atI ho.t (by omega)
    obtain ⟨g4, rfl, -, -⟩ := Ints.own_atI ho.b (by omega)
    have HE1 := Lib.hid ((State.Held.state (Law.Held.nil w) hg ho).box 31 #[.int .i64 R, .slice (some ⟨g1, 0, none⟩) n1 c1, .slice (some ⟨g2, 0, none⟩) n1 c2, .slice (some ⟨g3, 0, none⟩) n1 c3, .slice (some ⟨g4, 0, none⟩) n2 c4])
    have HD := Lib.hid hd
    have H1 := Lib.hid (show n1 ≤ 1048576 by omega); have H2 := Lib.hid (show n2 ≤ 1048576 by omega)
    have HN := Lib.hid hn
    have hn1 : 1 ≤ (n1 : Int) := by omega
    have hn1' : (n1 : Int) ≤ 128 := by omega
    have hok := hd.ok
    have hl1 := hd.l1
    have hl2 := hd.len
    clear ho hg hd hn hn2 hn2' hR HB HLen
    go_upto_region 4 with fail
    obtain ⟨B3, hB3⟩ : ∃ B, B = w1.heap.size := ⟨_, rfl⟩
    rw [← hB3] at HE1 ⊢
    clear hB3
    generalize w1.alloc (.cells #[.int .i64 R, .slice (some ⟨g1, 0, none⟩) n1 c1, .slice (some ⟨g2, 0, none⟩) n1 c2, .slice (some ⟨g3, 0, none⟩) n1 c3, .slice (some ⟨g4, 0, none⟩) n2 c4] 31) = W1 at *
    have hmk : Mesh.meshOk R xs = true := by
      obtain ⟨p1, -⟩ := State.stOk_parts hok
      unfold Mesh.balanced at p1; simp only [Bool.and_eq_true] at p1; exact p1.1
    obtain ⟨rb, hrb⟩ : ∃ b, State.restG R xs ms ts bs = b := ⟨_, rfl⟩
    have HRB := Lib.hid hrb
    have HAR := Lib.hid (show ∀ u, State.ReadsS u (some ⟨g1, 0, none⟩) (some ⟨g2, 0, none⟩) (some ⟨g3, 0, none⟩) (some ⟨g4, 0, none⟩) n1 n1 n1 n2 xs ms ts bs → Calls Try.prog 13 #[.agg #[.int .i64 R, .slice (some ⟨g1, 0, none⟩) n1 c1, .slice (some ⟨g2, 0, none⟩) n1 c2, .slice (some ⟨g3, 0, none⟩) n1 c3, .slice (some ⟨g4, 0, none⟩) n2 c4]] u fun e w' => e = .returned (.bool rb) ∧ u.grownBy w' none from fun u h => by
      have q := State.isAtRest_is R _ _ _ _ n1 n1 n1 n2 c1 c2 c3 c4 xs ms ts bs u h H1.out H1.out H1.out H2.out
      rw [hrb] at q
      exact q)
    obtain ⟨wa, wb, hwab⟩ : ∃ wa wb, State.water xs ms n1 = (wa, wb) := ⟨_, _, rfl⟩
    obtain ⟨wf0, wf1, wf2, -, wf3⟩ := State.water_facts (ms := ms) hmk n1 (by omega)
    rw [hwab] at wf0 wf1 wf2 wf3
    dsimp only at wf0 wf1 wf2 wf3
    have HWL := Lib.hid (show ∀ u, State.ReadsS u (some ⟨g1, 0, none⟩) (some ⟨g2, 0, none⟩) (some ⟨g3, 0, none⟩) (some ⟨g4, 0, none⟩) n1 n1 n1 n2 xs ms ts bs → Calls Try.prog 19 #[.agg #[.int .i64 R, .slice (some ⟨g1, 0, none⟩) n1 c1, .slice (some ⟨g2, 0, none⟩) n1 c2, .slice (some ⟨g3, 0, none⟩) n1 c3, .slice (some ⟨g4, 0, none⟩) n2 c4]] u fun e w' => e = .returned (.tuple #[.int .i64 wa, .int .i64 wb]) ∧ u.grownBy w' none from fun u h => by
      have q := State.waterLine_is R _ _ _ _ n1 n1 n1 n2 c1 c2 c3 c4 xs ms ts bs u h H1.out H1.out H1.out H2.out
      rw [show State.waterG R xs ms ts bs = (wa, wb) from (if_pos hok).trans (by rw [hl2.1]; exact hwab)] at q
      exact q)
    have HDL := Lib.hid (show ∀ u, State.ReadsS u (some ⟨g1, 0, none⟩) (some ⟨g2, 0, none⟩) (some ⟨g3, 0, none⟩) (some ⟨g4, 0, none⟩) n1 n1 n1 n2 xs ms ts bs → Calls Try.prog 20 #[.agg #[.int .i64 R, .slice (some ⟨g1, 0, none⟩) n1 c1, .slice (some ⟨g2, 0, none⟩) n1 c2, .slice (some ⟨g3, 0, none⟩) n1 c3, .slice (some ⟨g4, 0, none⟩) n2 c4]] u (fun e w' => ∃ (q : Option Addr) (d : Nat), e = .returned (.slice q (State.dryF ms n1).length d) ∧ w'.ownsRow u.heap.size 3 1 (.slice q (State.dryF ms n1).length d) (State.dryF ms n1).length (Ints.vals (State.toI (State.dryF ms n1))) ∧ u.grownBy w' none) from fun u h => by
      have q := State.dryLeaves_is R _ _ _ _ n1 n1 n1 n2 c1 c2 c3 c4 xs ms ts bs u h H1.out H1.out H1.out H2.out
      rw [show State.dryG R xs ms ts bs = State.toI (State.dryF ms n1) from (if_pos hok).trans (by rw [hl2.1])] at q
      unfold State.GivesI at q
      rw [State.toI_len] at q
      exact q)
    have hdz : (State.dryF ms n1).length = n1 ↔ wb = 0 := (State.dryF_all ms n1).trans wf3.symm
    have HDZ := Lib.hid hdz
    have HDB := Lib.hid fun k => State.dryF_len ms k
    have HLM := Lib.hid hl2.1
    clear hok hl1 hl2 HN HD hmk hrb hwab wf2 wf3 hdz
    obtain ⟨z0, z1, z2, z3, z4⟩ := Law.box5 (HE1.out.nth 1 rfl)
    go_wp2_with (go_at_call 13; ((with_reducible refine (HAR.out _ (State.OwnS.reads (HE1.out.nth 0 rfl))).mono ?_); rintro e w2 ⟨rfl, hg⟩; have HE2 := Lib.hid (HE1.out.on hg); clear hg))
    clear z0 z1 z2 z3 z4 HE1 HAR
    go_loopw [5, 6] (fun v i wr => ∃ (k : Nat) (b : Bool), (k : Int) ≤ 16 ∧ i = .int .i64 k ∧ v = .bool b ∧ Hid (rb = true → b = true) ∧ Hid (Law.Held w wr [State.stateG (.slice (some ⟨g1, 0, none⟩) n1 c1) (.slice (some ⟨g2, 0, none⟩) n1 c2) (.slice (some ⟨g3, 0, none⟩) n1 c3) (.slice (some ⟨g4, 0, none⟩) n2 c4) n1 n1 n1 n2 xs ms ts bs, Law.boxG B3 31 #[.int .i64 R, .slice (some ⟨g1, 0, none⟩) n1 c1, .slice (some ⟨g2, 0, none⟩) n1 c2, .slice (some ⟨g3, 0, none⟩) n1 c3, .slice (some ⟨g4, 0, none⟩) n2 c4]])) (fun _ i _ => 16 - (intOf i).toNat)
    case atStart => exact ⟨0, true, by omega, rfl, rfl, Lib.hid (fun _ => rfl), HE2⟩
    case round =>
      clear HE2
      obtain ⟨k, b, hk, rfl, rfl, HB, HF⟩ := hrel
      obtain ⟨z0, z1, z2, z3, z4⟩ := Law.box5 (HF.out.nth 1 rfl)
      by_cases hlt : (k : Int) < 16
      · cases b with
        | false =>
          go_upto_region 9 with fail
          go_quiet (fail)
          go_wp2_with fail
          go_roundw
          case rel => exact ⟨k + 1, false, by omega, by go_num, rfl, HB, Lib.hid (HF.out.on (Cell.g_drewN (Cell.grown_refl _) _))⟩
          case measure => simp [intOf]; omega
        | true =>
          have HST := Lib.hid (show ∀ u, State.ReadsS u (some ⟨g1, 0, none⟩) (some ⟨g2, 0, none⟩) (some ⟨g3, 0, none⟩) (some ⟨g4, 0, none⟩) n1 n1 n1 n2 xs ms ts bs → Calls Try.prog 18 #[.agg #[.int .i64 R, .slice (some ⟨g1, 0, none⟩) n1 c1, .slice (some ⟨g2, 0, none⟩) n1 c2, .slice (some ⟨g3, 0, none⟩) n1 c3, .slice (some ⟨g4, 0, none⟩) n2 c4], .int .i64 (k : Int)] u (State.GivesS R n1 n1 n1 n2 xs (State.tickS R xs bs (ms, ts) k).1 (State.tickS R xs bs (ms, ts) k).2 bs u) from fun u h => State.specStepState_is R k g1 g2 g3 g4 n1 n1 n1 n2 c1 c2 c3 c4 xs ms ts bs u h H1.out H1.out H1.out H2.out)
          have HEQ := Lib.hid (show rb = true → (State.tickS R xs bs (ms, ts) k).1 = ms ∧ (State.tickS R xs bs (ms, ts) k).2 = ts from fun q => by
            rw [State.tick_still (HRB.out.trans q)]
            exact ⟨rfl, rfl⟩)
          generalize (State.tickS R xs bs (ms, ts) k).1 = mr at HST HEQ
          generalize (State.tickS R xs bs (ms, ts) k).2 = tr at HST HEQ
          have HSS := Lib.hid (show ∀ u (b1 b2 b3 b4 : Option Addr) (d1 d2 d3 d4 : Nat), State.ReadsS u b1 b2 b3 b4 n1 n1 n1 n2 xs mr tr bs → State.ReadsS u (some ⟨g1, 0, none⟩) (some ⟨g2, 0, none⟩) (some ⟨g3, 0, none⟩) (some ⟨g4, 0, none⟩) n1 n1 n1 n2 xs ms ts bs → Calls Try.prog 17 #[.agg #[.int .i64 R, .slice b1 n1 d1, .slice b2 n1 d2, .slice b3 n1 d3, .slice b4 n2 d4], .agg #[.int .i64 R, .slice (some ⟨g1, 0, none⟩) n1 c1, .slice (some ⟨g2, 0, none⟩) n1 c2, .slice (some ⟨g3, 0, none⟩) n1 c3, .slice (some ⟨g4, 0, none⟩) n2 c4]] u (fun e w' => ∃ b : Bool, e = .returned (.bool b) ∧ (mr = ms → tr = ts → b = true) ∧ u.grownBy w' none) from fun u b1 b2 b3 b4 d1 d2 d3 d4 h h' => State.sameSt_any R b1 b2 b3 b4 _ _ _ _ n1 n2 d1 d2 d3 d4 c1 c2 c3 c4 xs mr tr ms ts bs u h h' H1.out H2.out)
          go_upto_region 9 with fail
          go_region_with (first
            | (go_at_call 18; ((with_reducible refine (HST.out _ (State.OwnS.reads ((HF.out.on (Mesh.gr_drew (Cell.grown_refl wr))).nth 0 rfl))).mono ?_); rintro e w2 ⟨q1, e1, q2, e2, q3, e3, q4, e4, rfl, ho, hg⟩; have HF2 := Lib.hid (State.Held.state (HF.out.on (Mesh.gr_drew (Cell.grown_refl wr))) hg ho); obtain ⟨t0, t1, t2, t3, t4⟩ := Law.box5 (HF2.out.nth 1 rfl); clear ho hg))
            | (go_at_call 17; ((with_reducible refine (HSS.out _ _ _ _ _ _ _ _ _ (State.OwnS.reads (HF2.out.nth 2 rfl)) (State.OwnS.reads (HF2.out.nth 0 rfl))).mono ?_); rintro e w3 ⟨b', rfl, hb', hg⟩; have HB' := Lib.hid hb'; have HF3 := Lib.hid (HF2.out.on hg); clear hb' hg)))
          all_goals
            go_wp2_with fail
            go_roundw
            case rel => exact ⟨k + 1, b', by omega, by go_num, rfl, Lib.hid (fun q => HB'.out (HEQ.out q).1 (HEQ.out q).2), Lib.hid (State.Held.few HF3.out (.cons_cons _ (.cons_cons _ (.cons _ (.refl _)))))⟩
            case measure => simp [intOf]; omega
      · have HWA := Lib.hid wf0
        clear wf0
        go_upto_region 12 with (first
          | (go_at_call 19; ((with_reducible refine (HWL.out _ (State.OwnS.reads (HF.out.nth 0 rfl))).mono ?_); rintro e w4 ⟨rfl, hg⟩; have HF4 := Lib.hid (HF.out.on hg); obtain ⟨y0, y1, y2, y3, y4⟩ := Law.box5 (HF4.out.nth 1 rfl); clear hg))
          | (go_at_call 20; ((with_reducible refine (HDL.out _ (State.OwnS.reads (HF4.out.nth 0 rfl))).mono ?_); rintro e w5 ⟨q, d, rfl, ho, hg⟩; have HF5 := Lib.hid (HF4.out.row hg ho); clear ho hg)))
        clear z0 z1 z2 z3 z4 y0 y1 y2 y3 y4 HF HF4 HWL HDL hk hlt
        obtain ⟨N, hN⟩ : ∃ N, N = (State.dryF ms n1).length := ⟨_, rfl⟩
        rw [← hN]
        have HNN := Lib.hid hN
        have HNB := Lib.hid (show (N : Int) ≤ n1 by have := HDB.out n1; omega)
        clear hN
        go_wp2_with fail
        go_loopw [10, 11] (fun v i wr => ∃ (k m : Nat), (k : Int) ≤ n1 ∧ i = .int .i64 k ∧ v = .int .i64 m ∧ Hid (m = (State.dryF ms k).length) ∧ Hid (Law.Held w wr [State.stateG (.slice (some ⟨g1, 0, none⟩) n1 c1) (.slice (some ⟨g2, 0, none⟩) n1 c2) (.slice (some ⟨g3, 0, none⟩) n1 c3) (.slice (some ⟨g4, 0, none⟩) n2 c4) n1 n1 n1 n2 xs ms ts bs, Law.boxG B3 31 #[.int .i64 R, .slice (some ⟨g1, 0, none⟩) n1 c1, .slice (some ⟨g2, 0, none⟩) n1 c2, .slice (some ⟨g3, 0, none⟩) n1 c3, .slice (some ⟨g4, 0, none⟩) n2 c4], Law.rowG 3 1 (.slice q (State.dryF ms n1).length d) (State.dryF ms n1).length (Ints.vals (State.toI (State.dryF ms n1)))])) (fun _ i _ => n1 - (intOf i).toNat)
        case atStart => exact ⟨0, 0, by omega, rfl, rfl, Lib.hid rfl, HF5⟩
        case round =>
          clear HF5
          obtain ⟨k, m, hk, rfl, rfl, HM, HF⟩ := hrel
          obtain ⟨z0, z1, z2, z3, z4⟩ := Law.box5 (HF.out.nth 1 rfl)
          have hmb : (m : Int) ≤ k := by have := HM.out; have := HDB.out k; omega
          by_cases hlt : (k : Int) < n1
          · obtain ⟨x, hx⟩ := Ints.getI HLM.out (k := k) (by omega)
            obtain ⟨g2', o2', e', f0⟩ := (State.OwnS.reads (HF.out.nth 0 rfl)).m.at_ k _ hx
            cases e'
            rw [Nat.zero_add] at f0
            have hxm := State.msAt_of hx
            clear hx
            by_cases hz : x = 0
            · subst hz
              have HT := Lib.hid (show (State.dryF ms (k + 1)).length = (State.dryF ms k).length + 1 by rw [State.dryF_yes hxm, List.length_append]; rfl)
              clear hxm
              go_wp2_with fail
              go_roundw
              case rel => exact ⟨k + 1, m + 1, by omega, by go_num, by go_num, Lib.hid (by rw [HT.out, HM.out]), HF⟩
              case measure => simp [intOf]; omega
            · have HT := Lib.hid (show State.dryF ms (k + 1) = State.dryF ms k from State.dryF_no (by rw [hxm]; exact hz))
              clear hxm
              go_wp2_with fail
              go_roundw
              case rel => exact ⟨k + 1, m, by omega, by go_num, rfl, Lib.hid (by rw [HT.out]; exact HM.out), HF⟩
              case measure => simp [intOf]; omega
          · obtain rfl : n1 = k := by omega
            obtain rfl : m = N := HM.out.trans HNN.out.symm
            have hdz := HDZ.out
            rw [← HM.out] at hdz
            clear hk hlt HM HNN HDZ HDB HLM HNB hmb
            by_cases hq : m = n1
            · have hwb := hdz.1 hq
              subst hq
              subst hwb
              clear hdz
              cases rb with
              | false =>
                go_wp2_with fail
                go_ret
                exact ⟨rfl, Cell.grown_below HF.out.gr (Nat.le_refl _)⟩
              | true =>
                obtain rfl : b = true := HB.out rfl
                go_wp2_with fail
                go_ret
                exact ⟨rfl, Cell.grown_below HF.out.gr (Nat.le_refl _)⟩
            · have hwb : ¬ wb = 0 := fun q => hq (hdz.2 q)
              have hq' : ¬ (m : Int) = n1 := by omega
              clear hdz
              cases rb with
              | false =>
                have hv : (((m : Int) == (n1 : Int)) == (wb == 0)) = true := by rw [beq_eq_false_iff_ne.2 hq', beq_eq_false_iff_ne.2 hwb]; rfl
                go_wp2_with fail
                go_ret
                exact ⟨rfl, Cell.grown_below HF.out.gr (Nat.le_refl _)⟩
              | true =>
                obtain rfl : b = true := HB.out rfl
                have hv : (((m : Int) == (n1 : Int)) == (wb == 0)) = true := by rw [beq_eq_false_iff_ne.2 hq', beq_eq_false_iff_ne.2 hwb]; rfl
                go_wp2_with fail
                go_ret
                exact ⟨rfl, Cell.grown_below HF.out.gr (Nat.le_refl _)⟩

set_option maxRecDepth 100000 in
theorem lifted (os : Os) (started : os.Started) (H : Type) (enc : TypeId × Value → H) :
    ReturnsInHanded {} Try.checked os 4 .any (Rows.fnRestSpec.pre6 enc Try.prog Try.f4 Rows.fnRestRow.domain false) (Rows.fnRestSpec.post enc Try.prog Try.f4 false true false false) := by
  refine returnsInHanded_of_change (C := Try.checked) own started (by kernel_rfl) Try.func4
    (ChangeSpec.witness6 (enc := enc) (C := Try.checked) false ⟨#[], #[.slice none 0 0], []⟩ 8 (by kernel_rfl) (by kernel_rfl) (by kernel_rfl) (by kernel_rfl)) ?_
  intro W base args ds gs before hval0 hW hcnd _
  have hval : ∀ (j : Nat) t v, Try.f4.params[j]? = some t → args[j]? = some v → Value.okWide Try.prog W .any base t v := hval0
  have hW' := hW
  obtain ⟨p, q, hA0, hV, rfl, hfz, hnd⟩ := hW
  have hA : DataW.TrodAll enc Try.prog W 0 (fun _ => true) true Try.f4.params.toList args.toList ds p := hA0
  rw [Try.params4] at hA hval
  obtain ⟨v0, vs0, d0, ds0, p0, q0, hargs, rfl, rfl, h0, r0⟩ := trodAll_cons hA
  obtain ⟨rfl, rfl, rfl⟩ := trodAll_nil r0
  obtain rfl : args = #[v0] := by cases args; simp_all
  obtain ⟨rfl, rfl⟩ := trodVars_none hV
  obtain ⟨a0, len0, cap0, rfl⟩ := okWide_slice Try.underlying22 (hval 0 22 v0 rfl rfl)
  have k0 := h0
  have lt0 : ∀ x ∈ p0, x.block < W.heap.size := by obtain ⟨m, hm⟩ := k0; exact DataW.trod_lt m _ _ _ hm
  obtain ⟨z0, w0⟩ : ∃ zs, IsRow .u8 W a0 len0 cap0 zs := by
    obtain ⟨fuel, hf⟩ := h0
    rcases open_ints Try.underlying22 Try.underlying5 (by kernel_rfl) hf with ⟨hcs, _⟩ | ⟨x, l, c, zs, hcs, _, hl, hm, hz, _, hcell, hwz⟩
    · simp [Value.cells] at hcs
      obtain ⟨rfl, rfl, rfl⟩ := hcs
      exact ⟨[], .inl ⟨rfl, rfl, rfl, rfl⟩⟩
    · simp [Value.cells] at hcs
      obtain ⟨rfl, rfl, rfl⟩ := hcs
      exact ⟨zs, .inr ⟨_, rfl, hl, hm, by simpa using hz, hcell, hwz⟩⟩
  clear hA0 hval0
  refine (walk a0 len0 cap0 z0 W w0).mono fun e W' ⟨he, bel⟩ => ?_
  subst he
  exact ⟨_, rfl, _, _, _, [], _, [], hW', trodAll_mk1 (shut_bool Try.underlying4 _), (trodAll_cons_mk (Below.trod laidOut (by kernel_rfl) (of_decide_eq_true (by kernel_rfl)) k0 bel lt0) trodAll_mk0), rfl, bel.frame _, fun h => by cases h⟩

theorem over : Rows.fnRestRow.holds Try.pinned (OpenSpec.ofChange Rows.fnRestSpec) :=
  OpenClaim.holds_of_wide 4 Try.f4 rfl rfl rfl rfl rfl rfl rfl ⟨rfl, rfl, rfl, rfl, rfl⟩ rfl rfl rfl rfl rfl (by kernel_rfl) Try.func4 (by kernel_rfl)
    (of_decide_eq_true (by kernel_rfl)) (by unfold Func.isWrapper; first | (rw [if_pos (by decide +kernel)]; kernel_rfl) | (rw [if_neg (by decide +kernel)]; exact ⟨rfl, rfl⟩))
    (fun os started H enc _ => lifted os started H enc)

theorem proved : Rows.FnRestSaid := over
#print axioms proved
end Go.Proofs.Ytnelgnfahkljmaa.fnRest
