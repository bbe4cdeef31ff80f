/- Proved: for every slice of bytes the law FnWishes returns true: at a drawn state and two drawn thresholds the program's Wishes answers one number for each leaf; the number is 1 exactly where the program's JumpAt is greater than the first threshold and the leaf's level less than MaxLevel; where it is -1, the jump is less than the second threshold and the level not 0; and the program's CountWishes of 1, of 0 and of -1 are together the number of leaves.
   Conditions: none besides those that the given row prints. -/
import Derived.Test.YtaccigmkddomaaaRows
import Derived.WalkKit
import Derived.ProofKit
import Derived.OpenShut
import Derived.ShutString
import Derived.Test.YtaccigmkddomaaaStCriI
import Derived.Test.YtaccigmkddomaaaStPutL
import Derived.Test.YtaccigmkddomaaaStLaw
import Derived.ChangeOld
import Derived.Below
set_option maxRecDepth 100000
namespace Go.Proofs.Ytaccigmkddomaaa.fnWishes
open Go.ChangeShapes Go.WideShapes Go.ChangeAt Go.RowKit
open Go.ChangeMaps (open_string shut_string)
set_option linter.unusedVariables false

theorem own : ownKnob Try.prog.godebug = none := by kernel_rfl
theorem laidOut : laidOutB Try.prog = true := by kernel_rfl

def IsRow (k : IntKind) (w : World) (a : Option Addr) (len cap : Nat) (zs : List Int) : Prop :=
  (a = none ∧ len = 0 ∧ cap = 0 ∧ zs = []) ∨
  ∃ x, a = some x ∧ len ≤ cap ∧ cap ≤ maxLen ∧ zs.length = cap ∧ (∀ i, i < zs.length → w.cell? (x.add i) = some (.int k (zs.getD i 0))) ∧ ∀ n ∈ zs, (Lit.int k n).wf = true

set_option maxHeartbeats 32000000 in
theorem walk (a0 : Option Addr) (len0 cap0 : Nat) (z0 : List Int) (w : World) (w0 : IsRow .u8 w a0 len0 cap0 z0) :
    Calls Try.prog 3 #[.slice a0 len0 cap0] w fun e w' => e = .returned (.bool true) ∧ Below w.heap.size w w' := by
  have hb := Draw.bytes_of w0
  have HB := Lib.hid hb; clear hb
  clear w0
  by_cases hlen : 1048576 < len0
  · have hd : decide (1048576 < (len0 : Int)) = true := by simp; omega
    go_enter Try.func3, Try.ntmps3
    go_wp2_with fail
    refine Draw.big_any.mono ?_; rintro e w1 ⟨rfl, rfl⟩
    rw [hd]
    go_wp2_with fail
    go_ret
    exact ⟨rfl, Below.refl _ _⟩
  · have hd : decide (1048576 < (len0 : Int)) = false := by simp; omega
    have hlen' : len0 ≤ 1048576 := by omega
    have HLen := Lib.hid hlen'; clear hlen'
    go_enter Try.func3, Try.ntmps3
    go_wp2_with fail
    refine Draw.big_any.mono ?_; rintro e w1 ⟨rfl, rfl⟩
    rw [hd]
    clear hd hlen
    go_wp2_with fail
    refine (State.drawState_is HLen.out HB.out (Nat.le_refl _)).mono ?_
    rintro e w1 ⟨R, n1, n2, xs, ms, ts, bs, x1, c1, x2, c2, x3, c3, x4, c4, rfl, hd, ho, hg⟩
    obtain ⟨hn2, hn2', hR⟩ := hd.sizes
    have hn := hd.leaves
    obtain ⟨g1, c1', hv⟩ := Mesh.own_at1 ho.l (by omega)
    cases hv
    obtain ⟨g2, rfl, -, -⟩ := Ints.own_atI ho.m (by omega)
    obtain ⟨g3, rfl, -, -⟩ := Ints.own_atI ho.t (by omega)
    obtain ⟨g4, rfl, -, -⟩ := Ints.own_atI ho.b (by omega)
    have HE1 := Lib.hid ((State.Held.state (Law.Held.nil w) hg ho).box 29 #[.int .i64 R, .slice (some ⟨g1, 0, none⟩) n1 c1, .slice (some ⟨g2, 0, none⟩) n1 c2, .slice (some ⟨g3, 0, none⟩) n1 c3, .slice (some ⟨g4, 0, none⟩) n2 c4])
    have HD := Lib.hid hd
    have H1 := Lib.hid (show n1 ≤ 1048576 by omega); have H2 := Lib.hid (show n2 ≤ 1048576 by omega)
    have HN := Lib.hid hn
    have hn1 : 1 ≤ (n1 : Int) := by omega
    have hn1' : (n1 : Int) ≤ 128 := by omega
    have HBW := Lib.hid (HB.out.kept (fun b hb' => (hg.block b hb' (by simp))))
    have HSZ := Lib.hid hg.size
    clear ho hg hd hn hn2 hn2' hR HB
    go_upto_region 4 with fail
    obtain ⟨B3, hB3⟩ : ∃ B, B = w1.heap.size := ⟨_, rfl⟩
    rw [← hB3] at HE1 ⊢
    clear hB3
    have HBX := Lib.hid (HBW.out.kept (fun b hb' => (World.grownBy_alloc w1 (.cells #[.int .i64 R, .slice (some ⟨g1, 0, none⟩) n1 c1, .slice (some ⟨g2, 0, none⟩) n1 c2, .slice (some ⟨g3, 0, none⟩) n1 c3, .slice (some ⟨g4, 0, none⟩) n2 c4] 29) none).block b (by have := HSZ.out; omega) (by simp)))
    have HSX := Lib.hid (Nat.le_trans HSZ.out (World.grownBy_alloc w1 (.cells #[.int .i64 R, .slice (some ⟨g1, 0, none⟩) n1 c1, .slice (some ⟨g2, 0, none⟩) n1 c2, .slice (some ⟨g3, 0, none⟩) n1 c3, .slice (some ⟨g4, 0, none⟩) n2 c4] 29) none).size)
    clear HBW HSZ
    generalize w1.alloc (.cells #[.int .i64 R, .slice (some ⟨g1, 0, none⟩) n1 c1, .slice (some ⟨g2, 0, none⟩) n1 c2, .slice (some ⟨g3, 0, none⟩) n1 c3, .slice (some ⟨g4, 0, none⟩) n2 c4] 29) = W1 at *
    go_upto_region 5 with (go_at_call 12; ((with_reducible refine (State.places_new HLen.out HBX.out HSX.out).mono ?_); rintro e w2 ⟨gp, cp, p0, p1, p2, rfl, q0, q1, q2, hp, hlo, hg⟩; have HE2 := Lib.hid (HE1.out.add hg hp (fun b hb => by rw [List.mem_singleton.1 hb]; exact hlo)); clear hp hlo hg))
    clear HE1 HBX HSX HLen
    have hok := HD.out.ok
    have HOK := Lib.hid hok
    have HWI := Lib.hid (show ∀ u, State.ReadsS u (some ⟨g1, 0, none⟩) (some ⟨g2, 0, none⟩) (some ⟨g3, 0, none⟩) (some ⟨g4, 0, none⟩) n1 n1 n1 n2 xs ms ts bs → Calls Try.prog 13 #[.agg #[.int .i64 R, .slice (some ⟨g1, 0, none⟩) n1 c1, .slice (some ⟨g2, 0, none⟩) n1 c2, .slice (some ⟨g3, 0, none⟩) n1 c3, .slice (some ⟨g4, 0, none⟩) n2 c4], .int .i64 p0, .int .i64 p1] u (fun e w' => ∃ (q : Option Addr) (d : Nat), e = .returned (.slice q n1 d) ∧ w'.ownsRow u.heap.size 3 1 (.slice q n1 d) n1 (Ints.vals (State.gen n1 (State.wishAt xs ms bs p0 p1))) ∧ u.grownBy w' none) from fun u h => by
      have q := State.wishes_is R _ _ _ _ n1 n1 n1 n2 c1 c2 c3 c4 xs ms ts bs p0 p1 u h H1.out H1.out H1.out H2.out
      unfold State.GivesI at q
      rw [State.wishG_len hok, h.m.len, State.wishG, if_pos hok, State.wishes, h.m.len] at q
      exact q)
    have HJA := Lib.hid (show ∀ (k : Nat), k < n1 → ∀ u, State.ReadsS u (some ⟨g1, 0, none⟩) (some ⟨g2, 0, none⟩) (some ⟨g3, 0, none⟩) (some ⟨g4, 0, none⟩) n1 n1 n1 n2 xs ms ts bs → Calls Try.prog 14 #[.agg #[.int .i64 R, .slice (some ⟨g1, 0, none⟩) n1 c1, .slice (some ⟨g2, 0, none⟩) n1 c2, .slice (some ⟨g3, 0, none⟩) n1 c3, .slice (some ⟨g4, 0, none⟩) n2 c4], .int .i64 (k : Int)] u fun e w' => e = .returned (.int .i64 (State.jumpN xs ms bs k)) ∧ u.grownBy w' none from fun k hk u h => by
      have q := State.jumpAtG_is R _ _ _ _ n1 n1 n1 n2 c1 c2 c3 c4 xs ms ts bs (k : Int) u h H1.out H1.out H1.out H2.out (by have := H1.out; omega)
      rw [State.jumpG, if_pos ⟨hok, by omega, by rw [h.m.len]; omega⟩, Int.toNat_natCast] at q
      exact q)
    have hsum := State.cnt_all xs ms bs p0 p1 n1
    unfold State.wishes at hsum
    have HCW := Lib.hid fun (v : Int) (q : Option Addr) (d : Nat) (u : World) (h : Ints.ReadsI u q n1 (State.gen n1 (State.wishAt xs ms bs p0 p1))) => State.countWishes_is q n1 d (State.gen n1 (State.wishAt xs ms bs p0 p1)) v u h H1.out
    have y1b := State.cntW_le (State.gen n1 (State.wishAt xs ms bs p0 p1)) 1
    have y0b := State.cntW_le (State.gen n1 (State.wishAt xs ms bs p0 p1)) 0
    have ymb := State.cntW_le (State.gen n1 (State.wishAt xs ms bs p0 p1)) (-1)
    rw [State.gen_len] at y1b y0b ymb
    have HCW1 := Lib.hid (fun q d u h => HCW.out 1 q d u h)
    have HCW0 := Lib.hid (fun q d u h => HCW.out 0 q d u h)
    have HCWM := Lib.hid (fun q d u h => HCW.out (-1) q d u h)
    clear HCW
    generalize State.cntW (State.gen n1 (State.wishAt xs ms bs p0 p1)) 1 = y1 at *
    generalize State.cntW (State.gen n1 (State.wishAt xs ms bs p0 p1)) 0 = y0 at *
    generalize State.cntW (State.gen n1 (State.wishAt xs ms bs p0 p1)) (-1) = ym at *
    have HY := Lib.hid (And.intro hsum (And.intro y1b (And.intro y0b ymb)))
    clear hsum y1b y0b ymb hok
    obtain ⟨z0, z1, z2, z3, z4⟩ := Law.box5 (HE2.out.nth 1 rfl)
    obtain ⟨c4', c5', c6'⟩ := HE2.out.nth 2 rfl
    go_upto_region 8 with (go_at_call 13; ((with_reducible refine (HWI.out _ (State.OwnS.reads (HE2.out.nth 0 rfl))).mono ?_); rintro e w3 ⟨q, d, rfl, ho, hg⟩; have HE3 := Lib.hid (HE2.out.row hg ho); clear ho hg))
    clear z0 z1 z2 z3 z4 c4' c5' c6' HE2 HWI
    obtain ⟨z0, z1, z2, z3, z4⟩ := Law.box5 (HE3.out.nth 1 rfl)
    go_wp2_with fail
    clear z0 z1 z2 z3 z4
    go_loopw [8] (fun i wr => ∃ k : Nat, (k : Int) ≤ n1 ∧ i = .int .i64 k ∧ Hid (Law.Held w wr [State.stateG (.slice (some ⟨g1, 0, none⟩) n1 c1) (.slice (some ⟨g2, 0, none⟩) n1 c2) (.slice (some ⟨g3, 0, none⟩) n1 c3) (.slice (some ⟨g4, 0, none⟩) n2 c4) n1 n1 n1 n2 xs ms ts bs, Law.boxG B3 29 #[.int .i64 R, .slice (some ⟨g1, 0, none⟩) n1 c1, .slice (some ⟨g2, 0, none⟩) n1 c2, .slice (some ⟨g3, 0, none⟩) n1 c3, .slice (some ⟨g4, 0, none⟩) n2 c4], State.placesG gp p0 p1 p2, Law.rowG 3 1 (.slice q n1 d) n1 (Ints.vals (State.gen n1 (State.wishAt xs ms bs p0 p1)))])) (fun i _ => n1 - (intOf i).toNat)
    case atStart => exact ⟨0, by omega, rfl, HE3⟩
    case round =>
      clear HE3
      obtain ⟨k, hk, rfl, HF⟩ := hrel
      by_cases hlt : (k : Int) < n1
      · have HK := Lib.hid (show k < n1 by omega)
        have HJK := Lib.hid (HJA.out k HK.out)
        obtain ⟨r, l, i, hx⟩ := Mesh.get_of_lt (State.OwnS.reads (HF.out.nth 0 rfl)).l.len (k := k) HK.out
        have HL := Lib.hid (show State.lvAt xs k = l by simp [State.lvAt, hx])
        have HCL := Lib.hid (show ∀ u, State.ReadsS u (some ⟨g1, 0, none⟩) (some ⟨g2, 0, none⟩) (some ⟨g3, 0, none⟩) (some ⟨g4, 0, none⟩) n1 n1 n1 n2 xs ms ts bs → u.cell? ⟨g1, k * 3 + 1, none⟩ = some (.int .i64 l) from fun u hu => by
          obtain ⟨g1', e, -, -, hc, -⟩ := hu.l.at_ k _ hx
          cases e; exact hc)
        clear hx HJA HCW1 HCW0 HCWM HY
        obtain ⟨j, hj⟩ : ∃ j, State.jumpN xs ms bs k = j := ⟨_, rfl⟩
        have HJ := Lib.hid hj
        rw [hj] at HJK
        clear hj
        obtain ⟨z0, z1, z2, z3, z4⟩ := Law.box5 (HF.out.nth 1 rfl)
        by_cases d1' : p0 < j
        · by_cases d2' : l < 4
          · have hA := d1'
            have hB := d2'
            have HV := Lib.hid (show State.wishAt xs ms bs p0 p1 k = 1 by unfold State.wishAt; rw [HJ.out, HL.out]; rw [if_pos ⟨hA, hB⟩])
            have HROW := Lib.hid (show ∀ u, Law.Held w u _ → ∃ gq oq, q = some ⟨gq, oq, none⟩ ∧ u.cell? ⟨gq, oq + k, none⟩ = some (.int .i64 (1)) from fun u (hu : Law.Held w u (Law.gsOf HF.out)) => by
              obtain ⟨gq, oq, e, hc⟩ := (Ints.own_readsI (hu.nth 3 rfl)).at_ k (1) (by rw [← HV.out]; exact State.gen_at _ HK.out)
              exact ⟨gq, oq, e, hc⟩)
            obtain ⟨gq, oq, hq, -⟩ := HROW.out _ HF.out
            have HQ := Lib.hid hq
            subst hq
            go_wp2_with (go_at_call 14; ((with_reducible refine (HJK.out _ (State.OwnS.reads (HF.out.nth 0 rfl))).mono ?_); rintro e w4 ⟨rfl, hg⟩; have HF2 := Lib.hid (HF.out.on hg); obtain ⟨x0, x1, x2, x3, x4⟩ := Law.box5 (HF2.out.nth 1 rfl); have d1 := HCL.out _ (State.OwnS.reads (HF2.out.nth 0 rfl)); obtain ⟨gq', oq', hq', hc⟩ := HROW.out _ HF2.out; cases hq'; clear hg))
            go_roundw
            case rel => exact ⟨k + 1, by omega, by go_num, HF2⟩
            case measure => simp [intOf]; omega
          · by_cases d3 : j < p1
            · have d4 : 0 < l := by omega
              have HV := Lib.hid (show State.wishAt xs ms bs p0 p1 k = -1 by unfold State.wishAt; rw [HJ.out, HL.out]; rw [if_neg (by omega), if_pos ⟨by omega, by omega⟩])
              have HROW := Lib.hid (show ∀ u, Law.Held w u _ → ∃ gq oq, q = some ⟨gq, oq, none⟩ ∧ u.cell? ⟨gq, oq + k, none⟩ = some (.int .i64 (-1)) from fun u (hu : Law.Held w u (Law.gsOf HF.out)) => by
                obtain ⟨gq, oq, e, hc⟩ := (Ints.own_readsI (hu.nth 3 rfl)).at_ k (-1) (by rw [← HV.out]; exact State.gen_at _ HK.out)
                exact ⟨gq, oq, e, hc⟩)
              obtain ⟨gq, oq, hq, -⟩ := HROW.out _ HF.out
              have HQ := Lib.hid hq
              subst hq
              have hl0 : (l == 0) = false := beq_false_of_ne (by omega)
              go_wp2_with (go_at_call 14; ((with_reducible refine (HJK.out _ (State.OwnS.reads (HF.out.nth 0 rfl))).mono ?_); rintro e w4 ⟨rfl, hg⟩; have HF2 := Lib.hid (HF.out.on hg); obtain ⟨x0, x1, x2, x3, x4⟩ := Law.box5 (HF2.out.nth 1 rfl); have d1 := HCL.out _ (State.OwnS.reads (HF2.out.nth 0 rfl)); obtain ⟨gq', oq', hq', hc⟩ := HROW.out _ HF2.out; cases hq'; clear hg))
              go_roundw
              case rel => exact ⟨k + 1, by omega, by go_num, HF2⟩
              case measure => simp [intOf]; omega
            · have d4 : 0 < l := by omega
              have HV := Lib.hid (show State.wishAt xs ms bs p0 p1 k = 0 by unfold State.wishAt; rw [HJ.out, HL.out]; rw [if_neg (by omega), if_neg (by omega)])
              have HROW := Lib.hid (show ∀ u, Law.Held w u _ → ∃ gq oq, q = some ⟨gq, oq, none⟩ ∧ u.cell? ⟨gq, oq + k, none⟩ = some (.int .i64 (0)) from fun u (hu : Law.Held w u (Law.gsOf HF.out)) => by
                obtain ⟨gq, oq, e, hc⟩ := (Ints.own_readsI (hu.nth 3 rfl)).at_ k (0) (by rw [← HV.out]; exact State.gen_at _ HK.out)
                exact ⟨gq, oq, e, hc⟩)
              obtain ⟨gq, oq, hq, -⟩ := HROW.out _ HF.out
              have HQ := Lib.hid hq
              subst hq
              go_wp2_with (go_at_call 14; ((with_reducible refine (HJK.out _ (State.OwnS.reads (HF.out.nth 0 rfl))).mono ?_); rintro e w4 ⟨rfl, hg⟩; have HF2 := Lib.hid (HF.out.on hg); obtain ⟨x0, x1, x2, x3, x4⟩ := Law.box5 (HF2.out.nth 1 rfl); have d1 := HCL.out _ (State.OwnS.reads (HF2.out.nth 0 rfl)); obtain ⟨gq', oq', hq', hc⟩ := HROW.out _ HF2.out; cases hq'; clear hg))
              go_roundw
              case rel => exact ⟨k + 1, by omega, by go_num, HF2⟩
              case measure => simp [intOf]; omega
        · by_cases d3 : j < p1
          · by_cases d4 : 0 < l
            · have d5 := d4
              have HV := Lib.hid (show State.wishAt xs ms bs p0 p1 k = -1 by unfold State.wishAt; rw [HJ.out, HL.out]; rw [if_neg (by omega), if_pos ⟨by omega, by omega⟩])
              have HROW := Lib.hid (show ∀ u, Law.Held w u _ → ∃ gq oq, q = some ⟨gq, oq, none⟩ ∧ u.cell? ⟨gq, oq + k, none⟩ = some (.int .i64 (-1)) from fun u (hu : Law.Held w u (Law.gsOf HF.out)) => by
                obtain ⟨gq, oq, e, hc⟩ := (Ints.own_readsI (hu.nth 3 rfl)).at_ k (-1) (by rw [← HV.out]; exact State.gen_at _ HK.out)
                exact ⟨gq, oq, e, hc⟩)
              obtain ⟨gq, oq, hq, -⟩ := HROW.out _ HF.out
              have HQ := Lib.hid hq
              subst hq
              have hl0 : (l == 0) = false := beq_false_of_ne (by omega)
              go_wp2_with (go_at_call 14; ((with_reducible refine (HJK.out _ (State.OwnS.reads (HF.out.nth 0 rfl))).mono ?_); rintro e w4 ⟨rfl, hg⟩; have HF2 := Lib.hid (HF.out.on hg); obtain ⟨x0, x1, x2, x3, x4⟩ := Law.box5 (HF2.out.nth 1 rfl); have d1 := HCL.out _ (State.OwnS.reads (HF2.out.nth 0 rfl)); obtain ⟨gq', oq', hq', hc⟩ := HROW.out _ HF2.out; cases hq'; clear hg))
              go_roundw
              case rel => exact ⟨k + 1, by omega, by go_num, HF2⟩
              case measure => simp [intOf]; omega
            · have d5 := d4
              have HV := Lib.hid (show State.wishAt xs ms bs p0 p1 k = 0 by unfold State.wishAt; rw [HJ.out, HL.out]; rw [if_neg (by omega), if_neg (by omega)])
              have HROW := Lib.hid (show ∀ u, Law.Held w u _ → ∃ gq oq, q = some ⟨gq, oq, none⟩ ∧ u.cell? ⟨gq, oq + k, none⟩ = some (.int .i64 (0)) from fun u (hu : Law.Held w u (Law.gsOf HF.out)) => by
                obtain ⟨gq, oq, e, hc⟩ := (Ints.own_readsI (hu.nth 3 rfl)).at_ k (0) (by rw [← HV.out]; exact State.gen_at _ HK.out)
                exact ⟨gq, oq, e, hc⟩)
              obtain ⟨gq, oq, hq, -⟩ := HROW.out _ HF.out
              have HQ := Lib.hid hq
              subst hq
              go_wp2_with (go_at_call 14; ((with_reducible refine (HJK.out _ (State.OwnS.reads (HF.out.nth 0 rfl))).mono ?_); rintro e w4 ⟨rfl, hg⟩; have HF2 := Lib.hid (HF.out.on hg); obtain ⟨x0, x1, x2, x3, x4⟩ := Law.box5 (HF2.out.nth 1 rfl); have d1 := HCL.out _ (State.OwnS.reads (HF2.out.nth 0 rfl)); obtain ⟨gq', oq', hq', hc⟩ := HROW.out _ HF2.out; cases hq'; clear hg))
              go_roundw
              case rel => exact ⟨k + 1, by omega, by go_num, HF2⟩
              case measure => simp [intOf]; omega
          · have d5 := d3
            have HV := Lib.hid (show State.wishAt xs ms bs p0 p1 k = 0 by unfold State.wishAt; rw [HJ.out, HL.out]; rw [if_neg (by omega), if_neg (by omega)])
            have HROW := Lib.hid (show ∀ u, Law.Held w u _ → ∃ gq oq, q = some ⟨gq, oq, none⟩ ∧ u.cell? ⟨gq, oq + k, none⟩ = some (.int .i64 (0)) from fun u (hu : Law.Held w u (Law.gsOf HF.out)) => by
              obtain ⟨gq, oq, e, hc⟩ := (Ints.own_readsI (hu.nth 3 rfl)).at_ k (0) (by rw [← HV.out]; exact State.gen_at _ HK.out)
              exact ⟨gq, oq, e, hc⟩)
            obtain ⟨gq, oq, hq, -⟩ := HROW.out _ HF.out
            have HQ := Lib.hid hq
            subst hq
            go_wp2_with (go_at_call 14; ((with_reducible refine (HJK.out _ (State.OwnS.reads (HF.out.nth 0 rfl))).mono ?_); rintro e w4 ⟨rfl, hg⟩; have HF2 := Lib.hid (HF.out.on hg); obtain ⟨x0, x1, x2, x3, x4⟩ := Law.box5 (HF2.out.nth 1 rfl); have d1 := HCL.out _ (State.OwnS.reads (HF2.out.nth 0 rfl)); obtain ⟨gq', oq', hq', hc⟩ := HROW.out _ HF2.out; cases hq'; clear hg))
            go_roundw
            case rel => exact ⟨k + 1, by omega, by go_num, HF2⟩
            case measure => simp [intOf]; omega
      · obtain rfl : n1 = k := by omega
        obtain ⟨hsum, y1b, y0b, ymb⟩ := HY.out
        have hn4 : (n1 : Int) ≤ 1048576 := by have := H1.out; omega
        have e1 : IntKind.i64.wrap (y1 + y0) = y1 + y0 := IntWalk.i64_in _ (by omega)
        have e2 : IntKind.i64.wrap (y1 + y0 + ym) = (n1 : Int) := by rw [hsum]; exact IntWalk.i64_in _ (by omega)
        clear hsum
        go_wp2_with (go_at_call 15; (first
          | ((with_reducible refine (HCW1.out _ _ _ (Ints.own_readsI (HF.out.nth 3 rfl))).mono ?_); rintro e w5 ⟨rfl, hg⟩; have HE5 := Lib.hid (HF.out.on hg); clear hg)
          | ((with_reducible refine (HCW0.out _ _ _ (Ints.own_readsI (HE5.out.nth 3 rfl))).mono ?_); rintro e w6 ⟨rfl, hg⟩; have HE6 := Lib.hid (HE5.out.on hg); clear hg)
          | ((with_reducible refine (HCWM.out _ _ _ (Ints.own_readsI (HE6.out.nth 3 rfl))).mono ?_); rintro e w7 ⟨rfl, hg⟩; have HE7 := Lib.hid (HE6.out.on hg); clear hg)))
        go_ret
        exact ⟨rfl, Cell.grown_below HE7.out.gr (Nat.le_refl _)⟩

set_option maxRecDepth 100000 in
theorem lifted (os : Os) (started : os.Started) (H : Type) (enc : TypeId × Value → H) :
    ReturnsInHanded {} Try.checked os 3 .any (Rows.fnWishesSpec.pre6 enc Try.prog Try.f3 Rows.fnWishesRow.domain false) (Rows.fnWishesSpec.post enc Try.prog Try.f3 false true false false) := by
  refine returnsInHanded_of_change (C := Try.checked) own started (by kernel_rfl) Try.func3
    (ChangeSpec.witness6 (enc := enc) (C := Try.checked) false ⟨#[], #[.slice none 0 0], []⟩ 8 (by kernel_rfl) (by kernel_rfl) (by kernel_rfl) (by kernel_rfl)) ?_
  intro W base args ds gs before hval0 hW hcnd _
  have hval : ∀ (j : Nat) t v, Try.f3.params[j]? = some t → args[j]? = some v → Value.okWide Try.prog W .any base t v := hval0
  have hW' := hW
  obtain ⟨p, q, hA0, hV, rfl, hfz, hnd⟩ := hW
  have hA : DataW.TrodAll enc Try.prog W 0 (fun _ => true) true Try.f3.params.toList args.toList ds p := hA0
  rw [Try.params3] at hA hval
  obtain ⟨v0, vs0, d0, ds0, p0, q0, hargs, rfl, rfl, h0, r0⟩ := trodAll_cons hA
  obtain ⟨rfl, rfl, rfl⟩ := trodAll_nil r0
  obtain rfl : args = #[v0] := by cases args; simp_all
  obtain ⟨rfl, rfl⟩ := trodVars_none hV
  obtain ⟨a0, len0, cap0, rfl⟩ := okWide_slice Try.underlying22 (hval 0 22 v0 rfl rfl)
  have k0 := h0
  have lt0 : ∀ x ∈ p0, x.block < W.heap.size := by obtain ⟨m, hm⟩ := k0; exact DataW.trod_lt m _ _ _ hm
  obtain ⟨z0, w0⟩ : ∃ zs, IsRow .u8 W a0 len0 cap0 zs := by
    obtain ⟨fuel, hf⟩ := h0
    rcases open_ints Try.underlying22 Try.underlying5 (by kernel_rfl) hf with ⟨hcs, _⟩ | ⟨x, l, c, zs, hcs, _, hl, hm, hz, _, hcell, hwz⟩
    · simp [Value.cells] at hcs
      obtain ⟨rfl, rfl, rfl⟩ := hcs
      exact ⟨[], .inl ⟨rfl, rfl, rfl, rfl⟩⟩
    · simp [Value.cells] at hcs
      obtain ⟨rfl, rfl, rfl⟩ := hcs
      exact ⟨zs, .inr ⟨_, rfl, hl, hm, by simpa using hz, hcell, hwz⟩⟩
  clear hA0 hval0
  refine (walk a0 len0 cap0 z0 W w0).mono fun e W' ⟨he, bel⟩ => ?_
  subst he
  exact ⟨_, rfl, _, _, _, [], _, [], hW', trodAll_mk1 (shut_bool Try.underlying4 _), (trodAll_cons_mk (Below.trod laidOut (by kernel_rfl) (of_decide_eq_true (by kernel_rfl)) k0 bel lt0) trodAll_mk0), rfl, bel.frame _, fun h => by cases h⟩

theorem over : Rows.fnWishesRow.holds Try.pinned (OpenSpec.ofChange Rows.fnWishesSpec) :=
  OpenClaim.holds_of_wide 3 Try.f3 rfl rfl rfl rfl rfl rfl rfl ⟨rfl, rfl, rfl, rfl, rfl⟩ rfl rfl rfl rfl rfl (by kernel_rfl) Try.func3 (by kernel_rfl)
    (of_decide_eq_true (by kernel_rfl)) (by unfold Func.isWrapper; first | (rw [if_pos (by decide +kernel)]; kernel_rfl) | (rw [if_neg (by decide +kernel)]; exact ⟨rfl, rfl⟩))
    (fun os started H enc _ => lifted os started H enc)

theorem proved : Rows.FnWishesSaid := over
#print axioms proved
end Go.Proofs.Ytaccigmkddomaaa.fnWishes
