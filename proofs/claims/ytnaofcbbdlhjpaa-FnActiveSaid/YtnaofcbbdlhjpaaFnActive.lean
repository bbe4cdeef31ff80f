/- Proved: for every slice of bytes the law FnActive returns true: of a drawn mesh, each face that ActiveFaces names is active in its tick (IsActive), in sixteen ticks from a multiple of 16 on each face is named 2^level times, and a face of level 0 is active in tick 16 and not in tick -16.
   Conditions: none besides those that the given row prints. -/
import Derived.Test.YtnaofcbbdlhjpaaRows
import Derived.WalkKit
import Derived.ProofKit
import Derived.OpenShut
import Derived.ShutString
import Derived.Test.YtnaofcbbdlhjpaaStStepL
import Derived.Test.YtnaofcbbdlhjpaaMDraw
import Derived.ChangeOld
import Derived.Below
set_option maxRecDepth 100000
namespace Go.Proofs.Ytnaofcbbdlhjpaa.fnActive
open Go.ChangeShapes Go.WideShapes Go.ChangeAt Go.RowKit
open Go.ChangeMaps (open_string shut_string)
set_option linter.unusedVariables false

theorem own : ownKnob Try.prog.godebug = none := by kernel_rfl
theorem laidOut : laidOutB Try.prog = true := by kernel_rfl

def IsRow (k : IntKind) (w : World) (a : Option Addr) (len cap : Nat) (zs : List Int) : Prop :=
  (a = none ∧ len = 0 ∧ cap = 0 ∧ zs = []) ∨
  ∃ x, a = some x ∧ len ≤ cap ∧ cap ≤ maxLen ∧ zs.length = cap ∧ (∀ i, i < zs.length → w.cell? (x.add i) = some (.int k (zs.getD i 0))) ∧ ∀ n ∈ zs, (Lit.int k n).wf = true

set_option maxHeartbeats 16000000 in
theorem walk (a0 : Option Addr) (len0 cap0 : Nat) (z0 : List Int) (w : World) (w0 : IsRow .u8 w a0 len0 cap0 z0) :
    Calls Try.prog 6 #[.slice a0 len0 cap0] w fun e w' => e = .returned (.bool true) ∧ Below w.heap.size w w' := by
  have hb := Draw.bytes_of w0
  have HB := Lib.hid hb; clear hb
  clear w0
  by_cases hlen : 1048576 < len0
  · have hd : decide (1048576 < (len0 : Int)) = true := by simp; omega
    go_enter Try.func6, Try.ntmps6
    go_wp2_with fail
    refine Draw.big_any.mono ?_; rintro e w1 ⟨rfl, rfl⟩
    rw [hd]
    go_wp2_with fail
    go_ret
    exact ⟨rfl, Below.refl _ _⟩
  · have hd : decide (1048576 < (len0 : Int)) = false := by simp; omega
    have hlen' : len0 ≤ 1048576 := by omega
    have HLen := Lib.hid hlen'; clear hlen'
    go_enter Try.func6, Try.ntmps6
    go_wp2_with fail
    refine Draw.big_any.mono ?_; rintro e w1 ⟨rfl, rfl⟩
    rw [hd]
    clear hd hlen
    go_wp2_with fail
    refine (Mesh.draw_is HLen.out HB.out).mono ?_; rintro e w1 ⟨R, xs, a1, c1, rfl, h1, h3, hm, ho, hb⟩
    clear h1 h3
    obtain ⟨n, hn⟩ : ∃ n, n = xs.length := ⟨_, rfl⟩
    obtain ⟨-, hl1, hl2⟩ := Mesh.mesh_parts hm
    have HN := Lib.hid hn; have HMM := Lib.hid hm
    have hni : (n : Int) ≤ 128 := by omega
    have hn1 : 1 ≤ (n : Int) := by omega
    have HN4 := Lib.hid (show n ≤ 1048576 by omega)
    rw [← hn] at ho ⊢
    have hg := Mesh.below_grown hb
    have HE1 := Lib.hid (((Law.Held.nil w).row hg ho).box 26 #[.int .i64 R, .slice a1 n c1])
    have HBW := Lib.hid (HB.out.kept (fun b hb' => (hg.block b hb' (by simp))))
    have HSZ := Lib.hid hg.size
    clear ho hb hg hm hn hl1 hl2 HB
    go_upto_region 4 with fail
    obtain ⟨B3, hB3⟩ : ∃ B, B = w1.heap.size := ⟨_, rfl⟩
    rw [← hB3] at HE1 ⊢
    clear hB3
    have HBX := Lib.hid (HBW.out.kept (fun b hb' => (World.grownBy_alloc w1 (.cells #[.int .i64 R, .slice a1 n c1] 26) none).block b (by have := HSZ.out; omega) (by simp)))
    have HSX := Lib.hid (Nat.le_trans HSZ.out (World.grownBy_alloc w1 (.cells #[.int .i64 R, .slice a1 n c1] 26) none).size)
    clear HBW HSZ
    generalize w1.alloc (.cells #[.int .i64 R, .slice a1 n c1] 26) = W1 at *
    go_upto_region 5 with (go_at_call 14; ((with_reducible refine (State.places_new HLen.out HBX.out HSX.out).mono ?_); rintro e w2 ⟨gp, cp, p0, p1, p2, rfl, q0, q1, q2, hp, hlo, hg⟩; have HE2 := Lib.hid (HE1.out.add hg hp (fun b hb => by rw [List.mem_singleton.1 hb]; exact hlo)); clear hp hlo hg))
    clear HE1 HBX HSX HLen
    obtain ⟨c4', c5, c6⟩ := HE2.out.nth 2 rfl
    obtain ⟨q, hq0⟩ : ∃ q, q = p0 % 9 := ⟨_, rfl⟩
    have hq : (p0 : Int).tmod 9 = q := by rw [Int.tmod_eq_emod_of_nonneg q0.1, hq0]
    have hqb : 0 ≤ q ∧ q ≤ 8 := by omega
    have hw1 : IntKind.i64.wrap q = q := IntWalk.i64_in _ (by omega)
    have hw2 : IntKind.i64.wrap (16 * q) = 16 * q := IntWalk.i64_in _ (by omega)
    have hw3 : IntKind.i64.wrap (16 * q + 16) = 16 * q + 16 := IntWalk.i64_in _ (by omega)
    clear q0 q1 q2 hq0
    have HFB := Lib.hid (show ∀ k, k < n - 1 → 0 ≤ Mesh.faceAt xs k ∧ Mesh.faceAt xs k ≤ 4 from fun k hk => Mesh.face_bounds HMM.out (by have := HN.out; omega))
    have HFO := Lib.hid (show ∀ k : Nat, k + 1 < n → Mesh.faceOf R xs (k : Int) = Mesh.faceAt xs k from fun k hk => if_pos ⟨HMM.out, by omega, by have := HN.out; omega⟩)
    have HAF := Lib.hid (show ∀ (t : Int) u, Mesh.Reads u a1 n xs → Calls Try.prog 27 #[.agg #[.int .i64 R, .slice a1 n c1], .int .i64 t] u fun e w' => ∃ q d, e = .returned (.slice q (State.actF xs t (n - 1)).length d) ∧ w'.ownsRow u.heap.size 3 1 (.slice q (State.actF xs t (n - 1)).length d) (State.actF xs t (n - 1)).length (Ints.vals (State.toI (State.actF xs t (n - 1)))) ∧ u.grownBy w' none from fun t u h => by
      have q := State.activeFaces_is R t a1 n c1 xs u h HN4.out
      rw [show State.actG R xs t = State.toI (State.actF xs t (n - 1)) from (if_pos HMM.out).trans (by rw [HN.out])] at q
      unfold State.GivesI at q
      rw [State.toI_len] at q
      exact q)
    have HSL := Lib.hid (show ∀ (i : Int) u, Mesh.Reads u a1 n xs → Calls Try.prog 29 #[.agg #[.int .i64 R, .slice a1 n c1], .int .i64 i] u fun e w' => e = .returned (.int .i64 (Mesh.faceOf R xs i)) ∧ u.grownBy w' none from fun i u h => Mesh.specFaceLvl_is R i a1 n c1 xs u h HN4.out)
    have HIA := Lib.hid (show ∀ (t l : Int) u, Calls Try.prog 28 #[.int .i64 t, .int .i64 l] u fun e w' => e = .returned (.bool (State.actN t l)) ∧ u.grownBy w' none from fun t l u => (State.isActive_is t l u).mono fun _ _ ⟨he, hw⟩ => ⟨he, hw ▸ Cell.grown_refl _⟩)
    have HCB := Lib.hid (show ∀ j : Nat, j ≤ 16 → 0 ≤ State.cntA xs (n - 1) (16 * q) j ∧ State.cntA xs (n - 1) (16 * q) j ≤ 2048 from fun j hj => by
      have h := State.cntA_bounds xs (n - 1) (16 * q) j
      have : (j : Int) * ((n - 1 : Nat) : Int) ≤ 16 * 128 := Int.mul_le_mul (by omega) (by omega) (by omega) (by omega)
      omega)
    have HEQ := Lib.hid (State.cnt_want (xs := xs) hqb.1 (n - 1) HFB.out)
    have HWB := Lib.hid (show ∀ k, k ≤ n - 1 → 0 ≤ State.wantA xs k ∧ State.wantA xs k ≤ 2048 from fun k hk => by
      have := State.wantA_bounds (xs := xs) k (fun j hj => HFB.out j (by omega))
      omega)
    go_wp2_with fail
    clear c4' c5 c6
    go_loopw [5, 6] (fun v i wr => ∃ (j : Nat) (s : Int), (j : Int) ≤ 16 ∧ i = .int .i64 (16 * q + (j : Int)) ∧ v = .int .i64 s ∧ Hid (s = State.cntA xs (n - 1) (16 * q) j) ∧ Hid (Law.Held w wr [Law.rowG 68 3 (.slice a1 n c1) n (Mesh.flatC xs), Law.boxG B3 26 #[.int .i64 R, .slice a1 n c1], State.placesG gp p0 p1 p2])) (fun _ i _ => (16 * q + 16).toNat - (intOf i).toNat)
    case atStart => exact ⟨0, 0, by omega, by simp, rfl, Lib.hid rfl, HE2⟩
    case round =>
      clear HE2
      obtain ⟨j, s, hj, rfl, rfl, HS, HF⟩ := hrel
      obtain ⟨c4', c5, c6⟩ := HF.out.nth 2 rfl
      have z0 := Law.boxG.cell (HF.out.nth 1 rfl) 0
      have z1 := Law.boxG.cell (HF.out.nth 1 rfl) 1
      by_cases hlt : (j : Int) < 16
      · obtain ⟨nf, hnf⟩ : ∃ m, m = (State.actF xs (16 * q + (j : Int)) (n - 1)).length := ⟨_, rfl⟩
        have hnb : (nf : Int) ≤ 128 := by have := State.actF_len xs (16 * q + (j : Int)) (n - 1); omega
        have HAJ := Lib.hid (HAF.out (16 * q + (j : Int)))
        rw [← hnf] at HAJ
        have HNF := Lib.hid hnf
        have sb := HCB.out j (by omega)
        rw [← HS.out] at sb
        have HSN := Lib.hid (show s + (nf : Int) = State.cntA xs (n - 1) (16 * q) (j + 1) by rw [State.cntA, ← HS.out, ← hnf])
        clear hnf
        have hlt2 : 16 * q + (j : Int) < 16 * q + 16 := by omega
        go_upto_region 10 with (go_at_call 27; ((with_reducible refine (HAJ.out _ (Mesh.own_reads (HF.out.nth 0 rfl))).mono ?_); rintro e w4 ⟨ql, dl, rfl, ho, hg⟩; have HF2 := Lib.hid (HF.out.row hg ho); clear ho hg))
        clear c4' c5 c6 z0 z1 HF HAJ hlt2
        go_wp2_with fail
        go_loopw [8] (fun i wx => ∃ i_ : Nat, (i_ : Int) ≤ nf ∧ i = .int .i64 (i_ : Int) ∧ Hid (Law.Held w wx [Law.rowG 68 3 (.slice a1 n c1) n (Mesh.flatC xs), Law.boxG B3 26 #[.int .i64 R, .slice a1 n c1], State.placesG gp p0 p1 p2, Law.rowG 3 1 (.slice ql nf dl) nf (Ints.vals (State.toI (State.actF xs (16 * q + (j : Int)) (n - 1))))])) (fun i _ => nf - (intOf i).toNat)
        case atStart => exact ⟨0, by omega, rfl, HF2⟩
        case round =>
          clear HF2
          obtain ⟨ix, hi, rfl, HF⟩ := hrel
          by_cases hlt2 : (ix : Int) < nf
          · obtain ⟨f, hf⟩ : ∃ f, (State.actF xs (16 * q + (j : Int)) (n - 1))[ix]? = some f := ⟨_, List.getElem?_eq_getElem (by have := HNF.out; omega)⟩
            obtain ⟨hf1, hf2⟩ := State.actF_mem.1 (List.mem_of_getElem? hf)
            obtain ⟨gl, ol, rfl, -⟩ := (Ints.own_readsI (HF.out.nth 3 rfl)).at_ ix _ (State.toI_at hf)
            have HCE := Lib.hid (show ∀ u, Law.Held w u (Law.gsOf HF.out) → u.cell? ⟨gl, ol + ix, none⟩ = some (.int .i64 (f : Int)) from fun u hu => by
              obtain ⟨g', o', e, hc⟩ := (Ints.own_readsI (hu.nth 3 rfl)).at_ ix _ (State.toI_at hf)
              cases e
              exact hc)
            have HFL := Lib.hid (HSL.out (f : Int))
            rw [HFO.out f (by omega)] at HFL
            have HAC := Lib.hid (HIA.out (16 * q + (j : Int)) (Mesh.faceAt xs f))
            rw [hf2] at HAC
            obtain ⟨lv, hL⟩ : ∃ lv, Mesh.faceAt xs f = lv := ⟨_, rfl⟩
            rw [hL] at HFL HAC
            clear hf hf1 hf2 hL
            go_upto_region 13 with fail
            rename_i K hK
            refine Draws.wp_region_tabG (w := w) rfl (by kernel_rfl) (by kernel_rfl) State.ActADep (by kernel_rfl) [Law.rowG 68 3 (.slice a1 n c1) n (Mesh.flatC xs), Law.boxG B3 26 #[.int .i64 R, .slice a1 n c1], State.placesG gp p0 p1 p2, Law.rowG 3 1 (.slice (some ⟨gl, ol, none⟩) nf dl) nf (Ints.vals (State.toI (State.actF xs (16 * q + (j : Int)) (n - 1))))] [] (fun _ => Law.emptyG) (State.ActA R a1 n c1 gl ol nf dl B3 ix (16 * q + (j : Int)) (f : Int) lv) ?start ?step ?last
            case start => exact HF.out.on (Mesh.gr_drew (Cell.grown_refl _))
            case step =>
              clear hK
              intro L a W val G i o hI ho hL hd
              have hi : i < 9 := by have := (Array.getElem?_eq_some_iff.1 ho).1; simpa using this
              have hloc := State.ActA_local R a1 n c1 gl ol nf dl B3 ix (16 * q + (j : Int)) (f : Int) lv
              have z0 := Law.boxG.cell (hI.hd.nth 1 rfl) 0
              have z1 := Law.boxG.cell (hI.hd.nth 1 rfl) 1
              have y0 := HCE.out W hI.hd
              rcases (show i = 0 ∨ i = 1 ∨ i = 2 ∨ i = 3 ∨ i = 4 ∨ i = 5 ∨ i = 6 ∨ i = 7 ∨ i = 8 by omega) with rfl | rfl | rfl | rfl | rfl | rfl | rfl | rfl | rfl
              · obtain rfl := Option.some.inj ho
                have p6 := (hI.old 6 (by kernel_rfl) rfl).get
                refine Draws.wpOp_of (by rfl) rfl (State.wp_value (v := .int .i64 (16 * q + (j : Int))) (w' := W) ?_ (hI.same hloc hL _ _ (Cell.grown_refl _) (Draws.upd_at _ _ _)))
                simp only [execOp]
                go_simp
              · obtain rfl := Option.some.inj ho
                have p3 := (hI.old 3 (by kernel_rfl) rfl).get
                refine Draws.wpOp_of (by rfl) rfl (State.wp_value (v := .agg #[.int .i64 R, .slice a1 n c1]) (w' := W) ?_ (hI.same hloc hL _ _ (Cell.grown_refl _) (Draws.upd_at _ _ _)))
                simp only [execOp]
                go_simp
              · obtain rfl := Option.some.inj ho
                have p7 := (hI.old 7 (by kernel_rfl) rfl).get
                refine Draws.wpOp_of (by rfl) rfl (State.wp_value (v := .slice (some ⟨gl, ol, none⟩) nf dl) (w' := W) ?_ (hI.same hloc hL _ _ (Cell.grown_refl _) (Draws.upd_at _ _ _)))
                simp only [execOp]
                go_simp
              · obtain rfl := Option.some.inj ho
                have p8 := (hI.old 8 (by kernel_rfl) rfl).get
                refine Draws.wpOp_of (by rfl) rfl (State.wp_value (v := .int .i64 (ix : Int)) (w' := W) ?_ (hI.same hloc hL _ _ (Cell.grown_refl _) (Draws.upd_at _ _ _)))
                simp only [execOp]
                go_simp
              · obtain rfl := Option.some.inj ho
                have l2 := hd 2 (by simp [State.ActADep])
                have e2 := (hI.at_ 2 43 rfl l2).get
                have l3 := hd 3 (by simp [State.ActADep])
                have e3 := (hI.at_ 3 44 rfl l3).get
                rw [show val 2 = _ from hI.gd 2 l2] at e2
                rw [show val 3 = _ from hI.gd 3 l3] at e3
                refine Draws.wpOp_of (by rfl) rfl (State.wp_value (v := .pointer (some ⟨gl, (ol + ix), none⟩)) (w' := W) ?_ (hI.same hloc hL _ _ (Cell.grown_refl _) (Draws.upd_at _ _ _)))
                simp only [execOp]
                go_simp
                all_goals (intro hh; exfalso; omega)
              · obtain rfl := Option.some.inj ho
                have l4 := hd 4 (by simp [State.ActADep])
                have e4 := (hI.at_ 4 45 rfl l4).get
                rw [show val 4 = _ from hI.gd 4 l4] at e4
                refine Draws.wpOp_of (by rfl) rfl (State.wp_value (v := .int .i64 (f : Int)) (w' := W) ?_ (hI.same hloc hL _ _ (Cell.grown_refl _) (Draws.upd_at _ _ _)))
                simp only [execOp]
                go_simp
              · obtain rfl := Option.some.inj ho
                have l1 := hd 1 (by simp [State.ActADep])
                have e1 := (hI.at_ 1 42 rfl l1).get
                have l5 := hd 5 (by simp [State.ActADep])
                have e5 := (hI.at_ 5 46 rfl l5).get
                rw [show val 1 = _ from hI.gd 1 l1] at e1
                rw [show val 5 = _ from hI.gd 5 l5] at e5
                refine Draws.wpOp_of (by rfl) rfl ?_
                unfold Oper.wp
                simp only [execOp]
                go_simp
                refine Calls.mono (P := Try.prog) (HFL.out W (Mesh.own_reads (hI.hd.nth 0 rfl))) ?_
                rintro e w1 ⟨rfl, hg⟩
                exact hI.same hloc hL _ (.int .i64 lv) hg (Draws.upd_at _ _ _)
              · obtain rfl := Option.some.inj ho
                have l0 := hd 0 (by simp [State.ActADep])
                have e0 := (hI.at_ 0 41 rfl l0).get
                have l6 := hd 6 (by simp [State.ActADep])
                have e6 := (hI.at_ 6 47 rfl l6).get
                rw [show val 0 = _ from hI.gd 0 l0] at e0
                rw [show val 6 = _ from hI.gd 6 l6] at e6
                refine Draws.wpOp_of (by rfl) rfl ?_
                unfold Oper.wp
                simp only [execOp]
                go_simp
                refine Calls.mono (P := Try.prog) (HAC.out W) ?_
                rintro e w1 ⟨rfl, hg⟩
                exact hI.same hloc hL _ (.bool true) hg (Draws.upd_at _ _ _)
              · obtain rfl := Option.some.inj ho
                have l7 := hd 7 (by simp [State.ActADep])
                have e7 := (hI.at_ 7 48 rfl l7).get
                rw [show val 7 = _ from hI.gd 7 l7] at e7
                refine Draws.wpOp_of (by rfl) rfl (State.wp_value (v := .bool false) (w' := W) ?_ (hI.same hloc hL _ _ (Cell.grown_refl _) (Draws.upd_at _ _ _)))
                simp only [execOp]
                go_simp
            case last =>
              intro L_ a W val G hI hall
              have vz : val 8 = .bool false := hI.gd 8 (hall 8 (by simp))
              have HG := Lib.hid hI.hd
              have ha := hI.frame (by kernel_rfl) hall
              refine hK _ _ ?_
              clear hK hI hall HF HCE HFL HAC
              simp [Draws.frameOf, Draws.slotOf, Act.put, List.range, List.range.loop] at ha
              subst ha
              rw [vz]
              clear vz
              go_wp2_with fail
              go_roundw
              case rel => exact ⟨ix + 1, by omega, by go_num, HG⟩
              case measure => simp [intOf]; omega
          · obtain rfl : nf = ix := by omega
            go_wp2_with fail
            go_roundw
            case rel => exact ⟨j + 1, s + (nf : Int), by omega, by go_num, by go_num, HSN, Lib.hid (State.Held.some HF.out (.cons_cons _ (.cons_cons _ (.cons_cons _ (.cons _ (.refl _))))))⟩
            case measure => simp [intOf]; omega
      · obtain rfl : j = 16 := by omega
        clear hj hlt HAF
        have hq16 : ¬ (16 * q + 16 < 16 * q + 16) := by omega
        go_wp2_with fail
        clear c4' c5 c6 z0 z1
        go_loopw [9, 10] (fun v i wx => ∃ (k : Nat) (s2 : Int), (k : Int) + 1 ≤ n ∧ i = .int .i64 k ∧ v = .int .i64 s2 ∧ Hid (s2 = State.wantA xs k) ∧ Hid (Law.Held w wx [Law.rowG 68 3 (.slice a1 n c1) n (Mesh.flatC xs), Law.boxG B3 26 #[.int .i64 R, .slice a1 n c1], State.placesG gp p0 p1 p2])) (fun _ i _ => n - (intOf i).toNat)
        case atStart => exact ⟨0, 0, by omega, rfl, rfl, Lib.hid rfl, HF⟩
        case round =>
          clear HF
          obtain ⟨k, s2, hk, rfl, rfl, HS2, HF⟩ := hrel
          have z0 := Law.boxG.cell (HF.out.nth 1 rfl) 0
          have z1 := Law.boxG.cell (HF.out.nth 1 rfl) 1
          by_cases hlt : (k : Int) + 1 < n
          · have HFL := Lib.hid (HSL.out (k : Int))
            rw [HFO.out k (by omega)] at HFL
            have sb := HWB.out k (by omega)
            rw [← HS2.out] at sb
            have HSN := Lib.hid (show State.wantA xs (k + 1) = s2 + 2 ^ (Mesh.faceAt xs k).toNat by rw [State.wantA, ← HS2.out])
            obtain ⟨l0, l1⟩ := HFB.out k (by omega)
            generalize Mesh.faceAt xs k = L at *
            clear HS2
            rcases Cell.lvl l0 l1 with rfl | rfl | rfl | rfl | rfl
            all_goals
              clear l0 l1
              go_wp2_with (go_at_call 29; ((with_reducible refine (HFL.out _ (Mesh.own_reads (HF.out.nth 0 rfl))).mono ?_); rintro e w6 ⟨rfl, hg⟩; have HF2 := Lib.hid (HF.out.on hg); clear hg))
              go_roundw
              case rel => exact ⟨k + 1, _, by omega, by go_num, rfl, Lib.hid HSN.out.symm, HF2⟩
              case measure => simp [intOf]; omega
          · have hkn : k = n - 1 := by omega
            have hse : s2 = s := by rw [HS2.out, HS.out, hkn, HEQ.out]
            subst hse
            clear hkn
            have HA1 := Lib.hid (HIA.out (-16) 0)
            rw [show State.actN (-16) 0 = false by decide] at HA1
            have HA2 := Lib.hid (HIA.out 16 0)
            rw [show State.actN 16 0 = true by decide] at HA2
            go_wp2_with (first
              | (go_at_call 28; ((with_reducible refine (HA1.out _).mono ?_); rintro e w7 ⟨rfl, hg⟩; have HF7 := Lib.hid (HF.out.on hg); clear hg))
              | (go_at_call 28; ((with_reducible refine (HA2.out _).mono ?_); rintro e w8 ⟨rfl, hg⟩; have HF8 := Lib.hid (HF7.out.on hg); clear hg)))
            go_ret
            exact ⟨rfl, Cell.grown_below HF8.out.gr (Nat.le_refl _)⟩

set_option maxRecDepth 100000 in
theorem lifted (os : Os) (started : os.Started) (H : Type) (enc : TypeId × Value → H) :
    ReturnsInHanded {} Try.checked os 6 .any (Rows.fnActiveSpec.pre6 enc Try.prog Try.f6 Rows.fnActiveRow.domain false) (Rows.fnActiveSpec.post enc Try.prog Try.f6 false true false false) := by
  refine returnsInHanded_of_change (C := Try.checked) own started (by kernel_rfl) Try.func6
    (ChangeSpec.witness6 (enc := enc) (C := Try.checked) false ⟨#[], #[.slice none 0 0], []⟩ 8 (by kernel_rfl) (by kernel_rfl) (by kernel_rfl) (by kernel_rfl)) ?_
  intro W base args ds gs before hval0 hW hcnd _
  have hval : ∀ (j : Nat) t v, Try.f6.params[j]? = some t → args[j]? = some v → Value.okWide Try.prog W .any base t v := hval0
  have hW' := hW
  obtain ⟨p, q, hA0, hV, rfl, hfz, hnd⟩ := hW
  have hA : DataW.TrodAll enc Try.prog W 0 (fun _ => true) true Try.f6.params.toList args.toList ds p := hA0
  rw [Try.params6] at hA hval
  obtain ⟨v0, vs0, d0, ds0, p0, q0, hargs, rfl, rfl, h0, r0⟩ := trodAll_cons hA
  obtain ⟨rfl, rfl, rfl⟩ := trodAll_nil r0
  obtain rfl : args = #[v0] := by cases args; simp_all
  obtain ⟨rfl, rfl⟩ := trodVars_none hV
  obtain ⟨a0, len0, cap0, rfl⟩ := okWide_slice Try.underlying22 (hval 0 22 v0 rfl rfl)
  have k0 := h0
  have lt0 : ∀ x ∈ p0, x.block < W.heap.size := by obtain ⟨m, hm⟩ := k0; exact DataW.trod_lt m _ _ _ hm
  obtain ⟨z0, w0⟩ : ∃ zs, IsRow .u8 W a0 len0 cap0 zs := by
    obtain ⟨fuel, hf⟩ := h0
    rcases open_ints Try.underlying22 Try.underlying5 (by kernel_rfl) hf with ⟨hcs, _⟩ | ⟨x, l, c, zs, hcs, _, hl, hm, hz, _, hcell, hwz⟩
    · simp [Value.cells] at hcs
      obtain ⟨rfl, rfl, rfl⟩ := hcs
      exact ⟨[], .inl ⟨rfl, rfl, rfl, rfl⟩⟩
    · simp [Value.cells] at hcs
      obtain ⟨rfl, rfl, rfl⟩ := hcs
      exact ⟨zs, .inr ⟨_, rfl, hl, hm, by simpa using hz, hcell, hwz⟩⟩
  clear hA0 hval0
  refine (walk a0 len0 cap0 z0 W w0).mono fun e W' ⟨he, bel⟩ => ?_
  subst he
  exact ⟨_, rfl, _, _, _, [], _, [], hW', trodAll_mk1 (shut_bool Try.underlying4 _), (trodAll_cons_mk (Below.trod laidOut (by kernel_rfl) (of_decide_eq_true (by kernel_rfl)) k0 bel lt0) trodAll_mk0), rfl, bel.frame _, fun h => by cases h⟩

theorem over : Rows.fnActiveRow.holds Try.pinned (OpenSpec.ofChange Rows.fnActiveSpec) :=
  OpenClaim.holds_of_wide 6 Try.f6 rfl rfl rfl rfl rfl rfl rfl ⟨rfl, rfl, rfl, rfl, rfl⟩ rfl rfl rfl rfl rfl (by kernel_rfl) Try.func6 (by kernel_rfl)
    (of_decide_eq_true (by kernel_rfl)) (by unfold Func.isWrapper; first | (rw [if_pos (by decide +kernel)]; kernel_rfl) | (rw [if_neg (by decide +kernel)]; exact ⟨rfl, rfl⟩))
    (fun os started H enc _ => lifted os started H enc)

theorem proved : Rows.FnActiveSaid := over
#print axioms proved
end Go.Proofs.Ytnaofcbbdlhjpaa.fnActive
