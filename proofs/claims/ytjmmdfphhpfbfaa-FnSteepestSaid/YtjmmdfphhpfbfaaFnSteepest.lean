/- Proved: for every slice of bytes the law FnSteepest returns true: of the faces of a drawn state the answer is steepest, and the first of those that are as steep; a state of one leaf has none.
   Conditions: none besides those that the given row prints. -/
import Derived.Test.YtjmmdfphhpfbfaaRows
import Derived.WalkKit
import Derived.ProofKit
import Derived.OpenShut
import Derived.ShutString
import Derived.Test.YtjmmdfphhpfbfaaStDrawL
import Derived.Test.YtjmmdfphhpfbfaaStFluxB
import Derived.ChangeOld
import Derived.Below
set_option maxRecDepth 100000
namespace Go.Proofs.Ytjmmdfphhpfbfaa.fnSteepest
open Go.ChangeShapes Go.WideShapes Go.ChangeAt Go.RowKit
open Go.ChangeMaps (open_string shut_string)
set_option linter.unusedVariables false

theorem own : ownKnob Try.prog.godebug = none := by kernel_rfl
theorem laidOut : laidOutB Try.prog = true := by kernel_rfl

def IsRow (k : IntKind) (w : World) (a : Option Addr) (len cap : Nat) (zs : List Int) : Prop :=
  (a = none ∧ len = 0 ∧ cap = 0 ∧ zs = []) ∨
  ∃ x, a = some x ∧ len ≤ cap ∧ cap ≤ maxLen ∧ zs.length = cap ∧ (∀ i, i < zs.length → w.cell? (x.add i) = some (.int k (zs.getD i 0))) ∧ ∀ n ∈ zs, (Lit.int k n).wf = true

set_option maxHeartbeats 16000000 in
theorem walk (a0 : Option Addr) (len0 cap0 : Nat) (z0 : List Int) (w : World) (w0 : IsRow .u8 w a0 len0 cap0 z0) :
    Calls Try.prog 4 #[.slice a0 len0 cap0] w fun e w' => e = .returned (.bool true) ∧ Below w.heap.size w w' := by
  have hb := Draw.bytes_of w0
  have HB := Lib.hid hb; clear hb
  clear w0
  by_cases hlen : 1048576 < len0
  · have hd : decide (1048576 < (len0 : Int)) = true := by simp; omega
    go_enter Try.func4, Try.ntmps4
    go_wp2_with fail
    refine Draw.big_any.mono ?_; rintro e w1 ⟨rfl, rfl⟩
    rw [hd]
    go_wp2_with fail
    go_ret
    exact ⟨rfl, Below.refl _ _⟩
  · have hd : decide (1048576 < (len0 : Int)) = false := by simp; omega
    have hlen' : len0 ≤ 1048576 := by omega
    have HLen := Lib.hid hlen'; clear hlen'
    go_enter Try.func4, Try.ntmps4
    go_wp2_with fail
    refine Draw.big_any.mono ?_; rintro e w1 ⟨rfl, rfl⟩
    rw [hd]
    clear hd hlen
    go_wp2_with fail
    refine (State.drawState_is HLen.out HB.out (Nat.le_refl _)).mono ?_
    rintro e w1 ⟨R, n1, n2, xs, ms, ts, bs, x1, c1, x2, c2, x3, c3, x4, c4, rfl, hd, ho, hg⟩
    have hs := hd.ok
    have hn := hd.leaves
    have hl := hd.l1
    obtain ⟨p, rfl⟩ : ∃ p, n1 = p + 1 := ⟨n1 - 1, by omega⟩
    have hpi : (p : Int) ≤ 127 := by omega
    have hn2 : n2 ≤ 1048576 := by
      have q := (show (bs.length : Int) = R ∧ R ≤ 8 from by
        obtain ⟨p1, ⟨-, -, p4⟩, -⟩ := State.stOk_parts hs
        have hm : Mesh.meshOk R xs = true := by unfold Mesh.balanced at p1; simp only [Bool.and_eq_true] at p1; exact p1.1
        exact ⟨p4, (of_decide_eq_true hm).2.1⟩)
      have q2 := hd.l2
      omega
    have H1 : Hid (p + 1 ≤ 1048576) := Lib.hid (by omega)
    have H2 := Lib.hid hn2
    have HS := Lib.hid hs; have HXL := Lib.hid hl
    have HE1 := Lib.hid ((State.Held.state (Law.Held.nil w) hg ho).box 29 #[.int .i64 R, .slice x1 (p + 1) c1, .slice x2 (p + 1) c2, .slice x3 (p + 1) c3, .slice x4 n2 c4])
    clear ho hg hd hs hn hl hn2 HB HLen
    go_upto_region 4 with fail
    obtain ⟨B3, hB3⟩ : ∃ B, B = w1.heap.size := ⟨_, rfl⟩
    rw [← hB3] at HE1 ⊢
    clear hB3
    generalize w1.alloc (.cells #[.int .i64 R, .slice x1 (p + 1) c1, .slice x2 (p + 1) c2, .slice x3 (p + 1) c3, .slice x4 n2 c4] 29) = W1 at *
    have HST := Lib.hid fun (u : World) (h : State.ReadsS u x1 x2 x3 x4 (p + 1) (p + 1) (p + 1) n2 xs ms ts bs) => (show Calls Try.prog 14 #[.agg #[.int .i64 R, .slice x1 (p + 1) c1, .slice x2 (p + 1) c2, .slice x3 (p + 1) c3, .slice x4 n2 c4]] u (fun e w' => e = .returned (.int .i64 (State.steep xs ms bs p).1) ∧ u.grownBy w' none) from by
      have q := State.steepest_is R x1 x2 x3 x4 (p + 1) (p + 1) (p + 1) n2 c1 c2 c3 c4 xs ms ts bs u h H1.out H1.out H1.out H2.out
      unfold State.steepG at q
      rw [if_pos HS.out, HXL.out, Nat.add_sub_cancel] at q
      exact q)
    obtain ⟨z0, z1, z2, z3, z4⟩ := Law.box5 (HE1.out.nth 1 rfl)
    by_cases hp0 : (p : Int) = 0
    · have HAF := Lib.hid fun (u : World) (h : State.ReadsS u x1 x2 x3 x4 (p + 1) (p + 1) (p + 1) n2 xs ms ts bs) => (show Calls Try.prog 11 #[.agg #[.int .i64 R, .slice x1 (p + 1) c1, .slice x2 (p + 1) c2, .slice x3 (p + 1) c3, .slice x4 n2 c4]] u (fun e w' => ∃ (q : Option Addr) (d : Nat), e = .returned (.slice q p d) ∧ u.grownBy w' none) from by
        refine (State.allFluxes_is R x1 x2 x3 x4 (p + 1) (p + 1) (p + 1) n2 c1 c2 c3 c4 xs ms ts bs u h H1.out H1.out H1.out H2.out).mono ?_
        rintro e w' ⟨q, d, rfl, -, hg⟩
        have hm : (State.fluxesG R xs ms ts bs).length = p := by unfold State.fluxesG; rw [if_pos HS.out, State.fluxes_len, HXL.out]; rfl
        rw [hm]
        exact ⟨q, d, rfl, hg⟩)
      have hk : (State.steep xs ms bs p).1 = -1 := by
        have e : p = 0 := by omega
        rw [e]; rfl
      rw [hk] at HST
      clear hk
      go_wp2_with (first
        | (go_at_call 14; ((with_reducible refine (HST.out _ (State.OwnS.reads (HE1.out.nth 0 rfl))).mono ?_); rintro e w2 ⟨rfl, hg⟩; have HE2 := Lib.hid (HE1.out.on hg); obtain ⟨y0, y1, y2, y3, y4⟩ := Law.box5 (HE2.out.nth 1 rfl); clear hg))
        | (go_at_call 11; ((with_reducible refine (HAF.out _ (State.OwnS.reads (HE2.out.nth 0 rfl))).mono ?_); rintro e w3 ⟨q, d, rfl, hg⟩; have HE3 := Lib.hid (HE2.out.on hg); clear hg)))
      go_ret
      exact ⟨rfl, Cell.grown_below HE3.out.gr (Nat.le_refl _)⟩
    · obtain ⟨b, hb, hbp, hmax⟩ := State.steep_is xs ms bs p (by omega)
      rw [hb] at HST
      have HSU := Lib.hid fun (k : Nat) (hk : k < p + 1) (u : World) (h : State.ReadsS u x1 x2 x3 x4 (p + 1) (p + 1) (p + 1) n2 xs ms ts bs) => (show Calls Try.prog 15 #[.agg #[.int .i64 R, .slice x1 (p + 1) c1, .slice x2 (p + 1) c2, .slice x3 (p + 1) c3, .slice x4 n2 c4], .int .i64 ((k : Int))] u (fun e w' => e = .returned (.int .i64 (State.surf xs ms bs (k))) ∧ u.grownBy w' none) from by
        have q := State.specSurfaceOf_is R x1 x2 x3 x4 (p + 1) (p + 1) (p + 1) n2 c1 c2 c3 c4 xs ms ts bs u h H1.out H1.out H1.out H2.out (k : Int) (by omega)
        unfold State.surfG at q
        rw [if_pos ⟨HS.out, by omega, by rw [HXL.out]; omega⟩, Int.toNat_natCast] at q
        exact q)
      have hbi : (b : Int) < p := by omega
      have HA := Lib.hid fun (u : World) (h : State.ReadsS u x1 x2 x3 x4 (p + 1) (p + 1) (p + 1) n2 xs ms ts bs) => HSU.out b (by omega) u h
      have hB : ∀ (u : World), State.ReadsS u x1 x2 x3 x4 (p + 1) (p + 1) (p + 1) n2 xs ms ts bs → Calls Try.prog 15 #[.agg #[.int .i64 R, .slice x1 (p + 1) c1, .slice x2 (p + 1) c2, .slice x3 (p + 1) c3, .slice x4 n2 c4], .int .i64 ((b : Int) + 1)] u (fun e w' => e = .returned (.int .i64 (State.surf xs ms bs (b + 1))) ∧ u.grownBy w' none) := fun u h => HSU.out (b + 1) (by omega) u h
      have HB := Lib.hid hB
      have HMX := Lib.hid hmax
      obtain ⟨D, hD⟩ : ∃ D, State.gapF xs ms bs b = D := ⟨_, rfl⟩
      obtain ⟨s0, s1, -⟩ := State.leaf_bounds HS.out (k := b) (by rw [HXL.out]; omega)
      obtain ⟨r0, r1, -⟩ := State.leaf_bounds HS.out (k := b + 1) (by rw [HXL.out]; omega)
      have hD2 : max (State.surf xs ms bs b - State.surf xs ms bs (b + 1)) (-(State.surf xs ms bs b - State.surf xs ms bs (b + 1))) = D := hD
      have HDG := Lib.hid hD
      clear hB hmax hb hD hbp
      have e1 : IntKind.i64.wrap ((b : Int) + 1) = (b : Int) + 1 := IntWalk.i64_in _ (by omega)
      have hpb : ¬ p ≤ b := by omega
      have hb0 : ¬ (b : Int) < 0 := by omega
      go_upto_region 9 with (go_at_call 14; ((with_reducible refine (HST.out _ (State.OwnS.reads (HE1.out.nth 0 rfl))).mono ?_); rintro e w2 ⟨rfl, hg⟩; have HE2 := Lib.hid (HE1.out.on hg); obtain ⟨y0, y1, y2, y3, y4⟩ := Law.box5 (HE2.out.nth 1 rfl); clear hg))
      clear z0 z1 z2 z3 z4 y0 y1 y2 y3 y4 HE1 HST
      generalize State.surf xs ms bs b = s at *
      generalize State.surf xs ms bs (b + 1) = t at *
      obtain ⟨dr, hdr⟩ : ∃ dr, s - t = dr := ⟨_, rfl⟩
      rw [hdr] at hD2
      have g0 : -161000000 ≤ dr ∧ dr ≤ 161000000 := by omega
      go_cut [5] from 36 to 43 (fun v wx => v = .int .i64 dr ∧ Hid (Law.Held w wx (Law.gsOf HE2.out)))
      case first =>
        have HD := Lib.hid (Cell.grown_refl w2)
        obtain ⟨z0, z1, z2, z3, z4⟩ := Law.box5 (HE2.out.nth 1 rfl)
        go_region_with (first
          | (go_at_call 15; ((with_reducible refine (HA.out _ (State.OwnS.reads ((HE2.out.on (by first | exact Mesh.gr_drew HD.out | exact HD.out)).nth 0 rfl))).mono ?_); rintro e u1 ⟨rfl, hgc⟩; have hgd := Cell.grown_trans (by first | exact Mesh.gr_drew HD.out | exact HD.out) hgc; obtain ⟨q0, q1, q2, q3, q4⟩ := Law.box5 ((HE2.out.on hgd).nth 1 rfl); clear HD; have HD := Lib.hid hgd; clear hgd hgc))
          | (go_at_call 15; ((with_reducible refine (HB.out _ (State.OwnS.reads ((HE2.out.on (by first | exact Mesh.gr_drew HD.out | exact HD.out)).nth 0 rfl))).mono ?_); rintro e u2 ⟨rfl, hgc⟩; have hgd := Cell.grown_trans (by first | exact Mesh.gr_drew HD.out | exact HD.out) hgc; obtain ⟨v0, v1, v2, v3, v4⟩ := Law.box5 ((HE2.out.on hgd).nth 1 rfl); clear HD; have HD := Lib.hid hgd; clear hgd hgc)))
        all_goals
          go_wp2_with fail
          go_meet
          exact ⟨congrArg (Value.int IntKind.i64) (by first | exact hdr | exact IntWalk.i64_in _ (by omega)), Lib.hid (HE2.out.on (by first | exact Mesh.gr_drew HD.out | exact HD.out))⟩
      case rest =>
        obtain ⟨rfl, HE3⟩ := hcut
        dsimp only [Law.gsOf] at HE3
        clear HE2 HA HB hdr s0 s1 r0 r1
        go_upto_region 11 with fail
        rw [Mesh.max_if, hD2]
        have hDb : 0 ≤ D ∧ D ≤ 161000000 := by omega
        clear hD2 g0
        go_wp2_with fail
        go_loopw [6] (fun i wr => ∃ k : Nat, (k : Int) ≤ p ∧ i = .int .i64 k ∧ Hid (Law.Held w wr [State.stateG (.slice x1 (p + 1) c1) (.slice x2 (p + 1) c2) (.slice x3 (p + 1) c3) (.slice x4 n2 c4) (p + 1) (p + 1) (p + 1) n2 xs ms ts bs, Law.boxG B3 29 #[.int .i64 R, .slice x1 (p + 1) c1, .slice x2 (p + 1) c2, .slice x3 (p + 1) c3, .slice x4 n2 c4]])) (fun i _ => p - (intOf i).toNat)
        case atStart => exact ⟨0, by omega, rfl, HE3⟩
        case round =>
          clear HE3
          obtain ⟨k, hk, rfl, HF⟩ := hrel
          obtain ⟨z0, z1, z2, z3, z4⟩ := Law.box5 (HF.out.nth 1 rfl)
          by_cases hlt : (k : Int) < p
          · have HA := Lib.hid fun (u : World) (h : State.ReadsS u x1 x2 x3 x4 (p + 1) (p + 1) (p + 1) n2 xs ms ts bs) => HSU.out k (by omega) u h
            have hB : ∀ (u : World), State.ReadsS u x1 x2 x3 x4 (p + 1) (p + 1) (p + 1) n2 xs ms ts bs → Calls Try.prog 15 #[.agg #[.int .i64 R, .slice x1 (p + 1) c1, .slice x2 (p + 1) c2, .slice x3 (p + 1) c3, .slice x4 n2 c4], .int .i64 ((k : Int) + 1)] u (fun e w' => e = .returned (.int .i64 (State.surf xs ms bs (k + 1))) ∧ u.grownBy w' none) := fun u h => HSU.out (k + 1) (by omega) u h
            have HB := Lib.hid hB
            obtain ⟨E, hE⟩ : ∃ E, State.gapF xs ms bs k = E := ⟨_, rfl⟩
            obtain ⟨m0, m1⟩ := HMX.out k (by omega)
            rw [HDG.out, hE] at m0 m1
            obtain ⟨s0, s1, -⟩ := State.leaf_bounds HS.out (k := k) (by rw [HXL.out]; omega)
            obtain ⟨r0, r1, -⟩ := State.leaf_bounds HS.out (k := k + 1) (by rw [HXL.out]; omega)
            have hE2 : max (State.surf xs ms bs k - State.surf xs ms bs (k + 1)) (-(State.surf xs ms bs k - State.surf xs ms bs (k + 1))) = E := hE
            clear hB hE
            generalize State.surf xs ms bs k = s at *
            generalize State.surf xs ms bs (k + 1) = t at *
            obtain ⟨dr, hdr⟩ : ∃ dr, s - t = dr := ⟨_, rfl⟩
            rw [hdr] at hE2
            have g0 : -161000000 ≤ dr ∧ dr ≤ 161000000 := by omega
            have e2 : IntKind.i64.wrap ((k : Int) + 1) = (k : Int) + 1 := IntWalk.i64_in _ (by omega)
            go_upto_region 14 with fail
            clear z0 z1 z2 z3 z4
            go_cut [7] from 48 to 80 (fun v wx => v = .int .i64 dr ∧ Hid (Law.Held w wx (Law.gsOf HF.out)))
            case first =>
              have HD := Lib.hid (Cell.grown_refl wr)
              obtain ⟨z0, z1, z2, z3, z4⟩ := Law.box5 (HF.out.nth 1 rfl)
              go_region_with (first
                | (go_at_call 15; ((with_reducible refine (HA.out _ (State.OwnS.reads ((HF.out.on (by first | exact Mesh.gr_drew HD.out | exact HD.out)).nth 0 rfl))).mono ?_); rintro e u1 ⟨rfl, hgc⟩; have hgd := Cell.grown_trans (by first | exact Mesh.gr_drew HD.out | exact HD.out) hgc; obtain ⟨q0, q1, q2, q3, q4⟩ := Law.box5 ((HF.out.on hgd).nth 1 rfl); clear HD; have HD := Lib.hid hgd; clear hgd hgc))
                | (go_at_call 15; ((with_reducible refine (HB.out _ (State.OwnS.reads ((HF.out.on (by first | exact Mesh.gr_drew HD.out | exact HD.out)).nth 0 rfl))).mono ?_); rintro e u2 ⟨rfl, hgc⟩; have hgd := Cell.grown_trans (by first | exact Mesh.gr_drew HD.out | exact HD.out) hgc; obtain ⟨v0, v1, v2, v3, v4⟩ := Law.box5 ((HF.out.on hgd).nth 1 rfl); clear HD; have HD := Lib.hid hgd; clear hgd hgc)))
              all_goals
                go_wp2_with fail
                go_meet
                exact ⟨congrArg (Value.int IntKind.i64) (by first | exact hdr | exact IntWalk.i64_in _ (by omega)), Lib.hid (HF.out.on (by first | exact Mesh.gr_drew HD.out | exact HD.out))⟩
            case rest =>
              obtain ⟨rfl, HF3⟩ := hcut
              dsimp only [Law.gsOf] at HF3
              clear HF HA HB hdr s0 s1 r0 r1
              go_upto_region 16 with fail
              rw [Mesh.max_if, hE2]
              have hEb : 0 ≤ E ∧ E ≤ 161000000 := by omega
              clear hE2 g0
              by_cases hED : E = D
              · have hbk := m1 hED
                have hbk' : (b : Int) ≤ k := by omega
                subst hED
                clear m0 m1 hbk
                go_wp2_with fail
                go_roundw
                case rel => exact ⟨k + 1, by omega, by go_num, HF3⟩
                case measure => simp [intOf]; omega
              · clear m1
                go_wp2_with fail
                go_roundw
                case rel => exact ⟨k + 1, by omega, by go_num, HF3⟩
                case measure => simp [intOf]; omega
          · obtain rfl : p = k := by omega
            go_wp2_with fail
            go_ret
            exact ⟨rfl, Cell.grown_below HF.out.gr (Nat.le_refl _)⟩

set_option maxRecDepth 100000 in
theorem lifted (os : Os) (started : os.Started) (H : Type) (enc : TypeId × Value → H) :
    ReturnsInHanded {} Try.checked os 4 .any (Rows.fnSteepestSpec.pre6 enc Try.prog Try.f4 Rows.fnSteepestRow.domain false) (Rows.fnSteepestSpec.post enc Try.prog Try.f4 false true false false) := by
  refine returnsInHanded_of_change (C := Try.checked) own started (by kernel_rfl) Try.func4
    (ChangeSpec.witness6 (enc := enc) (C := Try.checked) false ⟨#[], #[.slice none 0 0], []⟩ 8 (by kernel_rfl) (by kernel_rfl) (by kernel_rfl) (by kernel_rfl)) ?_
  intro W base args ds gs before hval0 hW hcnd _
  have hval : ∀ (j : Nat) t v, Try.f4.params[j]? = some t → args[j]? = some v → Value.okWide Try.prog W .any base t v := hval0
  have hW' := hW
  obtain ⟨p, q, hA0, hV, rfl, hfz, hnd⟩ := hW
  have hA : DataW.TrodAll enc Try.prog W 0 (fun _ => true) true Try.f4.params.toList args.toList ds p := hA0
  rw [Try.params4] at hA hval
  obtain ⟨v0, vs0, d0, ds0, p0, q0, hargs, rfl, rfl, h0, r0⟩ := trodAll_cons hA
  obtain ⟨rfl, rfl, rfl⟩ := trodAll_nil r0
  obtain rfl : args = #[v0] := by cases args; simp_all
  obtain ⟨rfl, rfl⟩ := trodVars_none hV
  obtain ⟨a0, len0, cap0, rfl⟩ := okWide_slice Try.underlying22 (hval 0 22 v0 rfl rfl)
  have k0 := h0
  have lt0 : ∀ x ∈ p0, x.block < W.heap.size := by obtain ⟨m, hm⟩ := k0; exact DataW.trod_lt m _ _ _ hm
  obtain ⟨z0, w0⟩ : ∃ zs, IsRow .u8 W a0 len0 cap0 zs := by
    obtain ⟨fuel, hf⟩ := h0
    rcases open_ints Try.underlying22 Try.underlying5 (by kernel_rfl) hf with ⟨hcs, _⟩ | ⟨x, l, c, zs, hcs, _, hl, hm, hz, _, hcell, hwz⟩
    · simp [Value.cells] at hcs
      obtain ⟨rfl, rfl, rfl⟩ := hcs
      exact ⟨[], .inl ⟨rfl, rfl, rfl, rfl⟩⟩
    · simp [Value.cells] at hcs
      obtain ⟨rfl, rfl, rfl⟩ := hcs
      exact ⟨zs, .inr ⟨_, rfl, hl, hm, by simpa using hz, hcell, hwz⟩⟩
  clear hA0 hval0
  refine (walk a0 len0 cap0 z0 W w0).mono fun e W' ⟨he, bel⟩ => ?_
  subst he
  exact ⟨_, rfl, _, _, _, [], _, [], hW', trodAll_mk1 (shut_bool Try.underlying4 _), (trodAll_cons_mk (Below.trod laidOut (by kernel_rfl) (of_decide_eq_true (by kernel_rfl)) k0 bel lt0) trodAll_mk0), rfl, bel.frame _, fun h => by cases h⟩

theorem over : Rows.fnSteepestRow.holds Try.pinned (OpenSpec.ofChange Rows.fnSteepestSpec) :=
  OpenClaim.holds_of_wide 4 Try.f4 rfl rfl rfl rfl rfl rfl rfl ⟨rfl, rfl, rfl, rfl, rfl⟩ rfl rfl rfl rfl rfl (by kernel_rfl) Try.func4 (by kernel_rfl)
    (of_decide_eq_true (by kernel_rfl)) (by unfold Func.isWrapper; first | (rw [if_pos (by decide +kernel)]; kernel_rfl) | (rw [if_neg (by decide +kernel)]; exact ⟨rfl, rfl⟩))
    (fun os started H enc _ => lifted os started H enc)

theorem proved : Rows.FnSteepestSaid := over
#print axioms proved
end Go.Proofs.Ytjmmdfphhpfbfaa.fnSteepest
