/- Proved: for every slice of bytes the law FnFluxes returns true: the fluxes of a drawn state are those of its faces, one each; none takes more than a quarter of the mass of the leaf that it leaves, and none runs up against the surfaces; behind the last leaf there is no surface.
   Conditions: none besides those that the given row prints. -/
import Derived.Test.YtjmmdfphhpfbfaaRows
import Derived.WalkKit
import Derived.ProofKit
import Derived.OpenShut
import Derived.ShutString
import Derived.Test.YtjmmdfphhpfbfaaStDrawL
import Derived.Test.YtjmmdfphhpfbfaaStFluxB
import Derived.ChangeOld
import Derived.Below
set_option maxRecDepth 100000
namespace Go.Proofs.Ytjmmdfphhpfbfaa.fnFluxes
open Go.ChangeShapes Go.WideShapes Go.ChangeAt Go.RowKit
open Go.ChangeMaps (open_string shut_string)
set_option linter.unusedVariables false

theorem own : ownKnob Try.prog.godebug = none := by kernel_rfl
theorem laidOut : laidOutB Try.prog = true := by kernel_rfl

def IsRow (k : IntKind) (w : World) (a : Option Addr) (len cap : Nat) (zs : List Int) : Prop :=
  (a = none ∧ len = 0 ∧ cap = 0 ∧ zs = []) ∨
  ∃ x, a = some x ∧ len ≤ cap ∧ cap ≤ maxLen ∧ zs.length = cap ∧ (∀ i, i < zs.length → w.cell? (x.add i) = some (.int k (zs.getD i 0))) ∧ ∀ n ∈ zs, (Lit.int k n).wf = true

set_option maxHeartbeats 16000000 in
theorem walk (a0 : Option Addr) (len0 cap0 : Nat) (z0 : List Int) (w : World) (w0 : IsRow .u8 w a0 len0 cap0 z0) :
    Calls Try.prog 3 #[.slice a0 len0 cap0] w fun e w' => e = .returned (.bool true) ∧ Below w.heap.size w w' := by
  have hb := Draw.bytes_of w0
  have HB := Lib.hid hb; clear hb
  clear w0
  by_cases hlen : 1048576 < len0
  · have hd : decide (1048576 < (len0 : Int)) = true := by simp; omega
    go_enter Try.func3, Try.ntmps3
    go_wp2_with fail
    refine Draw.big_any.mono ?_; rintro e w1 ⟨rfl, rfl⟩
    rw [hd]
    go_wp2_with fail
    go_ret
    exact ⟨rfl, Below.refl _ _⟩
  · have hd : decide (1048576 < (len0 : Int)) = false := by simp; omega
    have hlen' : len0 ≤ 1048576 := by omega
    have HLen := Lib.hid hlen'; clear hlen'
    go_enter Try.func3, Try.ntmps3
    go_wp2_with fail
    refine Draw.big_any.mono ?_; rintro e w1 ⟨rfl, rfl⟩
    rw [hd]
    clear hd hlen
    go_wp2_with fail
    refine (State.drawState_is HLen.out HB.out (Nat.le_refl _)).mono ?_
    rintro e w1 ⟨R, n1, n2, xs, ms, ts, bs, x1, c1, x2, c2, x3, c3, x4, c4, rfl, hd, ho, hg⟩
    have hs := hd.ok
    have hn := hd.leaves
    have hl := hd.l1
    obtain ⟨p, rfl⟩ : ∃ p, n1 = p + 1 := ⟨n1 - 1, by omega⟩
    have hpi : (p : Int) ≤ 127 := by omega
    have hn2 : n2 ≤ 1048576 := by
      have q := (show (bs.length : Int) = R ∧ R ≤ 8 from by
        obtain ⟨p1, ⟨-, -, p4⟩, -⟩ := State.stOk_parts hs
        have hm : Mesh.meshOk R xs = true := by unfold Mesh.balanced at p1; simp only [Bool.and_eq_true] at p1; exact p1.1
        exact ⟨p4, (of_decide_eq_true hm).2.1⟩)
      have q2 := hd.l2
      omega
    have H1 : Hid (p + 1 ≤ 1048576) := Lib.hid (by omega)
    have H2 := Lib.hid hn2
    have HS := Lib.hid hs; have HXL := Lib.hid hl
    have HE1 := Lib.hid ((State.Held.state (Law.Held.nil w) hg ho).box 29 #[.int .i64 R, .slice x1 (p + 1) c1, .slice x2 (p + 1) c2, .slice x3 (p + 1) c3, .slice x4 n2 c4])
    clear ho hg hd hs hn hl hn2 HB HLen
    go_upto_region 4 with fail
    obtain ⟨B3, hB3⟩ : ∃ B, B = w1.heap.size := ⟨_, rfl⟩
    rw [← hB3] at HE1 ⊢
    clear hB3
    generalize w1.alloc (.cells #[.int .i64 R, .slice x1 (p + 1) c1, .slice x2 (p + 1) c2, .slice x3 (p + 1) c3, .slice x4 n2 c4] 29) = W1 at *
    have HAF := Lib.hid fun (u : World) (h : State.ReadsS u x1 x2 x3 x4 (p + 1) (p + 1) (p + 1) n2 xs ms ts bs) => State.allFluxes_is R x1 x2 x3 x4 (p + 1) (p + 1) (p + 1) n2 c1 c2 c3 c4 xs ms ts bs u h H1.out H1.out H1.out H2.out
    have hfl : State.fluxesG R xs ms ts bs = State.fluxes xs ms bs := if_pos HS.out
    rw [hfl] at HAF
    have hfm : (State.fluxes xs ms bs).length = p := by rw [State.fluxes_len, HXL.out]; rfl
    have HFM := Lib.hid hfm
    have HAF2 := Lib.hid fun (u : World) (h : State.ReadsS u x1 x2 x3 x4 (p + 1) (p + 1) (p + 1) n2 xs ms ts bs) => (show Calls Try.prog 11 #[.agg #[.int .i64 R, .slice x1 (p + 1) c1, .slice x2 (p + 1) c2, .slice x3 (p + 1) c3, .slice x4 n2 c4]] u (fun e w' => ∃ (q : Option Addr) (d : Nat), e = .returned (.slice q p d) ∧ w'.ownsRow u.heap.size 3 1 (.slice q p d) p (Ints.vals (State.fluxes xs ms bs)) ∧ u.grownBy w' none) from by
      have q := HAF.out u h
      unfold State.GivesI at q
      rw [hfm] at q
      exact q)
    clear hfl hfm HAF
    have HSU := Lib.hid fun (k : Nat) (hk : k < p + 1) (u : World) (h : State.ReadsS u x1 x2 x3 x4 (p + 1) (p + 1) (p + 1) n2 xs ms ts bs) => (show Calls Try.prog 12 #[.agg #[.int .i64 R, .slice x1 (p + 1) c1, .slice x2 (p + 1) c2, .slice x3 (p + 1) c3, .slice x4 n2 c4], .int .i64 (k : Int)] u (fun e w' => e = .returned (.int .i64 (State.surf xs ms bs k)) ∧ u.grownBy w' none) from by
      have q := State.surfaceOf_is R x1 x2 x3 x4 (p + 1) (p + 1) (p + 1) n2 c1 c2 c3 c4 xs ms ts bs (k : Int) u h H1.out H1.out H1.out H2.out (by omega)
      unfold State.surfG at q
      rw [if_pos ⟨HS.out, by omega, by rw [HXL.out]; omega⟩, Int.toNat_natCast] at q
      exact q)
    have HSZ := Lib.hid fun (u : World) (h : State.ReadsS u x1 x2 x3 x4 (p + 1) (p + 1) (p + 1) n2 xs ms ts bs) => (show Calls Try.prog 12 #[.agg #[.int .i64 R, .slice x1 (p + 1) c1, .slice x2 (p + 1) c2, .slice x3 (p + 1) c3, .slice x4 n2 c4], .int .i64 ((p : Int) + 1)] u (fun e w' => e = .returned (.int .i64 0) ∧ u.grownBy w' none) from by
      have q := State.surfaceOf_is R x1 x2 x3 x4 (p + 1) (p + 1) (p + 1) n2 c1 c2 c3 c4 xs ms ts bs ((p : Int) + 1) u h H1.out H1.out H1.out H2.out (by omega)
      unfold State.surfG at q
      rw [if_neg (fun hh => by have := hh.2.2; rw [HXL.out] at this; omega)] at q
      exact q)
    have HFF := Lib.hid fun (k : Nat) (hk : k < p) (u : World) (h : State.ReadsS u x1 x2 x3 x4 (p + 1) (p + 1) (p + 1) n2 xs ms ts bs) => (show Calls Try.prog 13 #[.agg #[.int .i64 R, .slice x1 (p + 1) c1, .slice x2 (p + 1) c2, .slice x3 (p + 1) c3, .slice x4 n2 c4], .int .i64 (k : Int)] u (fun e w' => e = .returned (.int .i64 (State.fluxAt xs ms bs k)) ∧ u.grownBy w' none) from by
      have q := State.faceFlux_is R x1 x2 x3 x4 (p + 1) (p + 1) (p + 1) n2 c1 c2 c3 c4 xs ms ts bs (k : Int) u h H1.out H1.out H1.out H2.out (by omega)
      unfold State.faceG at q
      rw [if_pos ⟨HS.out, by omega, by rw [HXL.out]; omega⟩, Int.toNat_natCast] at q
      exact q)
    obtain ⟨z0, z1, z2, z3, z4⟩ := Law.box5 (HE1.out.nth 1 rfl)
    go_upto_region 5 with (go_at_call 11; ((with_reducible refine (HAF2.out _ (State.OwnS.reads (HE1.out.nth 0 rfl))).mono ?_); rintro e w2 ⟨q, d, rfl, ho, hg⟩; have HE2 := Lib.hid (HE1.out.row hg ho); clear ho hg))
    clear z0 z1 z2 z3 z4 HE1 HAF2
    obtain ⟨z0, z1, z2, z3, z4⟩ := Law.box5 (HE2.out.nth 1 rfl)
    go_wp2_with fail
    clear z0 z1 z2 z3 z4
    go_loopw [5] (fun i wr => ∃ k : Nat, (k : Int) ≤ p ∧ i = .int .i64 k ∧ Hid (Law.Held w wr [State.stateG (.slice x1 (p + 1) c1) (.slice x2 (p + 1) c2) (.slice x3 (p + 1) c3) (.slice x4 n2 c4) (p + 1) (p + 1) (p + 1) n2 xs ms ts bs, Law.boxG B3 29 #[.int .i64 R, .slice x1 (p + 1) c1, .slice x2 (p + 1) c2, .slice x3 (p + 1) c3, .slice x4 n2 c4], Law.rowG 3 1 (.slice q p d) p (Ints.vals (State.fluxes xs ms bs))])) (fun i _ => p - (intOf i).toNat)
    case atStart => exact ⟨0, by omega, rfl, HE2⟩
    case round =>
      clear HE2
      obtain ⟨k, hk, rfl, HF⟩ := hrel
      obtain ⟨z0, z1, z2, z3, z4⟩ := Law.box5 (HF.out.nth 1 rfl)
      by_cases hlt : (k : Int) < p
      · have HK := Lib.hid (show k < p by omega)
        have HA := Lib.hid (HSU.out k (by omega))
        have hB : ∀ (u : World), State.ReadsS u x1 x2 x3 x4 (p + 1) (p + 1) (p + 1) n2 xs ms ts bs → Calls Try.prog 12 #[.agg #[.int .i64 R, .slice x1 (p + 1) c1, .slice x2 (p + 1) c2, .slice x3 (p + 1) c3, .slice x4 n2 c4], .int .i64 ((k : Int) + 1)] u (fun e w' => e = .returned (.int .i64 (State.surf xs ms bs (k + 1))) ∧ u.grownBy w' none) := fun u h => HSU.out (k + 1) (by omega) u h
        have HB2 := Lib.hid hB
        have HFX := Lib.hid (HFF.out k HK.out)
        obtain ⟨f0, f1, f2, f3⟩ := State.flux_facts HS.out (k := k) (by rw [HXL.out]; omega)
        obtain ⟨s0, s1, m0, m1, -⟩ := State.leaf_bounds HS.out (k := k) (by rw [HXL.out]; omega)
        obtain ⟨r0, r1, n0, n1', -⟩ := State.leaf_bounds HS.out (k := k + 1) (by rw [HXL.out]; omega)
        have hfx := State.fluxes_at (xs := xs) (ms := ms) (bs := bs) (k := k) (by rw [HXL.out]; omega)
        obtain ⟨rn, l, i, m, b, -, hm, -, -, -, -, -, -, -, -, -, -, em⟩ := State.leaf_at HS.out (k := k) (by rw [HXL.out]; omega)
        obtain ⟨rn', l', i', m', b', -, hm', -, -, -, -, -, -, -, -, -, -, em'⟩ := State.leaf_at HS.out (k := k + 1) (by rw [HXL.out]; omega)
        rw [em] at f0 m0 m1
        rw [em'] at f1 n0 n1'
        clear em em' hB
        generalize State.surf xs ms bs k = s at *
        generalize State.surf xs ms bs (k + 1) = t at *
        generalize State.fluxAt xs ms bs k = F at *
        have HM := Lib.hid hm; have HM' := Lib.hid hm'; have HX := Lib.hid hfx
        clear hm hm' hfx
        go_upto_region 13 with (first
          | (go_at_call 12; ((with_reducible refine (HA.out _ (State.OwnS.reads (HF.out.nth 0 rfl))).mono ?_); rintro e w3 ⟨rfl, hg⟩; have HF3 := Lib.hid (HF.out.on hg); obtain ⟨y0, y1, y2, y3, y4⟩ := Law.box5 (HF3.out.nth 1 rfl); clear hg))
          | (go_at_call 12; ((with_reducible refine (HB2.out _ (State.OwnS.reads (HF3.out.nth 0 rfl))).mono ?_); rintro e w4 ⟨rfl, hg⟩; have HF4 := Lib.hid (HF3.out.on hg); obtain ⟨v0, v1, v2, v3, v4⟩ := Law.box5 (HF4.out.nth 1 rfl); clear hg))
          | (go_at_call 13; ((with_reducible refine (HFX.out _ (State.OwnS.reads (HF4.out.nth 0 rfl))).mono ?_); rintro e w5 ⟨rfl, hg⟩; have HF5 := Lib.hid (HF4.out.on hg); clear hg)))
        clear z0 z1 z2 z3 z4 y0 y1 y2 y3 y4 v0 v1 v2 v3 v4 HF HF3 HF4 HA HB2 HFX
        obtain ⟨z0, z1, z2, z3, z4⟩ := Law.box5 (HF5.out.nth 1 rfl)
        obtain ⟨g, o, e, d0⟩ := (Ints.own_readsI (HF5.out.nth 2 rfl)).at_ k _ HX.out
        subst e
        obtain ⟨g', o', e, d1⟩ := (State.OwnS.reads (HF5.out.nth 0 rfl)).m.at_ k _ HM.out
        subst e
        obtain ⟨g'', o'', e, d2⟩ := (State.OwnS.reads (HF5.out.nth 0 rfl)).m.at_ (k + 1) _ HM'.out
        cases e
        by_cases hst : t < s
        · have q0 := f2 (by omega)
          clear f2 f3
          go_wp2_with fail
          go_roundw
          case rel => exact ⟨k + 1, by omega, by go_num, HF5⟩
          case measure => simp [intOf]; omega
        · by_cases hts : s < t
          · have q0 := f3 (by omega)
            clear f2 f3
            go_wp2_with fail
            go_roundw
            case rel => exact ⟨k + 1, by omega, by go_num, HF5⟩
            case measure => simp [intOf]; omega
          · have q0 := f2 (by omega)
            have q1 := f3 (by omega)
            clear f2 f3
            go_wp2_with fail
            go_roundw
            case rel => exact ⟨k + 1, by omega, by go_num, HF5⟩
            case measure => simp [intOf]; omega
      · obtain rfl : p = k := by omega
        go_wp2_with (go_at_call 12; ((with_reducible refine (HSZ.out _ (State.OwnS.reads (HF.out.nth 0 rfl))).mono ?_); rintro e w3 ⟨rfl, hg⟩; have HF3 := Lib.hid (HF.out.on hg); clear hg))
        go_ret
        exact ⟨rfl, Cell.grown_below HF3.out.gr (Nat.le_refl _)⟩

set_option maxRecDepth 100000 in
theorem lifted (os : Os) (started : os.Started) (H : Type) (enc : TypeId × Value → H) :
    ReturnsInHanded {} Try.checked os 3 .any (Rows.fnFluxesSpec.pre6 enc Try.prog Try.f3 Rows.fnFluxesRow.domain false) (Rows.fnFluxesSpec.post enc Try.prog Try.f3 false true false false) := by
  refine returnsInHanded_of_change (C := Try.checked) own started (by kernel_rfl) Try.func3
    (ChangeSpec.witness6 (enc := enc) (C := Try.checked) false ⟨#[], #[.slice none 0 0], []⟩ 8 (by kernel_rfl) (by kernel_rfl) (by kernel_rfl) (by kernel_rfl)) ?_
  intro W base args ds gs before hval0 hW hcnd _
  have hval : ∀ (j : Nat) t v, Try.f3.params[j]? = some t → args[j]? = some v → Value.okWide Try.prog W .any base t v := hval0
  have hW' := hW
  obtain ⟨p, q, hA0, hV, rfl, hfz, hnd⟩ := hW
  have hA : DataW.TrodAll enc Try.prog W 0 (fun _ => true) true Try.f3.params.toList args.toList ds p := hA0
  rw [Try.params3] at hA hval
  obtain ⟨v0, vs0, d0, ds0, p0, q0, hargs, rfl, rfl, h0, r0⟩ := trodAll_cons hA
  obtain ⟨rfl, rfl, rfl⟩ := trodAll_nil r0
  obtain rfl : args = #[v0] := by cases args; simp_all
  obtain ⟨rfl, rfl⟩ := trodVars_none hV
  obtain ⟨a0, len0, cap0, rfl⟩ := okWide_slice Try.underlying22 (hval 0 22 v0 rfl rfl)
  have k0 := h0
  have lt0 : ∀ x ∈ p0, x.block < W.heap.size := by obtain ⟨m, hm⟩ := k0; exact DataW.trod_lt m _ _ _ hm
  obtain ⟨z0, w0⟩ : ∃ zs, IsRow .u8 W a0 len0 cap0 zs := by
    obtain ⟨fuel, hf⟩ := h0
    rcases open_ints Try.underlying22 Try.underlying5 (by kernel_rfl) hf with ⟨hcs, _⟩ | ⟨x, l, c, zs, hcs, _, hl, hm, hz, _, hcell, hwz⟩
    · simp [Value.cells] at hcs
      obtain ⟨rfl, rfl, rfl⟩ := hcs
      exact ⟨[], .inl ⟨rfl, rfl, rfl, rfl⟩⟩
    · simp [Value.cells] at hcs
      obtain ⟨rfl, rfl, rfl⟩ := hcs
      exact ⟨zs, .inr ⟨_, rfl, hl, hm, by simpa using hz, hcell, hwz⟩⟩
  clear hA0 hval0
  refine (walk a0 len0 cap0 z0 W w0).mono fun e W' ⟨he, bel⟩ => ?_
  subst he
  exact ⟨_, rfl, _, _, _, [], _, [], hW', trodAll_mk1 (shut_bool Try.underlying4 _), (trodAll_cons_mk (Below.trod laidOut (by kernel_rfl) (of_decide_eq_true (by kernel_rfl)) k0 bel lt0) trodAll_mk0), rfl, bel.frame _, fun h => by cases h⟩

theorem over : Rows.fnFluxesRow.holds Try.pinned (OpenSpec.ofChange Rows.fnFluxesSpec) :=
  OpenClaim.holds_of_wide 3 Try.f3 rfl rfl rfl rfl rfl rfl rfl ⟨rfl, rfl, rfl, rfl, rfl⟩ rfl rfl rfl rfl rfl (by kernel_rfl) Try.func3 (by kernel_rfl)
    (of_decide_eq_true (by kernel_rfl)) (by unfold Func.isWrapper; first | (rw [if_pos (by decide +kernel)]; kernel_rfl) | (rw [if_neg (by decide +kernel)]; exact ⟨rfl, rfl⟩))
    (fun os started H enc _ => lifted os started H enc)

theorem proved : Rows.FnFluxesSaid := over
#print axioms proved
end Go.Proofs.Ytjmmdfphhpfbfaa.fnFluxes
