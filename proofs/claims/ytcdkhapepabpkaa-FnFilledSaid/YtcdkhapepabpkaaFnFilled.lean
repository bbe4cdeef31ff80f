/- Proved: for every slice of bytes the law FnFilled returns true: a drawn lake can be filled, each of its leaves then reaches the surface up to less than one unit of its mass, dry leaves hold nothing, and there is no tracer.
   Conditions: none besides those that the given row prints. -/
import Derived.Test.YtcdkhapepabpkaaRows
import Derived.WalkKit
import Derived.ProofKit
import Derived.OpenShut
import Derived.ShutString
import Derived.Test.YtcdkhapepabpkaaStFilled
import Derived.ChangeOld
import Derived.Below
set_option maxRecDepth 100000
namespace Go.Proofs.Ytcdkhapepabpkaa.fnFilled
open Go.ChangeShapes Go.WideShapes Go.ChangeAt Go.RowKit
open Go.ChangeMaps (open_string shut_string)
set_option linter.unusedVariables false

theorem own : ownKnob Try.prog.godebug = none := by kernel_rfl
theorem laidOut : laidOutB Try.prog = true := by kernel_rfl

def IsRow (k : IntKind) (w : World) (a : Option Addr) (len cap : Nat) (zs : List Int) : Prop :=
  (a = none ∧ len = 0 ∧ cap = 0 ∧ zs = []) ∨
  ∃ x, a = some x ∧ len ≤ cap ∧ cap ≤ maxLen ∧ zs.length = cap ∧ (∀ i, i < zs.length → w.cell? (x.add i) = some (.int k (zs.getD i 0))) ∧ ∀ n ∈ zs, (Lit.int k n).wf = true

set_option maxHeartbeats 16000000 in
theorem walk (a0 : Option Addr) (len0 cap0 : Nat) (z0 : List Int) (w : World) (w0 : IsRow .u8 w a0 len0 cap0 z0) :
    Calls Try.prog 3 #[.slice a0 len0 cap0] w fun e w' => e = .returned (.bool true) ∧ Below w.heap.size w w' := by
  have hb := Draw.bytes_of w0
  have HB := Lib.hid hb; clear hb
  clear w0
  by_cases hlen : 1048576 < len0
  · have hd : decide (1048576 < (len0 : Int)) = true := by simp; omega
    go_enter Try.func3, Try.ntmps3
    go_wp2_with fail
    refine Draw.big_any.mono ?_; rintro e w1 ⟨rfl, rfl⟩
    rw [hd]
    go_wp2_with fail
    go_ret
    exact ⟨rfl, Below.refl _ _⟩
  · have hd : decide (1048576 < (len0 : Int)) = false := by simp; omega
    have hlen' : len0 ≤ 1048576 := by omega
    have HLen := Lib.hid hlen'; clear hlen'
    go_enter Try.func3, Try.ntmps3
    go_wp2_with fail
    refine Draw.big_any.mono ?_; rintro e w1 ⟨rfl, rfl⟩
    rw [hd]
    clear hd hlen
    go_wp2_with fail
    refine (State.drawLake_is HLen.out HB.out (Nat.le_refl _)).mono ?_
    rintro e w1 ⟨R, n1, n2, xs, bs, h, x1, c1, x4, c4, rfl, hm, hgp, hl1, hR, hl2, hbs, hh0, hh1, ho1, ho4, hap, hg⟩
    obtain ⟨-, hn1, hn2⟩ := Mesh.mesh_parts hm
    have hR1 : 1 ≤ R ∧ R ≤ 8 := by have := of_decide_eq_true hm; omega
    obtain ⟨g1, c1', hv⟩ := Mesh.own_at1 ho1 (by omega)
    cases hv
    obtain ⟨g4, rfl, -, -⟩ := Ints.own_atI ho4 (by omega)
    have HE1 := Lib.hid ((State.Held.lake (Law.Held.nil w) hg ho1 ho4).box 26 #[.int .i64 R, .slice (some ⟨g1, 0, none⟩) n1 c1])
    have HFB := Lib.hid (State.lake_fills hm hgp hl1 hR hl2 hbs hh0 hh1)
    have HM := Lib.hid hm; have HL1 := Lib.hid hl1; have HL2 := Lib.hid hl2; have HRR := Lib.hid hR; have HBS := Lib.hid hbs
    have i1 : (n1 : Int) ≤ 128 := by omega
    have i2 : (n2 : Int) ≤ 8 := by omega
    have H1 := Lib.hid (show n1 ≤ 1048576 by omega); have H2 := Lib.hid (show n2 ≤ 1048576 by omega)
    clear hm hgp hl1 hR hl2 hbs ho1 ho4 hap hg hn1 hn2 hR1
    go_upto_region 4 with fail
    obtain ⟨B3, hB3⟩ : ∃ B, B = w1.heap.size := ⟨_, rfl⟩
    rw [← hB3] at HE1 ⊢
    clear hB3
    generalize w1.alloc (.cells #[.int .i64 R, .slice (some ⟨g1, 0, none⟩) n1 c1] 26) = W1 at *
    have HFS := Lib.hid (show Calls Try.prog 12 #[.agg #[.int .i64 R, .slice (some ⟨g1, 0, none⟩) n1 c1], .slice (some ⟨g4, 0, none⟩) n2 c4, .int .i64 h] W1 (State.GivesSB true R n1 n1 n1 n2 xs (State.fillMs bs h xs) (List.replicate n1 0) bs W1) by
      have q := State.fillState_is R g1 g4 n1 n2 c1 c4 xs bs h W1 (Mesh.own_reads (HE1.out.nth 0 rfl).1) (Ints.own_readsI (HE1.out.nth 0 rfl).2) H1.out H2.out
      rw [HFB.out] at q
      exact q.mono fun _ _ g => by unfold State.FillGives at g; rw [if_pos rfl] at g; exact g)
    have HST := Lib.hid (show State.stOk R xs (State.fillMs bs h xs) (List.replicate n1 0) bs = true by
      have hf := HFB.out
      unfold State.fillB at hf
      simp only [Bool.and_eq_true] at hf
      rw [← HL1.out]
      exact hf.2.2.2)
    obtain ⟨m0, m1⟩ := Law.box2 (HE1.out.nth 1 rfl)
    go_upto_region 5 with (go_at_call 12; ((with_reducible refine (HFS.out).mono ?_); rintro e w2 ⟨q1, d1, q2, d2, q3, d3, q4, d4, rfl, ho, hg⟩; have HE2 := Lib.hid (State.Held.state HE1.out hg ho); clear ho hg))
    clear m0 m1 HE1 HFS
    have HE3 := Lib.hid (HE2.out.box 31 #[.int .i64 R, .slice q1 n1 d1, .slice q2 n1 d2, .slice q3 n1 d3, .slice q4 n2 d4]); clear HE2
    obtain ⟨B6, hB6⟩ : ∃ B, B = w2.heap.size := ⟨_, rfl⟩
    rw [← hB6] at HE3 ⊢
    clear hB6
    generalize w2.alloc (.cells #[.int .i64 R, .slice q1 n1 d1, .slice q2 n1 d2, .slice q3 n1 d3, .slice q4 n2 d4] 31) = W2 at *
    have hok : ∀ u, W2.grownBy u none → Calls Try.prog 13 #[.agg #[.int .i64 R, .slice q1 n1 d1, .slice q2 n1 d2, .slice q3 n1 d3, .slice q4 n2 d4]] u fun e w' => e = .returned (.bool true) ∧ u.grownBy w' none := fun u hu =>
      HST.out ▸ State.stateOk_is R q1 q2 q3 q4 n1 n1 n1 n2 d1 d2 d3 d4 xs (State.fillMs bs h xs) (List.replicate n1 0) bs u ((State.OwnS.reads (HE3.out.nth 2 rfl)).on hu) H1.out H1.out H1.out H2.out
    have htr : ∀ u, W2.grownBy u none → Calls Try.prog 14 #[.agg #[.int .i64 R, .slice q1 n1 d1, .slice q2 n1 d2, .slice q3 n1 d3, .slice q4 n2 d4]] u fun e w' => e = .returned (.int .i64 0) ∧ u.grownBy w' none := fun u hu => by
      have q := State.totalTracer_is R q1 q2 q3 q4 n1 n1 n1 n2 d1 d2 d3 d4 xs (State.fillMs bs h xs) (List.replicate n1 0) bs u ((State.OwnS.reads (HE3.out.nth 2 rfl)).on hu) H1.out H1.out H1.out H2.out
      rw [HST.out, if_pos rfl, State.sum_zeros] at q
      exact q
    have HOK := Lib.hid hok; have HTR := Lib.hid htr; clear hok htr
    obtain ⟨m0, m1⟩ := Law.box2 (HE3.out.nth 1 rfl)
    obtain ⟨s0, s1, s2, s3, s4⟩ := Law.box5 (HE3.out.nth 3 rfl)
    go_upto_region 7 with (go_at_call 13; ((with_reducible refine (HOK.out _ (Cell.grown_refl _)).mono ?_); rintro e w3 ⟨rfl, hg⟩; have HE4 := Lib.hid (HE3.out.on hg); have HG3 := Lib.hid hg; obtain ⟨t0, t1⟩ := Law.box2 (HE4.out.nth 1 rfl); obtain ⟨u0, u1, u2, u3, u4⟩ := Law.box5 (HE4.out.nth 3 rfl); clear hg))
    clear m0 m1 s0 s1 s2 s3 s4 t0 t1 u0 u1 u2 u3 u4 HE3 HOK
    go_wp2_with fail
    go_loopw [8] (fun ii wr => ∃ k : Nat, (k : Int) ≤ n1 ∧ ii = .int .i64 k ∧ Hid (State.LakeL R g1 g4 n1 n2 c1 c4 xs bs (State.fillMs bs h xs) q1 d1 q2 d2 q3 d3 q4 d4 B3 B6 w wr) ∧ Hid (W2.grownBy wr none)) (fun ii _ => n1 - (intOf ii).toNat)
    case atStart => exact ⟨0, by omega, rfl, HE4, HG3⟩
    case round =>
      clear HG3
      obtain ⟨k, hk, rfl, HE5, HG5⟩ := hrel
      clear HE4
      obtain ⟨m0, m1⟩ := Law.box2 (HE5.out.nth 1 rfl)
      obtain ⟨s0, s1, s2, s3, s4⟩ := Law.box5 (HE5.out.nth 3 rfl)
      by_cases hlt : (k : Int) < n1
      · have HK := Lib.hid (show k < n1 by omega)
        obtain ⟨r, l, ix, hx⟩ := Mesh.get_of_lt HL1.out (k := k) HK.out
        obtain ⟨g, e, -, e0, e1, e2⟩ := (Mesh.own_reads (HE5.out.nth 0 rfl).1).at_ k _ hx
        cases e
        obtain ⟨y0, y1, y2, y3⟩ := State.root_lt HM.out hx
        dsimp only at e0 e1 e2 y0 y1 y2 y3
        obtain ⟨rn, rfl⟩ := Int.eq_ofNat_of_zero_le y0
        have hz := HRR.out
        have hrn : (rn : Int) < n2 := by omega
        obtain ⟨b, hb⟩ := Ints.getI HL2.out (k := rn) (by omega)
        obtain ⟨g', o', e, e3⟩ := (Ints.own_readsI (HE5.out.nth 0 rfl).2).at_ rn _ hb
        cases e
        rw [Nat.zero_add] at e3
        obtain ⟨q0, q1'⟩ := HBS.out b (List.mem_of_getElem? hb)
        have hown := HE5.out.nth 2 rfl
        obtain ⟨k2, M, rfl, hMx, e4, -⟩ := State.own_cellI (State.OwnS.m hown) HK.out
        have hM : M = (if h - b < 0 then 0 else h - b) / 2 ^ l.toNat := by
          rw [State.fillMs, List.getElem?_map, hx] at hMx
          rw [← State.fillMass_max (x := ((rn : Int), l, ix)) hb q0]
          exact (Option.some.inj hMx).symm
        clear hown hMx hx hb hz
        have hp0 : (2 : Int) ^ (0 : Int).toNat = 1 := rfl
        have hp1 : (2 : Int) ^ (1 : Int).toNat = 2 := rfl
        have hp2 : (2 : Int) ^ (2 : Int).toNat = 4 := rfl
        have hp3 : (2 : Int) ^ (3 : Int).toNat = 8 := rfl
        have hp4 : (2 : Int) ^ (4 : Int).toNat = 16 := rfl
        rcases Cell.lvl y2 y3 with rfl | rfl | rfl | rfl | rfl
        all_goals
          simp only [hp0, hp1, hp2, hp3, hp4] at hM
          clear hp0 hp1 hp2 hp3 hp4
          by_cases hbh : b < h
          · have hbh2 : ¬ h ≤ b := by omega
            rw [if_neg (by omega)] at hM
            go_upto_region 11 with fail
            go_quiet (fail)
            first
              | (obtain ⟨dd, hdd⟩ : ∃ dd, dd = h - b - (h - b) / 2 * 2 := ⟨_, rfl⟩
                 rw [← hdd]
                 have hd0 : ¬ dd < 0 := by omega
                 have hd1 : ¬ 2 ≤ dd := by omega
                 clear hdd)
              | (obtain ⟨dd, hdd⟩ : ∃ dd, dd = h - b - (h - b) / 4 * 4 := ⟨_, rfl⟩
                 rw [← hdd]
                 have hd0 : ¬ dd < 0 := by omega
                 have hd1 : ¬ 4 ≤ dd := by omega
                 clear hdd)
              | (obtain ⟨dd, hdd⟩ : ∃ dd, dd = h - b - (h - b) / 8 * 8 := ⟨_, rfl⟩
                 rw [← hdd]
                 have hd0 : ¬ dd < 0 := by omega
                 have hd1 : ¬ 8 ≤ dd := by omega
                 clear hdd)
              | (obtain ⟨dd, hdd⟩ : ∃ dd, dd = h - b - (h - b) / 16 * 16 := ⟨_, rfl⟩
                 rw [← hdd]
                 have hd0 : ¬ dd < 0 := by omega
                 have hd1 : ¬ 16 ≤ dd := by omega
                 clear hdd)
              | skip
            go_wp2_with fail
            exact ⟨⟨k + 1, by omega, by go_num, Lib.hid (HE5.out.on (Cell.g_drewN (Cell.grown_refl _) _)), Lib.hid (Cell.grown_trans HG5.out (Cell.g_drewN (Cell.grown_refl _) _))⟩, by simp [intOf]; omega⟩
          · have hbh2 : h ≤ b := by omega
            rw [show (if h - b < 0 then 0 else h - b) = 0 by split <;> omega] at hM
            obtain rfl : M = 0 := by rw [hM]; rfl
            clear hM
            go_upto_region 11 with fail
            go_quiet (fail)
            go_wp2_with fail
            exact ⟨⟨k + 1, by omega, by go_num, Lib.hid (HE5.out.on (Cell.g_drewN (Cell.grown_refl _) _)), Lib.hid (Cell.grown_trans HG5.out (Cell.g_drewN (Cell.grown_refl _) _))⟩, by simp [intOf]; omega⟩
      · go_wp2_with (go_at_call 14; ((with_reducible refine (HTR.out _ HG5.out).mono ?_); rintro e w7 ⟨rfl, hg⟩; have HE7 := Lib.hid (HE5.out.on hg); clear hg))
        go_ret
        exact ⟨rfl, Cell.grown_below HE7.out.gr (Nat.le_refl _)⟩

set_option maxRecDepth 100000 in
theorem lifted (os : Os) (started : os.Started) (H : Type) (enc : TypeId × Value → H) :
    ReturnsInHanded {} Try.checked os 3 .any (Rows.fnFilledSpec.pre6 enc Try.prog Try.f3 Rows.fnFilledRow.domain false) (Rows.fnFilledSpec.post enc Try.prog Try.f3 false true false false) := by
  refine returnsInHanded_of_change (C := Try.checked) own started (by kernel_rfl) Try.func3
    (ChangeSpec.witness6 (enc := enc) (C := Try.checked) false ⟨#[], #[.slice none 0 0], []⟩ 8 (by kernel_rfl) (by kernel_rfl) (by kernel_rfl) (by kernel_rfl)) ?_
  intro W base args ds gs before hval0 hW hcnd _
  have hval : ∀ (j : Nat) t v, Try.f3.params[j]? = some t → args[j]? = some v → Value.okWide Try.prog W .any base t v := hval0
  have hW' := hW
  obtain ⟨p, q, hA0, hV, rfl, hfz, hnd⟩ := hW
  have hA : DataW.TrodAll enc Try.prog W 0 (fun _ => true) true Try.f3.params.toList args.toList ds p := hA0
  rw [Try.params3] at hA hval
  obtain ⟨v0, vs0, d0, ds0, p0, q0, hargs, rfl, rfl, h0, r0⟩ := trodAll_cons hA
  obtain ⟨rfl, rfl, rfl⟩ := trodAll_nil r0
  obtain rfl : args = #[v0] := by cases args; simp_all
  obtain ⟨rfl, rfl⟩ := trodVars_none hV
  obtain ⟨a0, len0, cap0, rfl⟩ := okWide_slice Try.underlying22 (hval 0 22 v0 rfl rfl)
  have k0 := h0
  have lt0 : ∀ x ∈ p0, x.block < W.heap.size := by obtain ⟨m, hm⟩ := k0; exact DataW.trod_lt m _ _ _ hm
  obtain ⟨z0, w0⟩ : ∃ zs, IsRow .u8 W a0 len0 cap0 zs := by
    obtain ⟨fuel, hf⟩ := h0
    rcases open_ints Try.underlying22 Try.underlying5 (by kernel_rfl) hf with ⟨hcs, _⟩ | ⟨x, l, c, zs, hcs, _, hl, hm, hz, _, hcell, hwz⟩
    · simp [Value.cells] at hcs
      obtain ⟨rfl, rfl, rfl⟩ := hcs
      exact ⟨[], .inl ⟨rfl, rfl, rfl, rfl⟩⟩
    · simp [Value.cells] at hcs
      obtain ⟨rfl, rfl, rfl⟩ := hcs
      exact ⟨zs, .inr ⟨_, rfl, hl, hm, by simpa using hz, hcell, hwz⟩⟩
  clear hA0 hval0
  refine (walk a0 len0 cap0 z0 W w0).mono fun e W' ⟨he, bel⟩ => ?_
  subst he
  exact ⟨_, rfl, _, _, _, [], _, [], hW', trodAll_mk1 (shut_bool Try.underlying4 _), (trodAll_cons_mk (Below.trod laidOut (by kernel_rfl) (of_decide_eq_true (by kernel_rfl)) k0 bel lt0) trodAll_mk0), rfl, bel.frame _, fun h => by cases h⟩

theorem over : Rows.fnFilledRow.holds Try.pinned (OpenSpec.ofChange Rows.fnFilledSpec) :=
  OpenClaim.holds_of_wide 3 Try.f3 rfl rfl rfl rfl rfl rfl rfl ⟨rfl, rfl, rfl, rfl, rfl⟩ rfl rfl rfl rfl rfl (by kernel_rfl) Try.func3 (by kernel_rfl)
    (of_decide_eq_true (by kernel_rfl)) (by unfold Func.isWrapper; first | (rw [if_pos (by decide +kernel)]; kernel_rfl) | (rw [if_neg (by decide +kernel)]; exact ⟨rfl, rfl⟩))
    (fun os started H enc _ => lifted os started H enc)

theorem proved : Rows.FnFilledSaid := over
#print axioms proved
end Go.Proofs.Ytcdkhapepabpkaa.fnFilled
