/- Proved: for every slice of bytes the law FnLakes returns true: a drawn lake (a balanced mesh, a bed for each root, a height), filled by the reference model's FillState, is at rest and level within 15, and the model's macro step leaves its masses as they are and the state at rest.
   Conditions: none besides those that the given row prints. -/
import Derived.Test.YtnelgnfahkljmaaRows
import Derived.WalkKit
import Derived.ProofKit
import Derived.OpenShut
import Derived.ShutString
import Derived.Test.YtnelgnfahkljmaaStRestL
import Derived.Test.YtnelgnfahkljmaaStRestI
import Derived.Test.YtnelgnfahkljmaaStDrawL
import Derived.Test.YtnelgnfahkljmaaPkStep
import Derived.ChangeOld
import Derived.Below
set_option maxRecDepth 100000
namespace Go.Proofs.Ytnelgnfahkljmaa.fnLakes
open Go.ChangeShapes Go.WideShapes Go.ChangeAt Go.RowKit
open Go.ChangeMaps (open_string shut_string)
set_option linter.unusedVariables false

theorem own : ownKnob Try.prog.godebug = none := by kernel_rfl
theorem laidOut : laidOutB Try.prog = true := by kernel_rfl

def IsRow (k : IntKind) (w : World) (a : Option Addr) (len cap : Nat) (zs : List Int) : Prop :=
  (a = none ∧ len = 0 ∧ cap = 0 ∧ zs = []) ∨
  ∃ x, a = some x ∧ len ≤ cap ∧ cap ≤ maxLen ∧ zs.length = cap ∧ (∀ i, i < zs.length → w.cell? (x.add i) = some (.int k (zs.getD i 0))) ∧ ∀ n ∈ zs, (Lit.int k n).wf = true

set_option maxHeartbeats 32000000 in
theorem walk (a0 : Option Addr) (len0 cap0 : Nat) (z0 : List Int) (w : World) (w0 : IsRow .u8 w a0 len0 cap0 z0) :
    Calls Try.prog 3 #[.slice a0 len0 cap0] w fun e w' => e = .returned (.bool true) ∧ Below w.heap.size w w' := by
  have hb := Draw.bytes_of w0
  have HB := Lib.hid hb; clear hb
  clear w0
  by_cases hlen : 1048576 < len0
  · have hd : decide (1048576 < (len0 : Int)) = true := by simp; omega
    go_enter Try.func3, Try.ntmps3
    go_wp2_with fail
    refine Draw.big_any.mono ?_; rintro e w1 ⟨rfl, rfl⟩
    rw [hd]
    go_wp2_with fail
    go_ret
    exact ⟨rfl, Below.refl _ _⟩
  · have hd : decide (1048576 < (len0 : Int)) = false := by simp; omega
    have hlen' : len0 ≤ 1048576 := by omega
    have HLen := Lib.hid hlen'; clear hlen'
    go_enter Try.func3, Try.ntmps3
    go_wp2_with fail
    refine Draw.big_any.mono ?_; rintro e w1 ⟨rfl, rfl⟩
    rw [hd]
    clear hd hlen
    go_wp2_with fail
    refine (State.drawLake_is HLen.out HB.out (Nat.le_refl _)).mono ?_
    rintro e w1 ⟨R, n1, n2, xs, bs, h, x1, c1, x4, c4, rfl, hm, hgp, hl1, hR, hl2, hbs, hh0, hh1, ho1, ho4, hap, hg⟩
    obtain ⟨-, hn1, hn2⟩ := Mesh.mesh_parts hm
    have hR1 : 1 ≤ R ∧ R ≤ 8 := by have := of_decide_eq_true hm; omega
    obtain ⟨g1, c1', hv⟩ := Mesh.own_at1 ho1 (by omega)
    cases hv
    obtain ⟨g4, rfl, -, -⟩ := Ints.own_atI ho4 (by omega)
    have HE1 := Lib.hid ((State.Held.lake (Law.Held.nil w) hg ho1 ho4).box 26 #[.int .i64 R, .slice (some ⟨g1, 0, none⟩) n1 c1])
    have hlb : (bs.length : Int) = R := by rw [hl2]; exact hR
    have HFB := Lib.hid (State.lake_fills hm hgp hlb hbs hh0 hh1)
    obtain ⟨hrest, hlev⟩ := State.lake_rest hm hgp hlb hbs hh0 hh1
    rw [hl1] at hrest hlev
    have HRG := Lib.hid hrest; have HLV := Lib.hid hlev
    have J1 := Lib.hid (show 1 ≤ n1 by omega); have J2 := Lib.hid (show 1 ≤ n2 by omega)
    have H1 := Lib.hid (show n1 ≤ 1048576 by omega); have H2 := Lib.hid (show n2 ≤ 1048576 by omega)
    clear hm hgp hl1 hR hl2 hbs ho1 ho4 hap hg hn1 hn2 hR1 hlb hrest hlev
    go_upto_region 4 with fail
    obtain ⟨B3, hB3⟩ : ∃ B, B = w1.heap.size := ⟨_, rfl⟩
    rw [← hB3] at HE1 ⊢
    clear hB3
    generalize w1.alloc (.cells #[.int .i64 R, .slice (some ⟨g1, 0, none⟩) n1 c1] 26) = W1 at *
    have HFS := Lib.hid (show Calls Try.prog 11 #[.agg #[.int .i64 R, .slice (some ⟨g1, 0, none⟩) n1 c1], .slice (some ⟨g4, 0, none⟩) n2 c4, .int .i64 h] W1 (State.GivesSB true R n1 n1 n1 n2 xs (State.fillMs bs h xs) (List.replicate n1 0) bs W1) by
      have q := State.specFillState_is R g1 g4 n1 n2 c1 c4 xs bs h W1 (Mesh.own_reads (HE1.out.nth 0 rfl).1) (Ints.own_readsI (HE1.out.nth 0 rfl).2) H1.out H2.out
      rw [HFB.out] at q
      exact q.mono fun _ _ g => by unfold State.FillGives at g; rw [if_pos rfl] at g; exact g)
    generalize State.fillMs bs h xs = ms at HFS HRG HLV
    generalize List.replicate n1 (0 : Int) = ts at HFS HRG HLV
    have HMS := Lib.hid (show ∀ u (g5 g6 g7 g8 d1 d2 d3 d4 : Nat), State.ReadsS u (some ⟨g5, 0, none⟩) (some ⟨g6, 0, none⟩) (some ⟨g7, 0, none⟩) (some ⟨g8, 0, none⟩) n1 n1 n1 n2 xs ms ts bs → Calls Try.prog 12 #[.agg #[.int .i64 R, .slice (some ⟨g5, 0, none⟩) n1 d1, .slice (some ⟨g6, 0, none⟩) n1 d2, .slice (some ⟨g7, 0, none⟩) n1 d3, .slice (some ⟨g8, 0, none⟩) n2 d4]] u (State.GivesS R n1 n1 n1 n2 xs ms ts bs u) from fun u g5 g6 g7 g8 d1 d2 d3 d4 h => by
      have q := State.specMacroStep_is R g5 g6 g7 g8 n1 n1 n1 n2 d1 d2 d3 d4 xs ms ts bs u h H1.out H1.out H1.out H2.out
      rw [State.ticks_still HRG.out] at q
      exact q)
    have HAR := Lib.hid (show ∀ u (b1 b2 b3 b4 : Option Addr) (d1 d2 d3 d4 : Nat), State.ReadsS u b1 b2 b3 b4 n1 n1 n1 n2 xs ms ts bs → Calls Try.prog 13 #[.agg #[.int .i64 R, .slice b1 n1 d1, .slice b2 n1 d2, .slice b3 n1 d3, .slice b4 n2 d4]] u fun e w' => e = .returned (.bool true) ∧ u.grownBy w' none from fun u b1 b2 b3 b4 d1 d2 d3 d4 h => by
      have q := State.isAtRest_is R b1 b2 b3 b4 n1 n1 n1 n2 d1 d2 d3 d4 xs ms ts bs u h H1.out H1.out H1.out H2.out
      rw [HRG.out] at q
      exact q)
    have HLW := Lib.hid (show ∀ u (b1 b2 b3 b4 : Option Addr) (d1 d2 d3 d4 : Nat), State.ReadsS u b1 b2 b3 b4 n1 n1 n1 n2 xs ms ts bs → Calls Try.prog 14 #[.agg #[.int .i64 R, .slice b1 n1 d1, .slice b2 n1 d2, .slice b3 n1 d3, .slice b4 n2 d4], .int .i64 15] u fun e w' => e = .returned (.bool true) ∧ u.grownBy w' none from fun u b1 b2 b3 b4 d1 d2 d3 d4 h => by
      have q := State.isLevel_is R b1 b2 b3 b4 n1 n1 n1 n2 d1 d2 d3 d4 xs ms ts bs 15 u h H1.out H1.out H1.out H2.out
      rw [HLV.out] at q
      exact q)
    have HSI := Lib.hid (show ∀ u (a b : Option Addr) (c d : Nat), Ints.ReadsI u a n1 ms → Ints.ReadsI u b n1 ms → Calls Try.prog 15 #[.slice a n1 c, .slice b n1 d] u fun e w' => e = .returned (.bool true) ∧ u.grownBy w' none from fun u a b c d h h' => State.sameInts_is a b n1 c d ms u h h' H1.out)
    clear HFB HRG HLV
    obtain ⟨m0, m1⟩ := Law.box2 (HE1.out.nth 1 rfl)
    go_upto_region 5 with (go_at_call 11; ((with_reducible refine (HFS.out).mono ?_); rintro e w2 ⟨q1, d1, q2, d2, q3, d3, q4, d4, rfl, ho, hg⟩; obtain ⟨g5, g6, g7, g8, rfl, rfl, rfl, rfl⟩ := State.addrS ho J1.out J1.out J1.out J2.out; have HE2 := Lib.hid (State.Held.state HE1.out hg ho); clear ho hg))
    clear m0 m1 HE1 HFS
    have HE3 := Lib.hid (HE2.out.box 31 #[.int .i64 R, .slice (some ⟨g5, 0, none⟩) n1 d1, .slice (some ⟨g6, 0, none⟩) n1 d2, .slice (some ⟨g7, 0, none⟩) n1 d3, .slice (some ⟨g8, 0, none⟩) n2 d4]); clear HE2
    obtain ⟨B6, hB6⟩ : ∃ B, B = w2.heap.size := ⟨_, rfl⟩
    rw [← hB6] at HE3 ⊢
    clear hB6
    generalize w2.alloc (.cells #[.int .i64 R, .slice (some ⟨g5, 0, none⟩) n1 d1, .slice (some ⟨g6, 0, none⟩) n1 d2, .slice (some ⟨g7, 0, none⟩) n1 d3, .slice (some ⟨g8, 0, none⟩) n2 d4] 31) = W2 at *
    obtain ⟨s0, s1, s2, s3, s4⟩ := Law.box5 (HE3.out.nth 3 rfl)
    go_upto_region 6 with (go_at_call 12; ((with_reducible refine (HMS.out _ _ _ _ _ _ _ _ _ (State.OwnS.reads (HE3.out.nth 2 rfl))).mono ?_); rintro e w3 ⟨x1, e1, x2, e2, x3, e3, x4, e4, rfl, ho, hg⟩; have HE4 := Lib.hid (State.Held.state HE3.out hg ho); clear ho hg))
    clear s0 s1 s2 s3 s4 HE3 HMS
    have HE5 := Lib.hid (HE4.out.box 31 #[.int .i64 R, .slice x1 n1 e1, .slice x2 n1 e2, .slice x3 n1 e3, .slice x4 n2 e4]); clear HE4
    obtain ⟨B8, hB8⟩ : ∃ B, B = w3.heap.size := ⟨_, rfl⟩
    rw [← hB8] at HE5 ⊢
    clear hB8
    generalize w3.alloc (.cells #[.int .i64 R, .slice x1 n1 e1, .slice x2 n1 e2, .slice x3 n1 e3, .slice x4 n2 e4] 31) = W3 at *
    obtain ⟨s0, s1, s2, s3, s4⟩ := Law.box5 (HE5.out.nth 3 rfl); obtain ⟨t0, t1, t2, t3, t4⟩ := Law.box5 (HE5.out.nth 5 rfl)
    go_wp2_with (first
      | (go_at_call 13; ((with_reducible refine (HAR.out _ _ _ _ _ _ _ _ _ (State.OwnS.reads (HE5.out.nth 2 rfl))).mono ?_); rintro e w4 ⟨rfl, hg⟩; have HE6 := Lib.hid (HE5.out.on hg); obtain ⟨u0, u1, u2, u3, u4⟩ := Law.box5 (HE6.out.nth 3 rfl); obtain ⟨v0, v1, v2, v3, v4⟩ := Law.box5 (HE6.out.nth 5 rfl); clear hg))
      | (go_at_call 14; ((with_reducible refine (HLW.out _ _ _ _ _ _ _ _ _ (State.OwnS.reads (HE6.out.nth 2 rfl))).mono ?_); rintro e w5 ⟨rfl, hg⟩; have HE7 := Lib.hid (HE6.out.on hg); obtain ⟨y0, y1, y2, y3, y4⟩ := Law.box5 (HE7.out.nth 3 rfl); obtain ⟨z0, z1, z2, z3, z4⟩ := Law.box5 (HE7.out.nth 5 rfl); clear hg))
      | (go_at_call 15; ((with_reducible refine (HSI.out _ _ _ _ _ (State.OwnS.reads (HE7.out.nth 4 rfl)).m (State.OwnS.reads (HE7.out.nth 2 rfl)).m).mono ?_); rintro e w6 ⟨rfl, hg⟩; have HE8 := Lib.hid (HE7.out.on hg); obtain ⟨a0, a1, a2, a3, a4⟩ := Law.box5 (HE8.out.nth 3 rfl); obtain ⟨b0, b1, b2, b3, b4⟩ := Law.box5 (HE8.out.nth 5 rfl); clear hg))
      | (go_at_call 13; ((with_reducible refine (HAR.out _ _ _ _ _ _ _ _ _ (State.OwnS.reads (HE8.out.nth 4 rfl))).mono ?_); rintro e w7 ⟨rfl, hg⟩; have HE9 := Lib.hid (HE8.out.on hg); clear hg)))
    go_ret
    exact ⟨rfl, Cell.grown_below HE9.out.gr (Nat.le_refl _)⟩

set_option maxRecDepth 100000 in
theorem lifted (os : Os) (started : os.Started) (H : Type) (enc : TypeId × Value → H) :
    ReturnsInHanded {} Try.checked os 3 .any (Rows.fnLakesSpec.pre6 enc Try.prog Try.f3 Rows.fnLakesRow.domain false) (Rows.fnLakesSpec.post enc Try.prog Try.f3 false true false false) := by
  refine returnsInHanded_of_change (C := Try.checked) own started (by kernel_rfl) Try.func3
    (ChangeSpec.witness6 (enc := enc) (C := Try.checked) false ⟨#[], #[.slice none 0 0], []⟩ 8 (by kernel_rfl) (by kernel_rfl) (by kernel_rfl) (by kernel_rfl)) ?_
  intro W base args ds gs before hval0 hW hcnd _
  have hval : ∀ (j : Nat) t v, Try.f3.params[j]? = some t → args[j]? = some v → Value.okWide Try.prog W .any base t v := hval0
  have hW' := hW
  obtain ⟨p, q, hA0, hV, rfl, hfz, hnd⟩ := hW
  have hA : DataW.TrodAll enc Try.prog W 0 (fun _ => true) true Try.f3.params.toList args.toList ds p := hA0
  rw [Try.params3] at hA hval
  obtain ⟨v0, vs0, d0, ds0, p0, q0, hargs, rfl, rfl, h0, r0⟩ := trodAll_cons hA
  obtain ⟨rfl, rfl, rfl⟩ := trodAll_nil r0
  obtain rfl : args = #[v0] := by cases args; simp_all
  obtain ⟨rfl, rfl⟩ := trodVars_none hV
  obtain ⟨a0, len0, cap0, rfl⟩ := okWide_slice Try.underlying22 (hval 0 22 v0 rfl rfl)
  have k0 := h0
  have lt0 : ∀ x ∈ p0, x.block < W.heap.size := by obtain ⟨m, hm⟩ := k0; exact DataW.trod_lt m _ _ _ hm
  obtain ⟨z0, w0⟩ : ∃ zs, IsRow .u8 W a0 len0 cap0 zs := by
    obtain ⟨fuel, hf⟩ := h0
    rcases open_ints Try.underlying22 Try.underlying5 (by kernel_rfl) hf with ⟨hcs, _⟩ | ⟨x, l, c, zs, hcs, _, hl, hm, hz, _, hcell, hwz⟩
    · simp [Value.cells] at hcs
      obtain ⟨rfl, rfl, rfl⟩ := hcs
      exact ⟨[], .inl ⟨rfl, rfl, rfl, rfl⟩⟩
    · simp [Value.cells] at hcs
      obtain ⟨rfl, rfl, rfl⟩ := hcs
      exact ⟨zs, .inr ⟨_, rfl, hl, hm, by simpa using hz, hcell, hwz⟩⟩
  clear hA0 hval0
  refine (walk a0 len0 cap0 z0 W w0).mono fun e W' ⟨he, bel⟩ => ?_
  subst he
  exact ⟨_, rfl, _, _, _, [], _, [], hW', trodAll_mk1 (shut_bool Try.underlying4 _), (trodAll_cons_mk (Below.trod laidOut (by kernel_rfl) (of_decide_eq_true (by kernel_rfl)) k0 bel lt0) trodAll_mk0), rfl, bel.frame _, fun h => by cases h⟩

theorem over : Rows.fnLakesRow.holds Try.pinned (OpenSpec.ofChange Rows.fnLakesSpec) :=
  OpenClaim.holds_of_wide 3 Try.f3 rfl rfl rfl rfl rfl rfl rfl ⟨rfl, rfl, rfl, rfl, rfl⟩ rfl rfl rfl rfl rfl (by kernel_rfl) Try.func3 (by kernel_rfl)
    (of_decide_eq_true (by kernel_rfl)) (by unfold Func.isWrapper; first | (rw [if_pos (by decide +kernel)]; kernel_rfl) | (rw [if_neg (by decide +kernel)]; exact ⟨rfl, rfl⟩))
    (fun os started H enc _ => lifted os started H enc)

theorem proved : Rows.FnLakesSaid := over
#print axioms proved
end Go.Proofs.Ytnelgnfahkljmaa.fnLakes
