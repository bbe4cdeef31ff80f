/- Proved: for every slice of bytes the law FnUndone returns true: a drawn leaf of a drawn state is refined or the state is returned unchanged; coarsening the leaf's children then gives the state back, with mass and tracer, and there was one leaf more.
   Conditions: none besides those that the given row prints. -/
import Derived.Test.YtfoilfgiablleaaRows
import Derived.WalkKit
import Derived.ProofKit
import Derived.OpenShut
import Derived.ShutString
import Derived.Test.YtfoilfgiablleaaStTransT
import Derived.ChangeOld
import Derived.Below
set_option maxRecDepth 100000
namespace Go.Proofs.Ytfoilfgiablleaa.fnUndone
open Go.ChangeShapes Go.WideShapes Go.ChangeAt Go.RowKit
open Go.ChangeMaps (open_string shut_string)
set_option linter.unusedVariables false

theorem own : ownKnob Try.prog.godebug = none := by kernel_rfl
theorem laidOut : laidOutB Try.prog = true := by kernel_rfl

def IsRow (k : IntKind) (w : World) (a : Option Addr) (len cap : Nat) (zs : List Int) : Prop :=
  (a = none ∧ len = 0 ∧ cap = 0 ∧ zs = []) ∨
  ∃ x, a = some x ∧ len ≤ cap ∧ cap ≤ maxLen ∧ zs.length = cap ∧ (∀ i, i < zs.length → w.cell? (x.add i) = some (.int k (zs.getD i 0))) ∧ ∀ n ∈ zs, (Lit.int k n).wf = true

set_option maxHeartbeats 32000000 in
theorem walk (a0 : Option Addr) (len0 cap0 : Nat) (z0 : List Int) (w : World) (w0 : IsRow .u8 w a0 len0 cap0 z0) :
    Calls Try.prog 4 #[.slice a0 len0 cap0] w fun e w' => e = .returned (.bool true) ∧ Below w.heap.size w w' := by
  have hb := Draw.bytes_of w0
  have HB := Lib.hid hb; clear hb
  clear w0
  by_cases hlen : 1048576 < len0
  · have hd : decide (1048576 < (len0 : Int)) = true := by simp; omega
    go_enter Try.func4, Try.ntmps4
    go_wp2_with fail
    refine Draw.big_any.mono ?_; rintro e w1 ⟨rfl, rfl⟩
    rw [hd]
    go_wp2_with fail
    go_ret
    exact ⟨rfl, Below.refl _ _⟩
  · have hd : decide (1048576 < (len0 : Int)) = false := by simp; omega
    have hlen' : len0 ≤ 1048576 := by omega
    have HLen := Lib.hid hlen'; clear hlen'
    go_enter Try.func4, Try.ntmps4
    go_wp2_with fail
    refine Draw.big_any.mono ?_; rintro e w1 ⟨rfl, rfl⟩
    rw [hd]
    clear hd hlen
    go_wp2_with fail
    refine (State.drawState_is HLen.out HB.out (Nat.le_refl _)).mono ?_
    rintro e w1 ⟨R, n1, n2, xs, ms, ts, bs, x1, c1, x2, c2, x3, c3, x4, c4, rfl, hd, ho, hg⟩
    obtain ⟨hn2, hn2', hR⟩ := hd.sizes
    have hn := hd.leaves
    obtain ⟨g1, c1', hv⟩ := Mesh.own_at1 ho.l (by omega)
    cases hv
    obtain ⟨g2, rfl, -, -⟩ := Ints.own_atI ho.m (by omega)
    obtain ⟨g3, rfl, -, -⟩ := Ints.own_atI ho.t (by omega)
    obtain ⟨g4, rfl, -, -⟩ := Ints.own_atI ho.b (by omega)
    have HE1 := Lib.hid ((State.Held.state (Law.Held.nil w) hg ho).box 29 #[.int .i64 R, .slice (some ⟨g1, 0, none⟩) n1 c1, .slice (some ⟨g2, 0, none⟩) n1 c2, .slice (some ⟨g3, 0, none⟩) n1 c3, .slice (some ⟨g4, 0, none⟩) n2 c4])
    have HD := Lib.hid hd
    have H1 := Lib.hid (show n1 ≤ 1048576 by omega); have H2 := Lib.hid (show n2 ≤ 1048576 by omega)
    have HN := Lib.hid hn
    have hn1 : 1 ≤ (n1 : Int) := by omega
    have hn1' : (n1 : Int) ≤ 128 := by omega
    have HBW := Lib.hid (HB.out.kept (fun b hb' => (hg.block b hb' (by simp))))
    have HSZ := Lib.hid hg.size
    clear ho hg hd hn hn2 hn2' hR HB
    go_upto_region 4 with fail
    obtain ⟨B3, hB3⟩ : ∃ B, B = w1.heap.size := ⟨_, rfl⟩
    rw [← hB3] at HE1 ⊢
    clear hB3
    have HBX := Lib.hid (HBW.out.kept (fun b hb' => (World.grownBy_alloc w1 (.cells #[.int .i64 R, .slice (some ⟨g1, 0, none⟩) n1 c1, .slice (some ⟨g2, 0, none⟩) n1 c2, .slice (some ⟨g3, 0, none⟩) n1 c3, .slice (some ⟨g4, 0, none⟩) n2 c4] 29) none).block b (by have := HSZ.out; omega) (by simp)))
    have HSX := Lib.hid (Nat.le_trans HSZ.out (World.grownBy_alloc w1 (.cells #[.int .i64 R, .slice (some ⟨g1, 0, none⟩) n1 c1, .slice (some ⟨g2, 0, none⟩) n1 c2, .slice (some ⟨g3, 0, none⟩) n1 c3, .slice (some ⟨g4, 0, none⟩) n2 c4] 29) none).size)
    clear HBW HSZ
    generalize w1.alloc (.cells #[.int .i64 R, .slice (some ⟨g1, 0, none⟩) n1 c1, .slice (some ⟨g2, 0, none⟩) n1 c2, .slice (some ⟨g3, 0, none⟩) n1 c3, .slice (some ⟨g4, 0, none⟩) n2 c4] 29) = W1 at *
    go_upto_region 5 with (go_at_call 17; ((with_reducible refine (State.places_new HLen.out HBX.out HSX.out).mono ?_); rintro e w2 ⟨gp, cp, p0, p1, p2, rfl, q0, q1, q2, hp, hlo, hg⟩; have HE2 := Lib.hid (HE1.out.add hg hp (fun b hb => by rw [List.mem_singleton.1 hb]; exact hlo)); clear hp hlo hg))
    clear HE1 HBX HSX HLen
    obtain ⟨z0, z1, z2, z3, z4⟩ := Law.box5 (HE2.out.nth 1 rfl)
    obtain ⟨c4', c5, c6⟩ := HE2.out.nth 2 rfl
    have hk0 : (p0 : Int).tmod (n1 : Int) = ((p0 % n1 : Int).toNat : Int) := by
      rw [Int.tmod_eq_emod_of_nonneg q0.1, Int.toNat_of_nonneg (Int.emod_nonneg _ (by omega))]
    have HK := Lib.hid (show (p0 % n1 : Int).toNat < n1 by have := Int.emod_lt_of_pos p0 (show (0 : Int) < n1 by omega); have := Int.emod_nonneg p0 (show (n1 : Int) ≠ 0 by omega); omega)
    have hki : (((p0 % n1 : Int).toNat : Nat) : Int) < n1 := by have := HK.out; omega
    generalize (p0 % n1 : Int).toNat = k at *
    have hn0 : ¬ (n1 : Int) = 0 := by omega
    go_quiet (fail)
    go_upto_region 6 with fail
    clear hk0 z0 z1 z2 z3 z4 c4' c5 c6 hn0
    have HEq := Lib.hid (HE2.out.on (Cell.g_drewN (Cell.grown_refl w2) nq))
    clear HE2
    generalize w2.drewN nq = wq2 at *
    have HE2 := HEq
    clear HEq
    have hl2 := HD.out.len
    have hl1 := HD.out.l1
    cases hr : State.refB R xs ms ts bs (k : Int) with
    | false =>
      have HRF := Lib.hid (show ∀ u, State.RoomS u (some ⟨g1, 0, none⟩) (some ⟨g2, 0, none⟩) (some ⟨g3, 0, none⟩) (some ⟨g4, 0, none⟩) n1 n1 n1 n2 c1 c2 c3 c4 xs ms ts bs → Calls Try.prog 24 #[.agg #[.int .i64 R, .slice (some ⟨g1, 0, none⟩) n1 c1, .slice (some ⟨g2, 0, none⟩) n1 c2, .slice (some ⟨g3, 0, none⟩) n1 c3, .slice (some ⟨g4, 0, none⟩) n2 c4], .int .i64 (k : Int)] u (State.GivesSB false R n1 n1 n1 n2 xs ms ts bs u) from fun u h => by
        have q := State.refState_is R g1 g2 g3 g4 n1 n1 n1 n2 c1 c2 c3 c4 xs ms ts bs k u h H1.out H1.out H1.out H2.out
        obtain ⟨e1, e2, e3⟩ := State.ref_no hr
        rw [hr, e1, e2, e3, hl1, hl2.1, hl2.2] at q
        exact q)
      clear hr hl1 hl2
      obtain ⟨z0, z1, z2, z3, z4⟩ := Law.box5 (HE2.out.nth 1 rfl)
      go_upto_region 7 with (go_at_call 24; ((with_reducible refine (HRF.out _ (State.OwnS.room (HE2.out.nth 0 rfl))).mono ?_); rintro e w3 ⟨b1, d1, b2, d2, b3, d3, b4, d4, rfl, ho, hg⟩; have HE3 := Lib.hid (State.Held.state HE2.out hg ho); clear ho hg))
      clear z0 z1 z2 z3 z4 HE2
      have HE4 := Lib.hid (HE3.out.box 29 #[.int .i64 R, .slice b1 n1 d1, .slice b2 n1 d2, .slice b3 n1 d3, .slice b4 n2 d4]); clear HE3
      obtain ⟨B6, hB6⟩ : ∃ B, B = w3.heap.size := ⟨_, rfl⟩
      rw [← hB6] at HE4 ⊢
      clear hB6
      generalize w3.alloc (.cells #[.int .i64 R, .slice b1 n1 d1, .slice b2 n1 d2, .slice b3 n1 d3, .slice b4 n2 d4] 29) = W3 at *
      obtain ⟨z0, z1, z2, z3, z4⟩ := Law.box5 (HE4.out.nth 1 rfl)
      obtain ⟨x0, x1, x2, x3, x4⟩ := Law.box5 (HE4.out.nth 4 rfl)
      go_wp2_with (go_at_call 25; ((with_reducible refine (State.sameSt_is R _ _ _ _ _ _ _ _ n1 n1 n1 n2 _ _ _ _ _ _ _ _ xs ms ts bs _ (State.OwnS.reads (HE4.out.nth 3 rfl)) (State.OwnS.reads (HE4.out.nth 0 rfl)) H1.out H1.out H1.out H2.out).mono ?_); rintro e w4 ⟨rfl, hg⟩; have HE5 := Lib.hid (HE4.out.on hg); clear hg))
      go_ret
      exact ⟨rfl, Cell.grown_below HE5.out.gr (Nat.le_refl _)⟩
    | true =>
      obtain ⟨hcb, hcx, hcm, hct⟩ := State.ref_co hr
      have hok2 := (State.ref_ok hr).1
      obtain ⟨-, -, k', x, ek, hx, -, -, -, e1, -, -⟩ := State.refB_parts hr
      obtain rfl : k = k' := by omega
      have l1 : (State.refX R xs ms ts bs (k : Int)).length = n1 + 1 := by rw [e1, Mesh.split2_len hx, hl1]
      obtain ⟨l2, l3, -, -⟩ := State.ok_sizes hok2
      rw [l1] at l2 l3
      have hrf := fun u (h : State.RoomS u (some ⟨g1, 0, none⟩) (some ⟨g2, 0, none⟩) (some ⟨g3, 0, none⟩) (some ⟨g4, 0, none⟩) n1 n1 n1 n2 c1 c2 c3 c4 xs ms ts bs) => State.refState_is R g1 g2 g3 g4 n1 n1 n1 n2 c1 c2 c3 c4 xs ms ts bs k u h H1.out H1.out H1.out H2.out
      obtain ⟨ys, hys⟩ : ∃ q, q = State.refX R xs ms ts bs (k : Int) := ⟨_, rfl⟩
      obtain ⟨mr, hmr⟩ : ∃ q, q = State.refM R xs ms ts bs (k : Int) := ⟨_, rfl⟩
      obtain ⟨tr, htr⟩ : ∃ q, q = State.refT R xs ms ts bs (k : Int) := ⟨_, rfl⟩
      rw [hr, l1, l2, l3, ← hys, ← hmr, ← htr] at hrf
      rw [← hys, ← hmr, ← htr] at hcb hcx hcm hct
      have HRF := Lib.hid hrf
      have HCF := Lib.hid (show ∀ (u : World) (v1 v2 v3 v4 d1 d2 d3 d4 : Nat), State.RoomS u (some ⟨v1, 0, none⟩) (some ⟨v2, 0, none⟩) (some ⟨v3, 0, none⟩) (some ⟨v4, 0, none⟩) (n1 + 1) (n1 + 1) (n1 + 1) n2 d1 d2 d3 d4 ys mr tr bs → Calls Try.prog 22 #[.agg #[.int .i64 R, .slice (some ⟨v1, 0, none⟩) (n1 + 1) d1, .slice (some ⟨v2, 0, none⟩) (n1 + 1) d2, .slice (some ⟨v3, 0, none⟩) (n1 + 1) d3, .slice (some ⟨v4, 0, none⟩) n2 d4], .int .i64 (k : Int)] u (State.GivesSB true R n1 n1 n1 n2 xs ms ts bs u) from fun u v1 v2 v3 v4 d1 d2 d3 d4 h => by
        have q := State.coState_is R v1 v2 v3 v4 (n1 + 1) (n1 + 1) (n1 + 1) n2 d1 d2 d3 d4 ys mr tr bs k u h (by have := HN.out; omega) (by have := HN.out; omega) (by have := HN.out; omega) H2.out
        rw [hcb, hcx, hcm, hct, hl1, hl2.1, hl2.2] at q
        exact q)
      have hn2 := HD.out.sizes.1
      have HN2 := Lib.hid hn2
      have hw1 : IntKind.i64.wrap ((n1 : Int) + 1) = (n1 : Int) + 1 := IntWalk.i64_in _ (by omega)
      clear hr hl1 hl2 hcb hcx hcm hct hok2 ek hx e1 l1 l2 l3 hrf hys hmr htr hn2
      obtain ⟨z0, z1, z2, z3, z4⟩ := Law.box5 (HE2.out.nth 1 rfl)
      go_upto_region 7 with (go_at_call 24; ((with_reducible refine (HRF.out _ (State.OwnS.room (HE2.out.nth 0 rfl))).mono ?_); rintro e w3 ⟨b1, d1, b2, d2, b3, d3, b4, d4, rfl, ho, hg⟩; have hown := State.Held.state HE2.out hg ho; obtain ⟨v1, v2, v3, v4, rfl, rfl, rfl, rfl⟩ := State.OwnS.addr (hown.nth 3 rfl) (by omega) (by omega) (by omega) HN2.out; have HE3 := Lib.hid hown; clear ho hg hown))
      clear z0 z1 z2 z3 z4 HE2
      have HE4 := Lib.hid (HE3.out.box 29 #[.int .i64 R, .slice (some ⟨v1, 0, none⟩) (n1 + 1) d1, .slice (some ⟨v2, 0, none⟩) (n1 + 1) d2, .slice (some ⟨v3, 0, none⟩) (n1 + 1) d3, .slice (some ⟨v4, 0, none⟩) n2 d4]); clear HE3
      obtain ⟨B6, hB6⟩ : ∃ B, B = w3.heap.size := ⟨_, rfl⟩
      rw [← hB6] at HE4 ⊢
      clear hB6
      generalize w3.alloc (.cells #[.int .i64 R, .slice (some ⟨v1, 0, none⟩) (n1 + 1) d1, .slice (some ⟨v2, 0, none⟩) (n1 + 1) d2, .slice (some ⟨v3, 0, none⟩) (n1 + 1) d3, .slice (some ⟨v4, 0, none⟩) n2 d4] 29) = W3 at *
      obtain ⟨x0, x1, x2, x3, x4⟩ := Law.box5 (HE4.out.nth 4 rfl)
      go_upto_region 10 with (go_at_call 22; ((with_reducible refine (HCF.out _ _ _ _ _ _ _ _ _ (State.OwnS.room (HE4.out.nth 3 rfl))).mono ?_); rintro e w5 ⟨r1, s1, r2, s2, r3, s3, r4, s4, rfl, ho, hg⟩; have HE5 := Lib.hid (State.Held.state HE4.out hg ho); clear ho hg))
      clear x0 x1 x2 x3 x4 HE4
      have HE6 := Lib.hid (HE5.out.box 29 #[.int .i64 R, .slice r1 n1 s1, .slice r2 n1 s2, .slice r3 n1 s3, .slice r4 n2 s4]); clear HE5
      obtain ⟨B8, hB8⟩ : ∃ B, B = w5.heap.size := ⟨_, rfl⟩
      rw [← hB8] at HE6 ⊢
      clear hB8
      generalize w5.alloc (.cells #[.int .i64 R, .slice r1 n1 s1, .slice r2 n1 s2, .slice r3 n1 s3, .slice r4 n2 s4] 29) = W5 at *
      obtain ⟨z0, z1, z2, z3, z4⟩ := Law.box5 (HE6.out.nth 1 rfl)
      obtain ⟨x0, x1, x2, x3, x4⟩ := Law.box5 (HE6.out.nth 6 rfl)
      go_wp2_with (go_at_call 25; ((with_reducible refine (State.sameSt_is R _ _ _ _ _ _ _ _ n1 n1 n1 n2 _ _ _ _ _ _ _ _ xs ms ts bs _ (State.OwnS.reads (HE6.out.nth 5 rfl)) (State.OwnS.reads (HE6.out.nth 0 rfl)) H1.out H1.out H1.out H2.out).mono ?_); rintro e w6 ⟨rfl, hg⟩; have HE7 := Lib.hid (HE6.out.on hg); obtain ⟨t0, t1, t2, t3, t4⟩ := Law.box5 (HE7.out.nth 1 rfl); obtain ⟨y0, y1, y2, y3, y4⟩ := Law.box5 (HE7.out.nth 4 rfl); clear hg))
      go_ret
      exact ⟨rfl, Cell.grown_below HE7.out.gr (Nat.le_refl _)⟩

set_option maxRecDepth 100000 in
theorem lifted (os : Os) (started : os.Started) (H : Type) (enc : TypeId × Value → H) :
    ReturnsInHanded {} Try.checked os 4 .any (Rows.fnUndoneSpec.pre6 enc Try.prog Try.f4 Rows.fnUndoneRow.domain false) (Rows.fnUndoneSpec.post enc Try.prog Try.f4 false true false false) := by
  refine returnsInHanded_of_change (C := Try.checked) own started (by kernel_rfl) Try.func4
    (ChangeSpec.witness6 (enc := enc) (C := Try.checked) false ⟨#[], #[.slice none 0 0], []⟩ 8 (by kernel_rfl) (by kernel_rfl) (by kernel_rfl) (by kernel_rfl)) ?_
  intro W base args ds gs before hval0 hW hcnd _
  have hval : ∀ (j : Nat) t v, Try.f4.params[j]? = some t → args[j]? = some v → Value.okWide Try.prog W .any base t v := hval0
  have hW' := hW
  obtain ⟨p, q, hA0, hV, rfl, hfz, hnd⟩ := hW
  have hA : DataW.TrodAll enc Try.prog W 0 (fun _ => true) true Try.f4.params.toList args.toList ds p := hA0
  rw [Try.params4] at hA hval
  obtain ⟨v0, vs0, d0, ds0, p0, q0, hargs, rfl, rfl, h0, r0⟩ := trodAll_cons hA
  obtain ⟨rfl, rfl, rfl⟩ := trodAll_nil r0
  obtain rfl : args = #[v0] := by cases args; simp_all
  obtain ⟨rfl, rfl⟩ := trodVars_none hV
  obtain ⟨a0, len0, cap0, rfl⟩ := okWide_slice Try.underlying22 (hval 0 22 v0 rfl rfl)
  have k0 := h0
  have lt0 : ∀ x ∈ p0, x.block < W.heap.size := by obtain ⟨m, hm⟩ := k0; exact DataW.trod_lt m _ _ _ hm
  obtain ⟨z0, w0⟩ : ∃ zs, IsRow .u8 W a0 len0 cap0 zs := by
    obtain ⟨fuel, hf⟩ := h0
    rcases open_ints Try.underlying22 Try.underlying5 (by kernel_rfl) hf with ⟨hcs, _⟩ | ⟨x, l, c, zs, hcs, _, hl, hm, hz, _, hcell, hwz⟩
    · simp [Value.cells] at hcs
      obtain ⟨rfl, rfl, rfl⟩ := hcs
      exact ⟨[], .inl ⟨rfl, rfl, rfl, rfl⟩⟩
    · simp [Value.cells] at hcs
      obtain ⟨rfl, rfl, rfl⟩ := hcs
      exact ⟨zs, .inr ⟨_, rfl, hl, hm, by simpa using hz, hcell, hwz⟩⟩
  clear hA0 hval0
  refine (walk a0 len0 cap0 z0 W w0).mono fun e W' ⟨he, bel⟩ => ?_
  subst he
  exact ⟨_, rfl, _, _, _, [], _, [], hW', trodAll_mk1 (shut_bool Try.underlying4 _), (trodAll_cons_mk (Below.trod laidOut (by kernel_rfl) (of_decide_eq_true (by kernel_rfl)) k0 bel lt0) trodAll_mk0), rfl, bel.frame _, fun h => by cases h⟩

theorem over : Rows.fnUndoneRow.holds Try.pinned (OpenSpec.ofChange Rows.fnUndoneSpec) :=
  OpenClaim.holds_of_wide 4 Try.f4 rfl rfl rfl rfl rfl rfl rfl ⟨rfl, rfl, rfl, rfl, rfl⟩ rfl rfl rfl rfl rfl (by kernel_rfl) Try.func4 (by kernel_rfl)
    (of_decide_eq_true (by kernel_rfl)) (by unfold Func.isWrapper; first | (rw [if_pos (by decide +kernel)]; kernel_rfl) | (rw [if_neg (by decide +kernel)]; exact ⟨rfl, rfl⟩))
    (fun os started H enc _ => lifted os started H enc)

theorem proved : Rows.FnUndoneSaid := over
#print axioms proved
end Go.Proofs.Ytfoilfgiablleaa.fnUndone
