/- Proved: for every slice of bytes the law FnCoarsened returns true: a drawn balanced mesh that is coarsened at any of its leaves stays balanced, and has one leaf less or is unchanged.
   Conditions: none besides those that the given row prints. -/
import Derived.Test.YtmkmlfaekiofcaaRows
import Derived.WalkKit
import Derived.ProofKit
import Derived.OpenShut
import Derived.ShutString
import Derived.Test.YtmkmlfaekiofcaaMCoLaw
import Derived.ChangeOld
import Derived.Below
namespace Go.Proofs.Ytmkmlfaekiofcaa.fnCoarsened
open Go.ChangeShapes Go.WideShapes Go.ChangeAt Go.RowKit
open Go.ChangeMaps (open_string shut_string)
set_option linter.unusedVariables false

theorem own : ownKnob Try.prog.godebug = none := by kernel_rfl
theorem laidOut : laidOutB Try.prog = true := by kernel_rfl

def IsRow (k : IntKind) (w : World) (a : Option Addr) (len cap : Nat) (zs : List Int) : Prop :=
  (a = none ∧ len = 0 ∧ cap = 0 ∧ zs = []) ∨
  ∃ x, a = some x ∧ len ≤ cap ∧ cap ≤ maxLen ∧ zs.length = cap ∧ (∀ i, i < zs.length → w.cell? (x.add i) = some (.int k (zs.getD i 0))) ∧ ∀ n ∈ zs, (Lit.int k n).wf = true

set_option maxHeartbeats 2000000 in
theorem walk (a0 : Option Addr) (len0 cap0 : Nat) (z0 : List Int) (w : World) (w0 : IsRow .u8 w a0 len0 cap0 z0) :
    Calls Try.prog 4 #[.slice a0 len0 cap0] w fun e w' => e = .returned (.bool true) ∧ Below w.heap.size w w' := by
  have hb := Draw.bytes_of w0
  have HB := Lib.hid hb; clear hb
  clear w0
  by_cases hlen : 1048576 < len0
  · have hd : decide (1048576 < (len0 : Int)) = true := by simp; omega
    go_enter Try.func4, Try.ntmps4
    go_wp2_with fail
    refine Draw.big_any.mono ?_; rintro e w1 ⟨rfl, rfl⟩
    rw [hd]
    go_wp2_with fail
    go_ret
    exact ⟨rfl, Below.refl _ _⟩
  · have hd : decide (1048576 < (len0 : Int)) = false := by simp; omega
    have hlen' : len0 ≤ 1048576 := by omega
    have HLen := Lib.hid hlen'; clear hlen'
    go_enter Try.func4, Try.ntmps4
    go_wp2_with fail
    refine Draw.big_any.mono ?_; rintro e w1 ⟨rfl, rfl⟩
    rw [hd]
    clear hd hlen
    go_wp2_with fail
    refine (Mesh.drawB_is HLen.out HB.out).mono ?_; rintro e w1 ⟨R, xs, a1, c1, rfl, hm, hgp, ho, hb⟩
    clear HB HLen
    obtain ⟨-, hl1, hl2⟩ := Mesh.mesh_parts hm
    obtain ⟨g1, c1', hv⟩ := Mesh.own_at1 ho hl1
    cases hv
    have hcap := Mesh.own_cap ho hl1
    obtain ⟨n, hn⟩ : ∃ n, n = xs.length := ⟨_, rfl⟩
    rw [← hn] at ho hcap ⊢
    have HF := Lib.hid (fun k : Nat => Mesh.co_facts (R := R) (n := n) (g1 := g1) (c1 := c1) (k := k) hm hgp hn.symm hcap)
    have hn128 : n ≤ 1048576 := by omega
    have hni : (n : Int) ≤ 128 := by omega
    have HN := Lib.hid hn128
    have HT0 := Lib.hid (show Mesh.One w (w1.alloc (.cells #[.int .i64 R, .slice (some ⟨g1, 0, none⟩) n c1] 26)) R w1.heap.size g1 n c1 xs from ⟨Mesh.MBox.new w1 _ _, (Mesh.own_reads ho).past _, Cell.g_alloc (Mesh.below_grown hb) _⟩)
    clear ho hb hm hgp hl1 hl2 hn hcap hn128
    go_upto_region 4 with fail
    generalize w1.heap.size = B3 at *
    generalize w1.alloc (.cells #[.int .i64 R, .slice (some ⟨g1, 0, none⟩) n c1] 26) = W1 at *
    go_wp2_with fail
    go_loopw [4] (fun i wr => ∃ k : Nat, (k : Int) ≤ n ∧ i = .int .i64 k ∧ Hid (Mesh.One w wr R B3 g1 n c1 xs)) (fun i _ => n - (intOf i).toNat)
    case atStart => exact ⟨0, by omega, rfl, HT0⟩
    case round =>
      clear HT0
      obtain ⟨k, hk, rfl, HT⟩ := hrel
      have m30 := HT.out.m3.c0
      have m31 := HT.out.m3.c1
      by_cases hlt : (k : Int) < n
      · obtain ⟨b, zs, nz, hz, hz1, hz2, hbt, hbf, hC, hM, hI⟩ := HF.out k
        have HC := Lib.hid hC; have HMC := Lib.hid hM; have HI := Lib.hid hI; have HNZ := Lib.hid hz1; have HNZ2 := Lib.hid (show nz ≤ 1048576 by omega)
        have hzi : (nz : Int) ≤ 128 := by omega
        clear hC hM hI hz hz1 hz2
        go_upto_region 8 with (go_at_call 18; ((with_reducible refine (HC.out _ HT.out.r1).mono ?_); rintro e w2 ⟨a2, c2, rfl, ho, hg⟩; obtain ⟨g2, c2', hv⟩ := Mesh.own_at1 ho HNZ.out; cases hv; have HT2 := Lib.hid (HT.out.two hg ho); clear ho hg))
        clear m30 m31 HT HC
        generalize w2.heap.size = B4 at *
        generalize w2.alloc (.cells #[.int .i64 R, .slice (some ⟨g2, 0, none⟩) nz c2] 26) = W2 at *
        have m30 := HT2.out.m3.c0
        have m31 := HT2.out.m3.c1
        have m40 := HT2.out.m4.c0
        have m41 := HT2.out.m4.c1
        cases b with
        | true =>
          have hzn := hbt rfl
          have hwn : IntKind.i64.wrap ((n : Int) - 1) = (n : Int) - 1 := IntWalk.i64_in _ (by omega)
          have hne : ((nz : Int) == (n : Int) - 1) = true := by simp; omega
          clear hbf hbt
          go_wp2_with (first
            | (go_at_call 19; ((with_reducible refine (HMC.out _ HT2.out.r1).mono ?_); rintro e w3 ⟨rfl, hg⟩; have ht := HT2.out.on hg; have d30 := ht.m3.c0; have d31 := ht.m3.c1; have d40 := ht.m4.c0; have d41 := ht.m4.c1; have HT3 := Lib.hid ht; clear hg ht))
            | (go_at_call 21; ((with_reducible refine (HI.out _ _ _ HT3.out.r2).mono ?_); rintro e w4 ⟨rfl, hg⟩; have ht := HT3.out.on hg; have e30 := ht.m3.c0; have e31 := ht.m3.c1; have e40 := ht.m4.c0; have e41 := ht.m4.c1; have HT4 := Lib.hid ht; clear hg ht)))
          go_roundw
          case rel => exact ⟨k + 1, by omega, by go_num, Lib.hid HT4.out.one⟩
          case measure => simp [intOf]; omega
        | false =>
          obtain ⟨rfl, rfl⟩ := hbf rfl
          clear hbt hbf
          have HSM := Lib.hid (show Mesh.sameB R zs R zs = true from decide_eq_true ⟨rfl, rfl⟩)
          go_wp2_with (first
            | (go_at_call 19; ((with_reducible refine (HMC.out _ HT2.out.r1).mono ?_); rintro e w3 ⟨rfl, hg⟩; have ht := HT2.out.on hg; have d30 := ht.m3.c0; have d31 := ht.m3.c1; have d40 := ht.m4.c0; have d41 := ht.m4.c1; have HT3 := Lib.hid ht; clear hg ht))
            | (go_at_call 21; ((with_reducible refine (HI.out _ _ _ HT3.out.r2).mono ?_); rintro e w4 ⟨rfl, hg⟩; have ht := HT3.out.on hg; have e30 := ht.m3.c0; have e31 := ht.m3.c1; have e40 := ht.m4.c0; have e41 := ht.m4.c1; have HT4 := Lib.hid ht; clear hg ht))
            | (go_at_call 22; ((with_reducible refine (Mesh.specSame_is R R _ _ nz nz _ _ zs zs _ HT4.out.r2 HT4.out.r1 HNZ2.out HNZ2.out).mono ?_); rw [HSM.out]; rintro e w5 ⟨rfl, hg⟩; have HT5 := Lib.hid (HT4.out.on hg); clear hg)))
          go_roundw
          case rel => exact ⟨k + 1, by omega, by go_num, Lib.hid HT5.out.one⟩
          case measure => simp [intOf]; omega
      · go_wp2_with fail
        go_ret
        exact ⟨rfl, Cell.grown_below HT.out.gr (Nat.le_refl _)⟩

set_option maxRecDepth 100000 in
theorem lifted (os : Os) (started : os.Started) (H : Type) (enc : TypeId × Value → H) :
    ReturnsInHanded {} Try.checked os 4 .any (Rows.fnCoarsenedSpec.pre6 enc Try.prog Try.f4 Rows.fnCoarsenedRow.domain false) (Rows.fnCoarsenedSpec.post enc Try.prog Try.f4 false true false false) := by
  refine returnsInHanded_of_change (C := Try.checked) own started (by kernel_rfl) Try.func4
    (ChangeSpec.witness6 (enc := enc) (C := Try.checked) false ⟨#[], #[.slice none 0 0], []⟩ 8 (by kernel_rfl) (by kernel_rfl) (by kernel_rfl) (by kernel_rfl)) ?_
  intro W base args ds gs before hval0 hW hcnd _
  have hval : ∀ (j : Nat) t v, Try.f4.params[j]? = some t → args[j]? = some v → Value.okWide Try.prog W .any base t v := hval0
  have hW' := hW
  obtain ⟨p, q, hA0, hV, rfl, hfz, hnd⟩ := hW
  have hA : DataW.TrodAll enc Try.prog W 0 (fun _ => true) true Try.f4.params.toList args.toList ds p := hA0
  rw [Try.params4] at hA hval
  obtain ⟨v0, vs0, d0, ds0, p0, q0, hargs, rfl, rfl, h0, r0⟩ := trodAll_cons hA
  obtain ⟨rfl, rfl, rfl⟩ := trodAll_nil r0
  obtain rfl : args = #[v0] := by cases args; simp_all
  obtain ⟨rfl, rfl⟩ := trodVars_none hV
  obtain ⟨a0, len0, cap0, rfl⟩ := okWide_slice Try.underlying22 (hval 0 22 v0 rfl rfl)
  have k0 := h0
  have lt0 : ∀ x ∈ p0, x.block < W.heap.size := by obtain ⟨m, hm⟩ := k0; exact DataW.trod_lt m _ _ _ hm
  obtain ⟨z0, w0⟩ : ∃ zs, IsRow .u8 W a0 len0 cap0 zs := by
    obtain ⟨fuel, hf⟩ := h0
    rcases open_ints Try.underlying22 Try.underlying5 (by kernel_rfl) hf with ⟨hcs, _⟩ | ⟨x, l, c, zs, hcs, _, hl, hm, hz, _, hcell, hwz⟩
    · simp [Value.cells] at hcs
      obtain ⟨rfl, rfl, rfl⟩ := hcs
      exact ⟨[], .inl ⟨rfl, rfl, rfl, rfl⟩⟩
    · simp [Value.cells] at hcs
      obtain ⟨rfl, rfl, rfl⟩ := hcs
      exact ⟨zs, .inr ⟨_, rfl, hl, hm, by simpa using hz, hcell, hwz⟩⟩
  clear hA0 hval0
  refine (walk a0 len0 cap0 z0 W w0).mono fun e W' ⟨he, bel⟩ => ?_
  subst he
  exact ⟨_, rfl, _, _, _, [], _, [], hW', trodAll_mk1 (shut_bool Try.underlying4 _), (trodAll_cons_mk (Below.trod laidOut (by kernel_rfl) (of_decide_eq_true (by kernel_rfl)) k0 bel lt0) trodAll_mk0), rfl, bel.frame _, fun h => by cases h⟩

theorem over : Rows.fnCoarsenedRow.holds Try.pinned (OpenSpec.ofChange Rows.fnCoarsenedSpec) :=
  OpenClaim.holds_of_wide 4 Try.f4 rfl rfl rfl rfl rfl rfl rfl ⟨rfl, rfl, rfl, rfl, rfl⟩ rfl rfl rfl rfl rfl (by kernel_rfl) Try.func4 (by kernel_rfl)
    (of_decide_eq_true (by kernel_rfl)) (by unfold Func.isWrapper; first | (rw [if_pos (by decide +kernel)]; kernel_rfl) | (rw [if_neg (by decide +kernel)]; exact ⟨rfl, rfl⟩))
    (fun os started H enc _ => lifted os started H enc)

theorem proved : Rows.FnCoarsenedSaid := over
#print axioms proved
end Go.Proofs.Ytmkmlfaekiofcaa.fnCoarsened
