/- Proved: for every slice of bytes the law FnRefined returns true: in a drawn balanced mesh a drawn leaf is refined unless it has the greatest level, and coarsening its children gives the mesh back.
   Conditions: none besides those that the given row prints. -/
import Derived.Test.YtmkmlfaekiofcaaRows
import Derived.WalkKit
import Derived.ProofKit
import Derived.OpenShut
import Derived.ShutString
import Derived.Test.YtmkmlfaekiofcaaMRefLaw
import Derived.ChangeOld
import Derived.Below
namespace Go.Proofs.Ytmkmlfaekiofcaa.fnRefined
open Go.ChangeShapes Go.WideShapes Go.ChangeAt Go.RowKit
open Go.ChangeMaps (open_string shut_string)
set_option linter.unusedVariables false

theorem own : ownKnob Try.prog.godebug = none := by kernel_rfl
theorem laidOut : laidOutB Try.prog = true := by kernel_rfl

def IsRow (k : IntKind) (w : World) (a : Option Addr) (len cap : Nat) (zs : List Int) : Prop :=
  (a = none ∧ len = 0 ∧ cap = 0 ∧ zs = []) ∨
  ∃ x, a = some x ∧ len ≤ cap ∧ cap ≤ maxLen ∧ zs.length = cap ∧ (∀ i, i < zs.length → w.cell? (x.add i) = some (.int k (zs.getD i 0))) ∧ ∀ n ∈ zs, (Lit.int k n).wf = true

set_option maxHeartbeats 2000000 in
theorem walk (a0 : Option Addr) (len0 cap0 : Nat) (z0 : List Int) (w : World) (w0 : IsRow .u8 w a0 len0 cap0 z0) :
    Calls Try.prog 3 #[.slice a0 len0 cap0] w fun e w' => e = .returned (.bool true) ∧ Below w.heap.size w w' := by
  have hb := Draw.bytes_of w0
  have HB := Lib.hid hb; clear hb
  clear w0
  by_cases hlen : 1048576 < len0
  · have hd : decide (1048576 < (len0 : Int)) = true := by simp; omega
    go_enter Try.func3, Try.ntmps3
    go_wp2_with fail
    refine Draw.big_any.mono ?_; rintro e w1 ⟨rfl, rfl⟩
    rw [hd]
    go_wp2_with fail
    go_ret
    exact ⟨rfl, Below.refl _ _⟩
  · have hd : decide (1048576 < (len0 : Int)) = false := by simp; omega
    have hlen' : len0 ≤ 1048576 := by omega
    have HLen := Lib.hid hlen'; clear hlen'
    go_enter Try.func3, Try.ntmps3
    go_wp2_with fail
    refine Draw.big_any.mono ?_; rintro e w1 ⟨rfl, rfl⟩
    rw [hd]
    clear hd hlen
    go_wp2_with fail
    refine (Mesh.drawB_is HLen.out HB.out).mono ?_; rintro e w1 ⟨R, xs, a1, c1, rfl, hm, hgp, ho, hb⟩
    obtain ⟨-, hl1, hl2⟩ := Mesh.mesh_parts hm
    obtain ⟨g1, c1', hv⟩ := Mesh.own_at1 ho hl1
    cases hv
    obtain ⟨n, hn⟩ : ∃ n, n = xs.length := ⟨_, rfl⟩
    rw [← hn] at ho ⊢
    have hn128 : n ≤ 1048576 := by omega
    have hni : (n : Int) ≤ 128 := by omega
    have hn1 : 1 ≤ (n : Int) := by omega
    have HN := Lib.hid hn128
    have HMG := Lib.hid (And.intro hm (And.intro hgp hn.symm))
    have HT0 := Lib.hid (show Mesh.One w (w1.alloc (.cells #[.int .i64 R, .slice (some ⟨g1, 0, none⟩) n c1] 26)) R w1.heap.size g1 n c1 xs from ⟨Mesh.MBox.new w1 _ _, (Mesh.own_reads ho).past _, Cell.g_alloc (Mesh.below_grown hb) _⟩)
    have HBY := Lib.hid (Mesh.bytes_up (B' := (w1.alloc (.cells #[.int .i64 R, .slice (some ⟨g1, 0, none⟩) n c1] 26)).heap.size) (HB.out.kept (fun k hk => ((Cell.g_alloc (Mesh.below_grown hb) (.cells #[.int .i64 R, .slice (some ⟨g1, 0, none⟩) n c1] 26)).block k hk (by simp)))) (by have := hb.size; simp; omega))
    clear HB ho hb hm hgp hl1 hl2 hn hn128
    go_upto_region 4 with fail
    generalize w1.heap.size = B3 at *
    generalize w1.alloc (.cells #[.int .i64 R, .slice (some ⟨g1, 0, none⟩) n c1] 26) = W1 at *
    go_upto_region 5 with (go_at_call 14; ((with_reducible refine (Draw.draw_places HLen.out HBY.out (Nat.le_refl _)).mono ?_); rintro e w2 ⟨gp, cp, f, rfl, -, -, hf, hbl⟩; have HT2 := Lib.hid (HT0.out.on (Mesh.below_grown hbl)); have HF := Lib.hid (hf 0 (by omega)); clear hf hbl))
    clear HT0 HBY HLen
    go_cut [5] from 16 to 22 (fun v wx => ∃ k : Nat, (k : Int) < n ∧ v = .int .i64 k ∧ Hid (Mesh.One w wx R B3 g1 n c1 xs))
    case first =>
      have m30 := HT2.out.m3.c0
      have m31 := HT2.out.m3.c1
      obtain ⟨f0, f9, fc⟩ := HF.out
      have hnz : ((n : Int) == 0) = false := by simp; omega
      have hnz2 : ¬ (n : Int) = 0 := by omega
      go_quiet (fail)
      go_wp2_with fail
      go_meet
      have hq0 := Int.emod_nonneg (f 0) hnz2
      have hq1 := Int.emod_lt_of_pos (f 0) (show 0 < (n : Int) by omega)
      exact ⟨(f 0 % (n : Int)).toNat, by omega, by rw [Int.toNat_of_nonneg hq0], Lib.hid (HT2.out.on (Cell.g_drewN (Cell.grown_refl _) _))⟩
    case rest =>
      clear HT2 HF
      obtain ⟨k, hk, rfl, HT⟩ := hcut
      have m30 := HT.out.m3.c0
      have m31 := HT.out.m3.c1
      obtain ⟨r, l, j, hx⟩ := Mesh.get_of_lt HT.out.r1.len (k := k) (by omega)
      have HX := Lib.hid hx
      have HN1 := Lib.hid (show 1 ≤ n by omega)
      have HZ1 := Lib.hid (show 1 ≤ n + 1 by omega)
      have HN2 := Lib.hid (show n + 1 ≤ 1048576 by omega)
      have HSS := Lib.hid (Mesh.same_self R xs)
      by_cases h4 : l = 4
      · obtain ⟨hC, hM⟩ := Mesh.ref_deep (g1 := g1) (c1 := c1) HMG.out.1 HMG.out.2.2 hx h4
        have HC := Lib.hid hC; have HMR := Lib.hid hM
        clear hC hM hx
        subst h4
        go_upto_region 7 with (go_at_call 15; ((with_reducible refine (HC.out _ HT.out.r1).mono ?_); rintro e w3 ⟨a2, c2, rfl, ho, hg⟩; obtain ⟨g2, c2', hv⟩ := Mesh.own_at1 ho HN1.out; cases hv; have HT3 := Lib.hid (HT.out.two hg ho); clear ho hg))
        clear m30 m31 HT HC
        generalize w3.heap.size = B4 at *
        generalize w3.alloc (.cells #[.int .i64 R, .slice (some ⟨g2, 0, none⟩) n c2] 26) = W3 at *
        have m30 := HT3.out.m3.c0
        have m31 := HT3.out.m3.c1
        have m40 := HT3.out.m4.c0
        have m41 := HT3.out.m4.c1
        obtain ⟨g_, hg_, -, d0, d1, d2⟩ := HT3.out.r1.at_ k _ HX.out
        cases hg_
        dsimp only at d0 d1 d2
        go_wp2_with (first
          | (go_at_call 16; ((with_reducible refine (Mesh.sameMesh_is R R _ _ n n _ _ xs xs _ HT3.out.r2 HT3.out.r1 HN.out HN.out).mono ?_); rw [HSS.out]; rintro e w4 ⟨rfl, hg⟩; have ht := HT3.out.on hg; have e30 := ht.m3.c0; have e31 := ht.m3.c1; have HT4 := Lib.hid ht; clear hg ht))
          | (go_at_call 17; ((with_reducible refine (HMR.out _ HT4.out.r1).mono ?_); rintro e w5 ⟨rfl, hg⟩; have HT5 := Lib.hid (HT4.out.on hg); clear hg)))
        go_ret
        exact ⟨rfl, Cell.grown_below HT5.out.gr (Nat.le_refl _)⟩
      · have hl4 : l < 4 := by
          have ho := (Mesh.mesh_parts HMG.out.1).1 _ _ hx
          have := (Cell.of_ok (show Cell.okId r l j = true from ho)).2.2.2.1
          omega
        obtain ⟨zs, hz, hC, hM, hCo, hMC, hOk, hSF⟩ := Mesh.ref_facts (g1 := g1) (c1 := c1) HMG.out.1 HMG.out.2.1 HMG.out.2.2 hx hl4
        have HC := Lib.hid hC; have HMR := Lib.hid hM; have HCO := Lib.hid hCo; have HMC := Lib.hid hMC; have HOK := Lib.hid hOk; have HSF := Lib.hid hSF
        have hne : (l == 4) = false := by simp; omega
        clear hC hM hCo hMC hOk hSF hz hx
        go_upto_region 7 with (go_at_call 15; ((with_reducible refine (HC.out _ HT.out.r1).mono ?_); rintro e w3 ⟨a2, c2, rfl, ho, hg⟩; obtain ⟨g2, c2', hv⟩ := Mesh.own_at1 ho HZ1.out; cases hv; have HCP := Lib.hid (Mesh.own_cap ho HZ1.out); have HT3 := Lib.hid (HT.out.two hg ho); clear ho hg))
        clear m30 m31 HT HC
        generalize w3.heap.size = B4 at *
        generalize w3.alloc (.cells #[.int .i64 R, .slice (some ⟨g2, 0, none⟩) (n + 1) c2] 26) = W3 at *
        have m30 := HT3.out.m3.c0
        have m31 := HT3.out.m3.c1
        have m40 := HT3.out.m4.c0
        have m41 := HT3.out.m4.c1
        obtain ⟨g_, hg_, -, d0, d1, d2⟩ := HT3.out.r1.at_ k _ HX.out
        cases hg_
        dsimp only at d0 d1 d2
        go_upto_region 10 with (go_at_call 18; ((with_reducible refine (HCO.out _ _ _ HCP.out HT3.out.r2).mono ?_); rintro e w4 ⟨a3, c3, rfl, ho, hg⟩; obtain ⟨g3, c3', hv⟩ := Mesh.own_at1 ho HN1.out; cases hv; have HT4 := Lib.hid (HT3.out.three hg ho); clear ho hg))
        clear m30 m31 m40 m41 d0 d1 d2 HT3 HCO HCP
        generalize w4.heap.size = B5 at *
        generalize w4.alloc (.cells #[.int .i64 R, .slice (some ⟨g3, 0, none⟩) n c3] 26) = W4 at *
        have m30 := HT4.out.t.m3.c0
        have m31 := HT4.out.t.m3.c1
        have m40 := HT4.out.t.m4.c0
        have m41 := HT4.out.t.m4.c1
        have m50 := HT4.out.m5.c0
        have m51 := HT4.out.m5.c1
        go_wp2_with (first
          | (go_at_call 17; ((with_reducible refine (HMR.out _ HT4.out.t.r1).mono ?_); rintro e w5 ⟨rfl, hg⟩; have ht := HT4.out.on hg; have e40 := ht.t.m4.c0; have e41 := ht.t.m4.c1; have HT5 := Lib.hid ht; clear hg ht))
          | (go_at_call 19; ((with_reducible refine (HMC.out _ _ _ HT5.out.t.r2).mono ?_); rintro e w6 ⟨rfl, hg⟩; have ht := HT5.out.on hg; have e30 := ht.t.m3.c0; have e31 := ht.t.m3.c1; have e50 := ht.m5.c0; have e51 := ht.m5.c1; have HT6 := Lib.hid ht; clear hg ht))
          | (go_at_call 16; ((with_reducible refine (Mesh.sameMesh_is R R _ _ n n _ _ xs xs _ HT6.out.r3 HT6.out.t.r1 HN.out HN.out).mono ?_); rw [HSS.out]; rintro e w7 ⟨rfl, hg⟩; have ht := HT6.out.on hg; have f30 := ht.t.m3.c0; have f31 := ht.t.m3.c1; have f40 := ht.t.m4.c0; have f41 := ht.t.m4.c1; have HT7 := Lib.hid ht; clear hg ht))
          | (go_at_call 16; ((with_reducible refine (Mesh.sameMesh_is R R _ _ (n + 1) n _ _ zs xs _ HT7.out.t.r2 HT7.out.t.r1 HN2.out HN.out).mono ?_); rw [HSF.out]; rintro e w8 ⟨rfl, hg⟩; have ht := HT7.out.on hg; have h40 := ht.t.m4.c0; have h41 := ht.t.m4.c1; have HT8 := Lib.hid ht; clear hg ht))
          | (go_at_call 20; ((with_reducible refine (HOK.out _ _ _ HT8.out.t.r2).mono ?_); rintro e w9 ⟨rfl, hg⟩; have HT9 := Lib.hid (HT8.out.on hg); clear hg)))
        go_ret
        exact ⟨rfl, Cell.grown_below HT9.out.t.gr (Nat.le_refl _)⟩

set_option maxRecDepth 100000 in
theorem lifted (os : Os) (started : os.Started) (H : Type) (enc : TypeId × Value → H) :
    ReturnsInHanded {} Try.checked os 3 .any (Rows.fnRefinedSpec.pre6 enc Try.prog Try.f3 Rows.fnRefinedRow.domain false) (Rows.fnRefinedSpec.post enc Try.prog Try.f3 false true false false) := by
  refine returnsInHanded_of_change (C := Try.checked) own started (by kernel_rfl) Try.func3
    (ChangeSpec.witness6 (enc := enc) (C := Try.checked) false ⟨#[], #[.slice none 0 0], []⟩ 8 (by kernel_rfl) (by kernel_rfl) (by kernel_rfl) (by kernel_rfl)) ?_
  intro W base args ds gs before hval0 hW hcnd _
  have hval : ∀ (j : Nat) t v, Try.f3.params[j]? = some t → args[j]? = some v → Value.okWide Try.prog W .any base t v := hval0
  have hW' := hW
  obtain ⟨p, q, hA0, hV, rfl, hfz, hnd⟩ := hW
  have hA : DataW.TrodAll enc Try.prog W 0 (fun _ => true) true Try.f3.params.toList args.toList ds p := hA0
  rw [Try.params3] at hA hval
  obtain ⟨v0, vs0, d0, ds0, p0, q0, hargs, rfl, rfl, h0, r0⟩ := trodAll_cons hA
  obtain ⟨rfl, rfl, rfl⟩ := trodAll_nil r0
  obtain rfl : args = #[v0] := by cases args; simp_all
  obtain ⟨rfl, rfl⟩ := trodVars_none hV
  obtain ⟨a0, len0, cap0, rfl⟩ := okWide_slice Try.underlying22 (hval 0 22 v0 rfl rfl)
  have k0 := h0
  have lt0 : ∀ x ∈ p0, x.block < W.heap.size := by obtain ⟨m, hm⟩ := k0; exact DataW.trod_lt m _ _ _ hm
  obtain ⟨z0, w0⟩ : ∃ zs, IsRow .u8 W a0 len0 cap0 zs := by
    obtain ⟨fuel, hf⟩ := h0
    rcases open_ints Try.underlying22 Try.underlying5 (by kernel_rfl) hf with ⟨hcs, _⟩ | ⟨x, l, c, zs, hcs, _, hl, hm, hz, _, hcell, hwz⟩
    · simp [Value.cells] at hcs
      obtain ⟨rfl, rfl, rfl⟩ := hcs
      exact ⟨[], .inl ⟨rfl, rfl, rfl, rfl⟩⟩
    · simp [Value.cells] at hcs
      obtain ⟨rfl, rfl, rfl⟩ := hcs
      exact ⟨zs, .inr ⟨_, rfl, hl, hm, by simpa using hz, hcell, hwz⟩⟩
  clear hA0 hval0
  refine (walk a0 len0 cap0 z0 W w0).mono fun e W' ⟨he, bel⟩ => ?_
  subst he
  exact ⟨_, rfl, _, _, _, [], _, [], hW', trodAll_mk1 (shut_bool Try.underlying4 _), (trodAll_cons_mk (Below.trod laidOut (by kernel_rfl) (of_decide_eq_true (by kernel_rfl)) k0 bel lt0) trodAll_mk0), rfl, bel.frame _, fun h => by cases h⟩

theorem over : Rows.fnRefinedRow.holds Try.pinned (OpenSpec.ofChange Rows.fnRefinedSpec) :=
  OpenClaim.holds_of_wide 3 Try.f3 rfl rfl rfl rfl rfl rfl rfl ⟨rfl, rfl, rfl, rfl, rfl⟩ rfl rfl rfl rfl rfl (by kernel_rfl) Try.func3 (by kernel_rfl)
    (of_decide_eq_true (by kernel_rfl)) (by unfold Func.isWrapper; first | (rw [if_pos (by decide +kernel)]; kernel_rfl) | (rw [if_neg (by decide +kernel)]; exact ⟨rfl, rfl⟩))
    (fun os started H enc _ => lifted os started H enc)

theorem proved : Rows.FnRefinedSaid := over
#print axioms proved
end Go.Proofs.Ytmkmlfaekiofcaa.fnRefined
