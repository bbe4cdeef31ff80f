/- Proved: for every slice of bytes the law FnCovered returns true: every place of the drawn channel lies in exactly one leaf, and none outside it does.
   Conditions: none besides those that the given row prints. -/
import Derived.Test.YtjhfjceieaanhaaRows
import Derived.WalkKit
import Derived.ProofKit
import Derived.OpenShut
import Derived.ShutString
import Derived.Test.YtjhfjceieaanhaaMCover
import Derived.Test.YtjhfjceieaanhaaMDraw
import Derived.Test.YtjhfjceieaanhaaMLeaf
import Derived.Test.YtjhfjceieaanhaaMOkS
import Derived.Test.YtjhfjceieaanhaaMFmtPure
import Derived.Test.YtjhfjceieaanhaaMNewI
import Derived.ChangeOld
import Derived.Below
namespace Go.Proofs.Ytjhfjceieaanhaa.fnCovered
open Go.ChangeShapes Go.WideShapes Go.ChangeAt Go.RowKit
open Go.ChangeMaps (open_string shut_string)
set_option linter.unusedVariables false

theorem own : ownKnob Try.prog.godebug = none := by kernel_rfl
theorem laidOut : laidOutB Try.prog = true := by kernel_rfl

def IsRow (k : IntKind) (w : World) (a : Option Addr) (len cap : Nat) (zs : List Int) : Prop :=
  (a = none ∧ len = 0 ∧ cap = 0 ∧ zs = []) ∨
  ∃ x, a = some x ∧ len ≤ cap ∧ cap ≤ maxLen ∧ zs.length = cap ∧ (∀ i, i < zs.length → w.cell? (x.add i) = some (.int k (zs.getD i 0))) ∧ ∀ n ∈ zs, (Lit.int k n).wf = true

set_option maxHeartbeats 16000000 in
theorem walk (a0 : Option Addr) (len0 cap0 : Nat) (z0 : List Int) (w : World) (w0 : IsRow .u8 w a0 len0 cap0 z0) :
    Calls Try.prog 3 #[.slice a0 len0 cap0] w fun e w' => e = .returned (.bool true) ∧ Below w.heap.size w w' := by
  have hb := Draw.bytes_of w0
  have HB := Lib.hid hb; clear hb
  clear w0
  by_cases hlen : 1048576 < len0
  · have hd : decide (1048576 < (len0 : Int)) = true := by simp; omega
    go_enter Try.func3, Try.ntmps3
    go_wp2_with fail
    refine Draw.big_any.mono ?_; rintro e w1 ⟨rfl, rfl⟩
    rw [hd]
    go_wp2_with fail
    go_ret
    exact ⟨rfl, Below.refl _ _⟩
  · have hd : decide (1048576 < (len0 : Int)) = false := by simp; omega
    have hlen' : len0 ≤ 1048576 := by omega
    have HLen := Lib.hid hlen'; clear hlen'
    go_enter Try.func3, Try.ntmps3
    go_wp2_with fail
    refine Draw.big_any.mono ?_; rintro e w1 ⟨rfl, rfl⟩
    rw [hd]
    clear hd hlen
    go_wp2_with fail
    refine (Mesh.draw_is HLen.out HB.out).mono ?_; rintro e w1 ⟨R, xs, a1, c1, rfl, h1, h3, hm, ho, hb⟩
    clear HB HLen
    obtain ⟨hxl, -⟩ := Mesh.ok_mesh hm
    obtain ⟨n, hn⟩ : ∃ n, n = xs.length := ⟨_, rfl⟩
    have hn128 : n ≤ 1048576 := by omega
    have hni : (n : Int) ≤ 128 := by omega
    rw [← hn] at ho ⊢
    have HE := Lib.hid hn; have HH := Lib.hid hn128; have HMM := Lib.hid hm
    have HLa : Hid (∀ (u : World) (c : Nat) (pos : Int), Mesh.Reads u a1 n xs → Calls Try.prog 14 #[.agg #[.int .i64 R, .slice a1 n c], .int .i64 pos] u fun e w' => e = .returned (.int .i64 (Mesh.leafAt R xs pos)) ∧ u.grownBy w' none) := Lib.hid (fun u c pos h => Mesh.leafAt_is R pos a1 n c xs u h HH.out)
    have HOk : Hid (∀ (u : World) (c : Nat), Mesh.Reads u a1 n xs → Calls Try.prog 18 #[.agg #[.int .i64 R, .slice a1 n c]] u fun e w' => e = .returned (.bool true) ∧ u.grownBy w' none) := Lib.hid (fun u c h => by have q := Mesh.meshOk_is R a1 n c xs u h HH.out; rw [HMM.out] at q; exact q)
    have hm0 := (Mesh.MBox.new w1 R (.slice a1 n c1))
    have HM1 := Lib.hid hm0
    have HO1 := Lib.hid (Mesh.own_reads (ho.alloc (.cells #[.int .i64 R, .slice a1 n c1] 26)))
    have HG1 := Lib.hid (Cell.g_alloc (Mesh.grown_of_below' hb) (.cells #[.int .i64 R, .slice a1 n c1] 26))
    have b0 := hm0.c0
    clear ho hb hm hm0 hxl hn hn128
    go_wp2_with fail
    go_loopw [5] (fun p wr => ∃ k : Nat, (k : Int) ≤ R * 16 ∧ p = .int .i64 k ∧ Hid (Mesh.MBox wr w1.heap.size R (.slice a1 n c1)) ∧ Hid (Mesh.Reads wr a1 n xs) ∧ Hid (w.grownBy wr none)) (fun p _ => (R * 16).toNat - (intOf p).toNat)
    case atStart => exact ⟨0, by omega, rfl, HM1, HO1, HG1⟩
    case round =>
      obtain ⟨k, hk, rfl, HM, HO, HG⟩ := hrel
      have m0 := HM.out.c0
      have m1 := HM.out.c1
      by_cases hlt : (k : Int) < R * 16
      · obtain ⟨j, r, l, i, hj, hx, hla, hs1, hs2, hlo⟩ := Mesh.covered HMM.out (by omega) hlt
        rw [← HE.out] at hj
        have hji : (j : Int) < n := by omega
        have HX := Lib.hid hx; have HLO := Lib.hid hlo
        have hcall : Calls Try.prog 14 #[.agg #[.int .i64 R, .slice a1 n c1], .int .i64 (k : Int)] wr fun e w' => e = .returned (.int .i64 (j : Int)) ∧ wr.grownBy w' none := by
          have q := HLa.out wr c1 k HO.out
          rw [hla] at q
          exact q
        have HCL := Lib.hid hcall
        obtain ⟨g, rfl, -⟩ := HO.out.at_ j _ hx
        clear hcall hla hlo hx hj
        go_upto_region 12 with (go_at_call 14; (with_reducible refine HCL.out.mono ?_); rintro e w2 ⟨rfl, hg⟩; have hm := HM.out.kept hg (by simp); have m20 := hm.c0; have m21 := hm.c1; obtain ⟨g', hg', -, d0, d1, d2⟩ := (HO.out.on hg).at_ j _ HX.out; cases hg'; dsimp only at d0 d1 d2; have HM2 := Lib.hid hm; have HO2 := Lib.hid (HO.out.on hg); have HG2 := Lib.hid (Cell.grown_trans HG.out hg); clear hg hm)
        have hw3 := World.grownBy_alloc w2 (.cells #[.int .i64 r, .int .i64 l, .int .i64 i] 30) none
        obtain ⟨x0, x1, x2, -⟩ := Cell.laid_new w2 30 r l i
        have hM3 := HM2.out.kept hw3 (by simp)
        have m30 := hM3.c0
        have m31 := hM3.c1
        have hR3 := HO2.out.on hw3
        have hG3 := Cell.grown_trans HG2.out hw3
        obtain ⟨y0, y1⟩ := Mesh.wd_bounds l
        obtain ⟨z0, z1⟩ := Mesh.st_bounds r l i
        have e1 : IntKind.i64.wrap (Cell.startOf r l i + Cell.widthOf l) = Cell.startOf r l i + Cell.widthOf l := IntWalk.i64_in _ (by omega)
        have q1 : decide ((k : Int) < Cell.startOf r l i) = false := decide_eq_false (by omega)
        have q2 : decide (Cell.startOf r l i + Cell.widthOf l ≤ (k : Int)) = false := decide_eq_false (by omega)
        clear hw3 d0 d1 d2 m20 m21 m0 m1 HM2 HO2 HG2 HM HO HG
        generalize w2.alloc (.cells #[.int .i64 r, .int .i64 l, .int .i64 i] 30) = w3 at *
        go_region_held3 (fun w' => w'.cell? ⟨w2.heap.size, 0, none⟩ = some (.int .i64 r) ∧ w'.cell? ⟨w2.heap.size, 1, none⟩ = some (.int .i64 l) ∧ w'.cell? ⟨w2.heap.size, 2, none⟩ = some (.int .i64 i)
            ∧ w'.cell? ⟨w1.heap.size, 0, none⟩ = some (.int .i64 R) ∧ w'.cell? ⟨w1.heap.size, 1, none⟩ = some (.slice (some ⟨g, 0, none⟩) n c1) ∧ Mesh.MBox w' w1.heap.size R (.slice (some ⟨g, 0, none⟩) n c1) ∧ Mesh.Reads w' (some ⟨g, 0, none⟩) n xs ∧ w.grownBy w' none)
          ((go_split_ands; refine ⟨?_, ?_, ?_, ?_, ?_, ?_, ?_, ?_⟩ <;> first | assumption | exact hgc.cell (by assumption) (by simp) | exact Mesh.MBox.kept (by assumption) hgc (by simp) | exact Mesh.MBox.kept (by assumption) (Mesh.g_drew (Cell.grown_refl _)) (by simp) | exact Cell.grown_trans (by assumption) hgc | exact Mesh.g_drew (by assumption) | exact Mesh.Reads.on (by assumption) hgc | exact Mesh.Reads.on (by assumption) (Mesh.g_drew (Cell.grown_refl _))))
          (first
            | (go_at_call 15; ((with_reducible refine (Cell.specStart_is r l i _).mono ?_); rintro e w'' ⟨rfl, hgc⟩))
            | (go_at_call 16; ((with_reducible refine (Mesh.specWidth_g l _).mono ?_); rintro e w'' ⟨rfl, hgc⟩))
            | (go_at_call 17; ((with_reducible refine (Mesh.leafOf_is R r l i _ n c1 xs _ (by first | assumption | (go_split_ands; assumption)) HH.out).mono ?_); rw [HLO.out]; rintro e w'' ⟨rfl, hgc⟩)))
        go_split_ands
        go_wp2_with fail
        go_roundw
        case rel => exact ⟨k + 1, by omega, by go_num, Lib.hid (by assumption), Lib.hid (by assumption), Lib.hid (by assumption)⟩
        case measure => simp [intOf]; omega
      · have hke : (k : Int) = R * 16 := by omega
        have HL0 := Lib.hid (Mesh.uncovered HMM.out (pos := -1) (by omega))
        have HL1 := Lib.hid (Mesh.uncovered HMM.out (pos := R * 16) (by omega))
        go_wp2_with (first
          | (go_at_call 14; (with_reducible refine (HLa.out _ c1 (-1) HO.out).mono ?_); rw [HL0.out]; clear HL0; rintro e w2 ⟨rfl, hg⟩; have hm := HM.out.kept hg (by simp); have m20 := hm.c0; have m21 := hm.c1; have HM2 := Lib.hid hm; have HO2 := Lib.hid (HO.out.on hg); have HG2 := Lib.hid (Cell.grown_trans HG.out hg); clear hg hm HM HO HG)
          | (go_at_call 14; (with_reducible refine (HLa.out _ c1 (R * 16) HO2.out).mono ?_); rw [HL1.out]; clear HL1; rintro e w3 ⟨rfl, hg⟩; have hm := HM2.out.kept hg (by simp); have m30 := hm.c0; have m31 := hm.c1; have HO3 := Lib.hid (HO2.out.on hg); have HG3 := Lib.hid (Cell.grown_trans HG2.out hg); clear hg hm HM2 HO2 HG2)
          | (go_at_call 18; (with_reducible refine (HOk.out _ _ HO3.out).mono ?_); clear HOk; rintro e w4 ⟨rfl, hg⟩; have HG4 := Lib.hid (Cell.grown_trans HG3.out hg); clear hg HO3 HG3))
        go_ret
        exact ⟨rfl, Cell.grown_below HG4.out (Nat.le_refl _)⟩

set_option maxRecDepth 100000 in
theorem lifted (os : Os) (started : os.Started) (H : Type) (enc : TypeId × Value → H) :
    ReturnsInHanded {} Try.checked os 3 .any (Rows.fnCoveredSpec.pre6 enc Try.prog Try.f3 Rows.fnCoveredRow.domain false) (Rows.fnCoveredSpec.post enc Try.prog Try.f3 false true false false) := by
  refine returnsInHanded_of_change (C := Try.checked) own started (by kernel_rfl) Try.func3
    (ChangeSpec.witness6 (enc := enc) (C := Try.checked) false ⟨#[], #[.slice none 0 0], []⟩ 8 (by kernel_rfl) (by kernel_rfl) (by kernel_rfl) (by kernel_rfl)) ?_
  intro W base args ds gs before hval0 hW hcnd _
  have hval : ∀ (j : Nat) t v, Try.f3.params[j]? = some t → args[j]? = some v → Value.okWide Try.prog W .any base t v := hval0
  have hW' := hW
  obtain ⟨p, q, hA0, hV, rfl, hfz, hnd⟩ := hW
  have hA : DataW.TrodAll enc Try.prog W 0 (fun _ => true) true Try.f3.params.toList args.toList ds p := hA0
  rw [Try.params3] at hA hval
  obtain ⟨v0, vs0, d0, ds0, p0, q0, hargs, rfl, rfl, h0, r0⟩ := trodAll_cons hA
  obtain ⟨rfl, rfl, rfl⟩ := trodAll_nil r0
  obtain rfl : args = #[v0] := by cases args; simp_all
  obtain ⟨rfl, rfl⟩ := trodVars_none hV
  obtain ⟨a0, len0, cap0, rfl⟩ := okWide_slice Try.underlying22 (hval 0 22 v0 rfl rfl)
  have k0 := h0
  have lt0 : ∀ x ∈ p0, x.block < W.heap.size := by obtain ⟨m, hm⟩ := k0; exact DataW.trod_lt m _ _ _ hm
  obtain ⟨z0, w0⟩ : ∃ zs, IsRow .u8 W a0 len0 cap0 zs := by
    obtain ⟨fuel, hf⟩ := h0
    rcases open_ints Try.underlying22 Try.underlying5 (by kernel_rfl) hf with ⟨hcs, _⟩ | ⟨x, l, c, zs, hcs, _, hl, hm, hz, _, hcell, hwz⟩
    · simp [Value.cells] at hcs
      obtain ⟨rfl, rfl, rfl⟩ := hcs
      exact ⟨[], .inl ⟨rfl, rfl, rfl, rfl⟩⟩
    · simp [Value.cells] at hcs
      obtain ⟨rfl, rfl, rfl⟩ := hcs
      exact ⟨zs, .inr ⟨_, rfl, hl, hm, by simpa using hz, hcell, hwz⟩⟩
  clear hA0 hval0
  refine (walk a0 len0 cap0 z0 W w0).mono fun e W' ⟨he, bel⟩ => ?_
  subst he
  exact ⟨_, rfl, _, _, _, [], _, [], hW', trodAll_mk1 (shut_bool Try.underlying4 _), (trodAll_cons_mk (Below.trod laidOut (by kernel_rfl) (of_decide_eq_true (by kernel_rfl)) k0 bel lt0) trodAll_mk0), rfl, bel.frame _, fun h => by cases h⟩

theorem over : Rows.fnCoveredRow.holds Try.pinned (OpenSpec.ofChange Rows.fnCoveredSpec) :=
  OpenClaim.holds_of_wide 3 Try.f3 rfl rfl rfl rfl rfl rfl rfl ⟨rfl, rfl, rfl, rfl, rfl⟩ rfl rfl rfl rfl rfl (by kernel_rfl) Try.func3 (by kernel_rfl)
    (of_decide_eq_true (by kernel_rfl)) (by unfold Func.isWrapper; first | (rw [if_pos (by decide +kernel)]; kernel_rfl) | (rw [if_neg (by decide +kernel)]; exact ⟨rfl, rfl⟩))
    (fun os started H enc _ => lifted os started H enc)

theorem proved : Rows.FnCoveredSaid := over
#print axioms proved
end Go.Proofs.Ytjhfjceieaanhaa.fnCovered
