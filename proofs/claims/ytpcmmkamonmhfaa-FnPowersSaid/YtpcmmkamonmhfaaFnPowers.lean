/- Proved: for every slice of bytes the law FnPowers returns true: the logarithm of a power of two is exact, and halves add up.
   Conditions: none besides those that the given row prints. -/
import Derived.Test.YtpcmmkamonmhfaaRows
import Derived.WalkKit
import Derived.ProofKit
import Derived.OpenShut
import Derived.ShutString
import Derived.Test.YtpcmmkamonmhfaaPlaces
import Derived.Test.YtpcmmkamonmhfaaPow
import Derived.ChangeOld
import Derived.Below
namespace Go.Proofs.Ytpcmmkamonmhfaa.fnPowers
open Go.ChangeShapes Go.WideShapes Go.ChangeAt Go.RowKit
open Go.ChangeMaps (open_string shut_string)
set_option linter.unusedVariables false

theorem own : ownKnob Try.prog.godebug = none := by kernel_rfl
theorem laidOut : laidOutB Try.prog = true := by kernel_rfl

def IsRow (k : IntKind) (w : World) (a : Option Addr) (len cap : Nat) (zs : List Int) : Prop :=
  (a = none ∧ len = 0 ∧ cap = 0 ∧ zs = []) ∨
  ∃ x, a = some x ∧ len ≤ cap ∧ cap ≤ maxLen ∧ zs.length = cap ∧ (∀ i, i < zs.length → w.cell? (x.add i) = some (.int k (zs.getD i 0))) ∧ ∀ n ∈ zs, (Lit.int k n).wf = true

set_option maxHeartbeats 2000000 in
theorem walk (a0 : Option Addr) (len0 cap0 : Nat) (z0 : List Int) (w : World) (w0 : IsRow .u8 w a0 len0 cap0 z0) :
    Calls Try.prog 4 #[.slice a0 len0 cap0] w fun e w' => e = .returned (.bool true) ∧ Below w.heap.size w w' := by
  have hb := Draw.bytes_of w0
  have HB := Lib.hid hb; clear hb
  clear w0
  by_cases hlen : 1048576 < len0
  · have hd : decide (1048576 < (len0 : Int)) = true := by simp; omega
    go_enter Try.func4, Try.ntmps4
    go_wp2_with fail
    refine Draw.big_any.mono ?_; rintro e w1 ⟨rfl, rfl⟩
    rw [hd]
    go_wp2_with fail
    go_ret
    exact ⟨rfl, Below.refl _ _⟩
  · have hd : decide (1048576 < (len0 : Int)) = false := by simp; omega
    have hlen' : len0 ≤ 1048576 := by omega
    have HLen := Lib.hid hlen'; clear hlen'
    go_enter Try.func4, Try.ntmps4
    go_wp2_with fail
    refine Draw.big_any.mono ?_; rintro e w1 ⟨rfl, rfl⟩
    rw [hd]
    clear hd hlen
    go_wp2_with fail
    refine (Draw.draw_places HLen.out HB.out (Nat.le_refl _)).mono ?_; rintro e w1 ⟨g, cp, pl, rfl, hg0, hg1, hpl, hbel⟩
    obtain ⟨p00, p01, p02⟩ := hpl 0 (by omega)
    obtain ⟨p10, p11, p12⟩ := hpl 1 (by omega)
    obtain ⟨p20, p21, p22⟩ := hpl 2 (by omega)
    clear hpl
    generalize pl 0 = x at p00 p01 p02
    generalize pl 1 = y at p10 p11 p12
    generalize pl 2 = z at p20 p21 p22
    obtain ⟨k, hk⟩ : ∃ k : Nat, (k : Int) = x % 60 := ⟨(x % 60).toNat, by omega⟩
    have hk60 : k < 60 := by omega
    have q1 := fun u => Draw.split_is y (by omega) (by omega) u
    obtain ⟨m, hm, hm13, m1, m2⟩ := Draw.log_range (1 + z) (by omega) (by omega)
    have q2 := fun u => Draw.log_is (1 + z) (by omega) u
    rw [hm] at q2
    obtain ⟨P, hP⟩ : ∃ P : Int, (2 : Int) ^ k = P := ⟨_, rfl⟩
    obtain ⟨R, hR⟩ : ∃ R : Int, (2 : Int) ^ m = R := ⟨_, rfl⟩
    obtain ⟨R2, hR2⟩ : ∃ R2 : Int, (2 : Int) ^ (m + 1) = R2 := ⟨_, rfl⟩
    have hRR : R2 = 2 * R := by rw [← hR2, ← hR, Int.pow_succ, Int.mul_comm]
    have hP0 := Draw.pow_most ⟨k, hk60⟩
    have hP1 := Draw.pow_and ⟨k, hk60⟩
    have hP2 := Draw.pred_and ⟨k, hk60⟩
    have hP3 := Draw.log_pow k hk60
    simp only [hP] at hP0 hP1 hP2 hP3
    rw [hR] at m1
    rw [hR2] at m2
    have hR0 : 1 ≤ R := by omega
    have q3 := fun u => Draw.log_is P (by omega) u
    rw [hP3] at q3
    have q4 := fun u => Draw.power_yes P (by omega) (by omega) hP1 u
    have q5 := fun h u => Draw.power_no (P - 1) (by have := hP0.2.2 h; omega) (by omega) (hP2 h) u
    have Q1 := Lib.hid q1; clear q1
    have Q2 := Lib.hid q2; clear q2
    have Q3 := Lib.hid q3; clear q3
    have Q4 := Lib.hid q4; clear q4
    have Q5 := Lib.hid q5; clear q5
    have HM := Lib.hid hm; clear hm
    have HBel := Lib.hid hbel; clear hbel
    obtain ⟨hP4, hP5, _⟩ := hP0
    clear hg0 hg1 hP1 hP2 hP3
    have hk0 : (0 : Int) ≤ k := by omega
    have hk1 : (k : Int) ≤ 59 := by omega
    have hm0 : (0 : Int) ≤ m := by omega
    have hm1 : (m : Int) ≤ 13 := by omega
    have HK := Lib.hid hk60; clear hk60 hm13
    have ht : ((m : Int) + 1).toNat = m + 1 := by omega
    go_wp2_with fail
    refine (Q1.out _).mono ?_; rintro e w2 ⟨rfl, rfl⟩
    rw [← hk]
    clear hk
    go_wp2_with fail
    refine (Q2.out _).mono ?_; rintro e w3 ⟨rfl, rfl⟩
    go_wp2_with fail
    refine (Q3.out _).mono ?_; rintro e w4 ⟨rfl, rfl⟩
    go_wp2_with fail
    refine (Q4.out _).mono ?_; rintro e w5 ⟨rfl, rfl⟩
    by_cases hk2 : (k : Int) < 2
    · go_wp2_with fail
      go_ret
      exact ⟨by show Ending.returned (.bool (decide (1 + z < 2 * R))) = _; rw [decide_eq_true (by omega)], HBel.out⟩
    · go_wp2_with fail
      refine (Q5.out (by omega) _).mono ?_; rintro e w6 ⟨rfl, rfl⟩
      go_wp2_with fail
      go_ret
      exact ⟨by show Ending.returned (.bool (decide (1 + z < 2 * R))) = _; rw [decide_eq_true (by omega)], HBel.out⟩

set_option maxRecDepth 100000 in
theorem lifted (os : Os) (started : os.Started) (H : Type) (enc : TypeId × Value → H) :
    ReturnsInHanded {} Try.checked os 4 .any (Rows.fnPowersSpec.pre6 enc Try.prog Try.f4 Rows.fnPowersRow.domain false) (Rows.fnPowersSpec.post enc Try.prog Try.f4 false true false false) := by
  refine returnsInHanded_of_change (C := Try.checked) own started (by kernel_rfl) Try.func4
    (ChangeSpec.witness6 (enc := enc) (C := Try.checked) false ⟨#[], #[.slice none 0 0], []⟩ 8 (by kernel_rfl) (by kernel_rfl) (by kernel_rfl) (by kernel_rfl)) ?_
  intro W base args ds gs before hval0 hW hcnd _
  have hval : ∀ (j : Nat) t v, Try.f4.params[j]? = some t → args[j]? = some v → Value.okWide Try.prog W .any base t v := hval0
  have hW' := hW
  obtain ⟨p, q, hA0, hV, rfl, hfz, hnd⟩ := hW
  have hA : DataW.TrodAll enc Try.prog W 0 (fun _ => true) true Try.f4.params.toList args.toList ds p := hA0
  rw [Try.params4] at hA hval
  obtain ⟨v0, vs0, d0, ds0, p0, q0, hargs, rfl, rfl, h0, r0⟩ := trodAll_cons hA
  obtain ⟨rfl, rfl, rfl⟩ := trodAll_nil r0
  obtain rfl : args = #[v0] := by cases args; simp_all
  obtain ⟨rfl, rfl⟩ := trodVars_none hV
  obtain ⟨a0, len0, cap0, rfl⟩ := okWide_slice Try.underlying22 (hval 0 22 v0 rfl rfl)
  have k0 := h0
  have lt0 : ∀ x ∈ p0, x.block < W.heap.size := by obtain ⟨m, hm⟩ := k0; exact DataW.trod_lt m _ _ _ hm
  obtain ⟨z0, w0⟩ : ∃ zs, IsRow .u8 W a0 len0 cap0 zs := by
    obtain ⟨fuel, hf⟩ := h0
    rcases open_ints Try.underlying22 Try.underlying5 (by kernel_rfl) hf with ⟨hcs, _⟩ | ⟨x, l, c, zs, hcs, _, hl, hm, hz, _, hcell, hwz⟩
    · simp [Value.cells] at hcs
      obtain ⟨rfl, rfl, rfl⟩ := hcs
      exact ⟨[], .inl ⟨rfl, rfl, rfl, rfl⟩⟩
    · simp [Value.cells] at hcs
      obtain ⟨rfl, rfl, rfl⟩ := hcs
      exact ⟨zs, .inr ⟨_, rfl, hl, hm, by simpa using hz, hcell, hwz⟩⟩
  clear hA0 hval0
  refine (walk a0 len0 cap0 z0 W w0).mono fun e W' ⟨he, bel⟩ => ?_
  subst he
  exact ⟨_, rfl, _, _, _, [], _, [], hW', trodAll_mk1 (shut_bool Try.underlying4 _), (trodAll_cons_mk (Below.trod laidOut (by kernel_rfl) (of_decide_eq_true (by kernel_rfl)) k0 bel lt0) trodAll_mk0), rfl, bel.frame _, fun h => by cases h⟩

theorem over : Rows.fnPowersRow.holds Try.pinned (OpenSpec.ofChange Rows.fnPowersSpec) :=
  OpenClaim.holds_of_wide 4 Try.f4 rfl rfl rfl rfl rfl rfl rfl ⟨rfl, rfl, rfl, rfl, rfl⟩ rfl rfl rfl rfl rfl (by kernel_rfl) Try.func4 (by kernel_rfl)
    (of_decide_eq_true (by kernel_rfl)) (by unfold Func.isWrapper; first | (rw [if_pos (by decide +kernel)]; kernel_rfl) | (rw [if_neg (by decide +kernel)]; exact ⟨rfl, rfl⟩))
    (fun os started H enc _ => lifted os started H enc)

theorem proved : Rows.FnPowersSaid := over
#print axioms proved
end Go.Proofs.Ytpcmmkamonmhfaa.fnPowers
