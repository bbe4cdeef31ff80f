/- Proved: for every slice of bytes the law FnQuotients returns true: the rounded quotients of the drawn numbers lie where they should.
   Conditions: none besides those that the given row prints. -/
import Derived.Test.YtpcmmkamonmhfaaRows
import Derived.WalkKit
import Derived.ProofKit
import Derived.OpenShut
import Derived.ShutString
import Derived.Test.YtpcmmkamonmhfaaPlaces
import Derived.Test.YtpcmmkamonmhfaaDivs
import Derived.Test.YtpcmmkamonmhfaaQuotLaw
import Derived.ChangeOld
import Derived.Below
namespace Go.Proofs.Ytpcmmkamonmhfaa.fnQuotients
open Go.ChangeShapes Go.WideShapes Go.ChangeAt Go.RowKit
open Go.ChangeMaps (open_string shut_string)
set_option linter.unusedVariables false

theorem own : ownKnob Try.prog.godebug = none := by kernel_rfl
theorem laidOut : laidOutB Try.prog = true := by kernel_rfl

def IsRow (k : IntKind) (w : World) (a : Option Addr) (len cap : Nat) (zs : List Int) : Prop :=
  (a = none ∧ len = 0 ∧ cap = 0 ∧ zs = []) ∨
  ∃ x, a = some x ∧ len ≤ cap ∧ cap ≤ maxLen ∧ zs.length = cap ∧ (∀ i, i < zs.length → w.cell? (x.add i) = some (.int k (zs.getD i 0))) ∧ ∀ n ∈ zs, (Lit.int k n).wf = true

theorem walk (a0 : Option Addr) (len0 cap0 : Nat) (z0 : List Int) (w : World) (w0 : IsRow .u8 w a0 len0 cap0 z0) :
    Calls Try.prog 3 #[.slice a0 len0 cap0] w fun e w' => e = .returned (.bool true) ∧ Below w.heap.size w w' := by
  have hb := Draw.bytes_of w0
  have HB := Lib.hid hb; clear hb
  clear w0
  by_cases hlen : 1048576 < len0
  · have hd : decide (1048576 < (len0 : Int)) = true := by simp; omega
    go_enter Try.func3, Try.ntmps3
    go_wp2_with fail
    refine Draw.big_any.mono ?_; rintro e w1 ⟨rfl, rfl⟩
    rw [hd]
    go_wp2_with fail
    go_ret
    exact ⟨rfl, Below.refl _ _⟩
  · have hd : decide (1048576 < (len0 : Int)) = false := by simp; omega
    have hlen' : len0 ≤ 1048576 := by omega
    have HLen := Lib.hid hlen'; clear hlen'
    go_enter Try.func3, Try.ntmps3
    go_wp2_with fail
    refine Draw.big_any.mono ?_; rintro e w1 ⟨rfl, rfl⟩
    rw [hd]
    clear hd hlen
    go_wp2_with fail
    refine (Draw.draw_places HLen.out HB.out (Nat.le_refl _)).mono ?_; rintro e w1 ⟨g, cp, pl, rfl, hg0, hg1, hpl, hbel⟩
    obtain ⟨p00, p01, p02⟩ := hpl 0 (by omega)
    obtain ⟨p10, p11, p12⟩ := hpl 1 (by omega)
    clear hpl
    generalize pl 0 = x at p00 p01 p02
    generalize pl 1 = y at p10 p11 p12
    go_wp2_with fail
    obtain ⟨a, ha⟩ : ∃ a, a = x - 5000 := ⟨_, rfl⟩
    obtain ⟨b, hbv⟩ : ∃ b, b = 1 + y % 500 := ⟨_, rfl⟩
    rw [← ha, ← hbv]
    have ha0 : -5000 ≤ a := by omega
    have ha1 : a ≤ 4999 := by omega
    have hb0 : 1 ≤ b := by omega
    have hb1 : b ≤ 500 := by omega
    clear p02 p12 hg0 hg1
    have HA := Lib.hid ha; clear ha
    have HBV := Lib.hid hbv; clear hbv
    have q1 := fun u => Draw.floor_is a b (by omega) (by omega) u
    have q2 := fun u => Draw.trunc_is a b (by omega) (by omega) u
    have q3 := fun u => Draw.nears_is a b u
    have q4 := fun u => Draw.trunc_is (-a) b (by omega) (by omega) u
    obtain ⟨f, t, n, h1, h2, h3, h4, f0, f1, t0, t1, n0, n1, k1, k2, k3, k4, k5, k6⟩ := Quot.laws ha0 ha1 hb0 hb1
    simp only [if_neg (show ¬ b ≤ 0 by omega), h1, h2, h4] at q1 q2 q4
    simp only [show Draw.near a b = n by unfold Draw.near; rw [if_pos (by omega), h3]] at q3
    have Q1 := Lib.hid q1; clear q1
    have Q2 := Lib.hid q2; clear q2
    have Q3 := Lib.hid q3; clear q3
    have Q4 := Lib.hid q4; clear q4
    clear h1 h2 h3 h4 p00 p01 p10 p11
    refine (Q1.out _).mono ?_; rintro e w2 ⟨rfl, g2⟩
    go_wp2_with fail
    refine (Q2.out _).mono ?_; rintro e w3 ⟨rfl, g3⟩
    go_wp2_with fail
    refine (Q3.out _).mono ?_; rintro e w4 ⟨rfl, g4⟩
    have HG := Lib.hid (hbel.grown (Draw.grown_trans g2 (Draw.grown_trans g3 g4)) hbel.size (fun _ e => by cases e))
    clear g2 g3 g4 hbel
    go_wp2_with fail
    refine (Q4.out _).mono ?_; rintro e w5 ⟨rfl, g5⟩
    have HG5 := Lib.hid (HG.out.grown g5 HG.out.size (fun _ e => by cases e))
    clear g5
    by_cases ha2 : a < 0
    · clear k4
      go_wp2_with fail
      go_ret
      exact ⟨by show Ending.returned (.bool (decide (2 * (a - n * b) < b))) = _; rw [decide_eq_true (by omega)], HG5.out⟩
    · obtain rfl : t = f := k4 (by omega)
      clear k4
      go_wp2_with fail
      go_ret
      exact ⟨by show Ending.returned (.bool (decide (2 * (a - n * b) < b))) = _; rw [decide_eq_true (by omega)], HG5.out⟩

set_option maxRecDepth 100000 in
theorem lifted (os : Os) (started : os.Started) (H : Type) (enc : TypeId × Value → H) :
    ReturnsInHanded {} Try.checked os 3 .any (Rows.fnQuotientsSpec.pre6 enc Try.prog Try.f3 Rows.fnQuotientsRow.domain false) (Rows.fnQuotientsSpec.post enc Try.prog Try.f3 false true false false) := by
  refine returnsInHanded_of_change (C := Try.checked) own started (by kernel_rfl) Try.func3
    (ChangeSpec.witness6 (enc := enc) (C := Try.checked) false ⟨#[], #[.slice none 0 0], []⟩ 8 (by kernel_rfl) (by kernel_rfl) (by kernel_rfl) (by kernel_rfl)) ?_
  intro W base args ds gs before hval0 hW hcnd _
  have hval : ∀ (j : Nat) t v, Try.f3.params[j]? = some t → args[j]? = some v → Value.okWide Try.prog W .any base t v := hval0
  have hW' := hW
  obtain ⟨p, q, hA0, hV, rfl, hfz, hnd⟩ := hW
  have hA : DataW.TrodAll enc Try.prog W 0 (fun _ => true) true Try.f3.params.toList args.toList ds p := hA0
  rw [Try.params3] at hA hval
  obtain ⟨v0, vs0, d0, ds0, p0, q0, hargs, rfl, rfl, h0, r0⟩ := trodAll_cons hA
  obtain ⟨rfl, rfl, rfl⟩ := trodAll_nil r0
  obtain rfl : args = #[v0] := by cases args; simp_all
  obtain ⟨rfl, rfl⟩ := trodVars_none hV
  obtain ⟨a0, len0, cap0, rfl⟩ := okWide_slice Try.underlying22 (hval 0 22 v0 rfl rfl)
  have k0 := h0
  have lt0 : ∀ x ∈ p0, x.block < W.heap.size := by obtain ⟨m, hm⟩ := k0; exact DataW.trod_lt m _ _ _ hm
  obtain ⟨z0, w0⟩ : ∃ zs, IsRow .u8 W a0 len0 cap0 zs := by
    obtain ⟨fuel, hf⟩ := h0
    rcases open_ints Try.underlying22 Try.underlying5 (by kernel_rfl) hf with ⟨hcs, _⟩ | ⟨x, l, c, zs, hcs, _, hl, hm, hz, _, hcell, hwz⟩
    · simp [Value.cells] at hcs
      obtain ⟨rfl, rfl, rfl⟩ := hcs
      exact ⟨[], .inl ⟨rfl, rfl, rfl, rfl⟩⟩
    · simp [Value.cells] at hcs
      obtain ⟨rfl, rfl, rfl⟩ := hcs
      exact ⟨zs, .inr ⟨_, rfl, hl, hm, by simpa using hz, hcell, hwz⟩⟩
  clear hA0 hval0
  refine (walk a0 len0 cap0 z0 W w0).mono fun e W' ⟨he, bel⟩ => ?_
  subst he
  exact ⟨_, rfl, _, _, _, [], _, [], hW', trodAll_mk1 (shut_bool Try.underlying4 _), (trodAll_cons_mk (Below.trod laidOut (by kernel_rfl) (of_decide_eq_true (by kernel_rfl)) k0 bel lt0) trodAll_mk0), rfl, bel.frame _, fun h => by cases h⟩

theorem over : Rows.fnQuotientsRow.holds Try.pinned (OpenSpec.ofChange Rows.fnQuotientsSpec) :=
  OpenClaim.holds_of_wide 3 Try.f3 rfl rfl rfl rfl rfl rfl rfl ⟨rfl, rfl, rfl, rfl, rfl⟩ rfl rfl rfl rfl rfl (by kernel_rfl) Try.func3 (by kernel_rfl)
    (of_decide_eq_true (by kernel_rfl)) (by unfold Func.isWrapper; first | (rw [if_pos (by decide +kernel)]; kernel_rfl) | (rw [if_neg (by decide +kernel)]; exact ⟨rfl, rfl⟩))
    (fun os started H enc _ => lifted os started H enc)

theorem proved : Rows.FnQuotientsSaid := over
#print axioms proved
end Go.Proofs.Ytpcmmkamonmhfaa.fnQuotients
