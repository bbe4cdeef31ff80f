/- Proved: for every slice of bytes the law FnCarried returns true: of a drawn leaf, what leaves it to the right, what leaves it to the left and what stays each have no smaller share than the leaf's rounded down and no greater one than the leaf's rounded up, and both parts are the share of both masses together.
   Conditions: none besides those that the given row prints. -/
import Derived.Test.YtfoilfgiablleaaRows
import Derived.WalkKit
import Derived.ProofKit
import Derived.OpenShut
import Derived.ShutString
import Derived.Test.YtfoilfgiablleaaStTrcI
import Derived.ChangeOld
import Derived.Below
set_option maxRecDepth 100000
namespace Go.Proofs.Ytfoilfgiablleaa.fnCarried
open Go.ChangeShapes Go.WideShapes Go.ChangeAt Go.RowKit
open Go.ChangeMaps (open_string shut_string)
set_option linter.unusedVariables false

theorem own : ownKnob Try.prog.godebug = none := by kernel_rfl
theorem laidOut : laidOutB Try.prog = true := by kernel_rfl

def IsRow (k : IntKind) (w : World) (a : Option Addr) (len cap : Nat) (zs : List Int) : Prop :=
  (a = none ∧ len = 0 ∧ cap = 0 ∧ zs = []) ∨
  ∃ x, a = some x ∧ len ≤ cap ∧ cap ≤ maxLen ∧ zs.length = cap ∧ (∀ i, i < zs.length → w.cell? (x.add i) = some (.int k (zs.getD i 0))) ∧ ∀ n ∈ zs, (Lit.int k n).wf = true

set_option maxHeartbeats 8000000 in
theorem walk (a0 : Option Addr) (len0 cap0 : Nat) (z0 : List Int) (w : World) (w0 : IsRow .u8 w a0 len0 cap0 z0) :
    Calls Try.prog 6 #[.slice a0 len0 cap0] w fun e w' => e = .returned (.bool true) ∧ Below w.heap.size w w' := by
  have hb := Draw.bytes_of w0
  have HB := Lib.hid hb; clear hb
  clear w0
  by_cases hlen : 1048576 < len0
  · have hd : decide (1048576 < (len0 : Int)) = true := by simp; omega
    go_enter Try.func6, Try.ntmps6
    go_wp2_with fail
    refine Draw.big_any.mono ?_; rintro e w1 ⟨rfl, rfl⟩
    rw [hd]
    go_wp2_with fail
    go_ret
    exact ⟨rfl, Below.refl _ _⟩
  · have hd : decide (1048576 < (len0 : Int)) = false := by simp; omega
    have hlen' : len0 ≤ 1048576 := by omega
    have HLen := Lib.hid hlen'; clear hlen'
    go_enter Try.func6, Try.ntmps6
    go_wp2_with fail
    refine Draw.big_any.mono ?_; rintro e w1 ⟨rfl, rfl⟩
    rw [hd]
    clear hd hlen
    go_wp2_with fail
    refine (Draw.draw_places HLen.out HB.out (Nat.le_refl _)).mono ?_; rintro e w1 ⟨g, cp, pl, rfl, hg0, hg1, hpl, hbel⟩
    obtain ⟨p00, p01, p02⟩ := hpl 0 (by omega)
    obtain ⟨p10, p11, p12⟩ := hpl 1 (by omega)
    obtain ⟨p20, p21, p22⟩ := hpl 2 (by omega)
    obtain ⟨p30, p31, p32⟩ := hpl 3 (by omega)
    obtain ⟨p40, p41, p42⟩ := hpl 4 (by omega)
    clear hpl
    generalize pl 0 = x0 at p00 p01 p02
    generalize pl 1 = x1 at p10 p11 p12
    generalize pl 2 = x2 at p20 p21 p22
    generalize pl 3 = x3 at p30 p31 p32
    generalize pl 4 = x4 at p40 p41 p42
    have HBel := Lib.hid hbel; clear hbel hg0 hg1
    obtain ⟨m, hm⟩ : ∃ m, 4 + x0 = m := ⟨_, rfl⟩
    have m0 : 4 ≤ m := by omega
    have m1 : m ≤ 10003 := by omega
    have wm : IntKind.i64.wrap (4 + x0) = m := by rw [hm]; exact IntWalk.i64_in _ (by omega)
    obtain ⟨j, hj⟩ : ∃ j, x2.tmod 50 = j := ⟨_, rfl⟩
    have j0 : 0 ≤ j ∧ j ≤ 49 := by rw [← hj, Int.tmod_eq_emod_of_nonneg p20]; omega
    obtain ⟨D, hD⟩ : ∃ D, x1 * (1 + j) = D := ⟨_, rfl⟩
    have d0 : 0 ≤ D ∧ D ≤ 499950 := by
      have a := Int.mul_le_mul_of_nonneg_right p11 (show 0 ≤ 1 + j by omega)
      have b := Int.mul_nonneg p10 (show 0 ≤ 1 + j by omega)
      omega
    have wD : IntKind.i64.wrap (x1 * (1 + j)) = D := by rw [hD]; exact IntWalk.i64_in _ (by omega)
    obtain ⟨t, ht⟩ : ∃ t, D.tmod (1000 * m) = t := ⟨_, rfl⟩
    have t0 : 0 ≤ t ∧ t < 1000 * m := by rw [← ht, Int.tmod_eq_emod_of_nonneg d0.1]; exact ⟨Int.emod_nonneg _ (by omega), Int.emod_lt_of_pos _ (by omega)⟩
    have z0 : ¬ 1000 * m = 0 := by omega
    obtain ⟨s, hs⟩ : ∃ s, m.tdiv 4 = s := ⟨_, rfl⟩
    have s0 : 1 ≤ s ∧ 4 * s ≤ m := by rw [← hs, Int.tdiv_eq_ediv_of_nonneg (by omega)]; omega
    have z1 : ¬ s + 1 = 0 := by omega
    obtain ⟨r, hr⟩ : ∃ r, x3.tmod (s + 1) = r := ⟨_, rfl⟩
    have r0 : 0 ≤ r ∧ r ≤ s := by rw [← hr, Int.tmod_eq_emod_of_nonneg p30]; exact ⟨Int.emod_nonneg _ (by omega), by have := Int.emod_lt_of_pos x3 (show 0 < s + 1 by omega); omega⟩
    obtain ⟨l, hl⟩ : ∃ l, x4.tmod (s + 1) = l := ⟨_, rfl⟩
    have l0 : 0 ≤ l ∧ l ≤ s := by rw [← hl, Int.tmod_eq_emod_of_nonneg p40]; exact ⟨Int.emod_nonneg _ (by omega), by have := Int.emod_lt_of_pos x4 (show 0 < s + 1 by omega); omega⟩
    obtain ⟨q0, q1, q2, q3, q4, q5⟩ := State.carried (t := t) (m := m) (r := r) (l := l) (by omega) (by omega) (by omega) (by omega) r0.1 l0.1 (by omega)
    have HLO := Lib.hid (fun u => State.leafOut_is t m r l (by omega) (by omega) u)
    have HSO := Lib.hid (fun u => State.specShare_is t (r + l) m u)
    have ho : State.outB t m r l = true := decide_eq_true (by omega)
    rw [show State.outR t m r l = State.shareOf t r m from if_pos ho, show State.outL t m r l = State.shareOf t (r + l) m - State.shareOf t r m from if_pos ho] at HLO
    clear ho
    obtain ⟨a0, a1⟩ := State.share_range t r m
    obtain ⟨c0, c1⟩ := State.share_range t (r + l) m
    generalize State.shareOf t r m = a at *
    generalize State.shareOf t (r + l) m = c at *
    obtain ⟨b, hb⟩ : ∃ b, c - a = b := ⟨_, rfl⟩
    rw [hb] at HLO q2 q3
    obtain ⟨lo, hlo⟩ : ∃ lo, t.tdiv m = lo := ⟨_, rfl⟩
    obtain ⟨hi, hhi⟩ : ∃ hi, (t + m - 1).tdiv m = hi := ⟨_, rfl⟩
    rw [← Int.tdiv_eq_ediv_of_nonneg (show 0 ≤ t by omega), hlo] at q0 q2 q4
    rw [← Int.tdiv_eq_ediv_of_nonneg (show 0 ≤ t + m - 1 by omega), hhi] at q1 q3 q5
    have lo0 : 0 ≤ lo ∧ lo ≤ 1000 := by
      rw [← hlo, Int.tdiv_eq_ediv_of_nonneg (by omega)]
      exact State.low_bounds (by omega) (by omega) (by omega)
    have hi0 : 0 ≤ hi ∧ hi ≤ 1000 := by
      rw [← hhi, Int.tdiv_eq_ediv_of_nonneg (by omega), State.ceil_eq (by omega)]
      have q := State.up_bounds (t := t) (m := m) (by omega) (by omega) (by omega)
      rw [show State.upN t m = -(-t / m) from if_neg (by omega)] at q
      exact ⟨q.1, q.2.1⟩
    have pb : ∀ u v : Int, 0 ≤ u ∧ u ≤ 1000 → 0 ≤ v → v ≤ 10003 → 0 ≤ u * v ∧ u * v ≤ 10003000 := fun u v hu hv hv' => by
      have e1 := Int.mul_le_mul_of_nonneg_right hu.2 hv
      have e2 := Int.mul_nonneg hu.1 hv
      omega
    obtain ⟨n, hn⟩ : ∃ n, m - r - l = n := ⟨_, rfl⟩
    rw [hn] at q4 q5
    have g1 := pb lo r lo0 (by omega) (by omega)
    have g2 := pb hi r hi0 (by omega) (by omega)
    have g3 := pb lo l lo0 (by omega) (by omega)
    have g4 := pb hi l hi0 (by omega) (by omega)
    have g5 := pb lo n lo0 (by omega) (by omega)
    have g6 := pb hi n hi0 (by omega) (by omega)
    clear pb
    have z2 : ¬ m = 0 := by omega
    have wn : IntKind.i64.wrap (m - r - l) = n := by rw [hn]; exact IntWalk.i64_in _ (by omega)
    have v1 : IntKind.i64.wrap (lo * r) = lo * r := IntWalk.i64_in _ (by omega)
    have v2 : IntKind.i64.wrap (hi * r) = hi * r := IntWalk.i64_in _ (by omega)
    have v3 : IntKind.i64.wrap (lo * l) = lo * l := IntWalk.i64_in _ (by omega)
    have v4 : IntKind.i64.wrap (hi * l) = hi * l := IntWalk.i64_in _ (by omega)
    have v5 : IntKind.i64.wrap (lo * n) = lo * n := IntWalk.i64_in _ (by omega)
    have v6 : IntKind.i64.wrap (hi * n) = hi * n := IntWalk.i64_in _ (by omega)
    go_upto_region 5 with fail
    go_quiet (fail)
    have HG5 := Lib.hid (Cell.g_drewN (Cell.grown_refl w1) nq)
    have HB5 := Lib.hid (HBel.out.grown HG5.out HBel.out.size (fun k e => by cases e))
    have c3 := HG5.out.cell p32 (by simp)
    have c4 := HG5.out.cell p42 (by simp)
    clear p02 p12 p22 p32 p42 HBel HG5 wD hD hj p00 p01 p10 p11 p20 p21 z0
    generalize w1.drewN nq = w5 at *
    go_upto_region 12 with (go_at_call 30; ((with_reducible refine (HLO.out _).mono ?_); rintro e w2 ⟨rfl, hg⟩; have HG6 := Lib.hid hg; clear hg))
    have HB6 := Lib.hid (HB5.out.grown HG6.out HB5.out.size (fun k e => by cases e))
    clear c3 c4 HB5 HG6 HLO
    have hbq : (a + b == c) = true := by simp; omega
    go_wp2_with (go_at_call 31; ((with_reducible refine (HSO.out _).mono ?_); rintro e w3 ⟨rfl, rfl⟩))
    go_ret
    exact ⟨rfl, HB6.out⟩

set_option maxRecDepth 100000 in
theorem lifted (os : Os) (started : os.Started) (H : Type) (enc : TypeId × Value → H) :
    ReturnsInHanded {} Try.checked os 6 .any (Rows.fnCarriedSpec.pre6 enc Try.prog Try.f6 Rows.fnCarriedRow.domain false) (Rows.fnCarriedSpec.post enc Try.prog Try.f6 false true false false) := by
  refine returnsInHanded_of_change (C := Try.checked) own started (by kernel_rfl) Try.func6
    (ChangeSpec.witness6 (enc := enc) (C := Try.checked) false ⟨#[], #[.slice none 0 0], []⟩ 8 (by kernel_rfl) (by kernel_rfl) (by kernel_rfl) (by kernel_rfl)) ?_
  intro W base args ds gs before hval0 hW hcnd _
  have hval : ∀ (j : Nat) t v, Try.f6.params[j]? = some t → args[j]? = some v → Value.okWide Try.prog W .any base t v := hval0
  have hW' := hW
  obtain ⟨p, q, hA0, hV, rfl, hfz, hnd⟩ := hW
  have hA : DataW.TrodAll enc Try.prog W 0 (fun _ => true) true Try.f6.params.toList args.toList ds p := hA0
  rw [Try.params6] at hA hval
  obtain ⟨v0, vs0, d0, ds0, p0, q0, hargs, rfl, rfl, h0, r0⟩ := trodAll_cons hA
  obtain ⟨rfl, rfl, rfl⟩ := trodAll_nil r0
  obtain rfl : args = #[v0] := by cases args; simp_all
  obtain ⟨rfl, rfl⟩ := trodVars_none hV
  obtain ⟨a0, len0, cap0, rfl⟩ := okWide_slice Try.underlying22 (hval 0 22 v0 rfl rfl)
  have k0 := h0
  have lt0 : ∀ x ∈ p0, x.block < W.heap.size := by obtain ⟨m, hm⟩ := k0; exact DataW.trod_lt m _ _ _ hm
  obtain ⟨z0, w0⟩ : ∃ zs, IsRow .u8 W a0 len0 cap0 zs := by
    obtain ⟨fuel, hf⟩ := h0
    rcases open_ints Try.underlying22 Try.underlying5 (by kernel_rfl) hf with ⟨hcs, _⟩ | ⟨x, l, c, zs, hcs, _, hl, hm, hz, _, hcell, hwz⟩
    · simp [Value.cells] at hcs
      obtain ⟨rfl, rfl, rfl⟩ := hcs
      exact ⟨[], .inl ⟨rfl, rfl, rfl, rfl⟩⟩
    · simp [Value.cells] at hcs
      obtain ⟨rfl, rfl, rfl⟩ := hcs
      exact ⟨zs, .inr ⟨_, rfl, hl, hm, by simpa using hz, hcell, hwz⟩⟩
  clear hA0 hval0
  refine (walk a0 len0 cap0 z0 W w0).mono fun e W' ⟨he, bel⟩ => ?_
  subst he
  exact ⟨_, rfl, _, _, _, [], _, [], hW', trodAll_mk1 (shut_bool Try.underlying4 _), (trodAll_cons_mk (Below.trod laidOut (by kernel_rfl) (of_decide_eq_true (by kernel_rfl)) k0 bel lt0) trodAll_mk0), rfl, bel.frame _, fun h => by cases h⟩

theorem over : Rows.fnCarriedRow.holds Try.pinned (OpenSpec.ofChange Rows.fnCarriedSpec) :=
  OpenClaim.holds_of_wide 6 Try.f6 rfl rfl rfl rfl rfl rfl rfl ⟨rfl, rfl, rfl, rfl, rfl⟩ rfl rfl rfl rfl rfl (by kernel_rfl) Try.func6 (by kernel_rfl)
    (of_decide_eq_true (by kernel_rfl)) (by unfold Func.isWrapper; first | (rw [if_pos (by decide +kernel)]; kernel_rfl) | (rw [if_neg (by decide +kernel)]; exact ⟨rfl, rfl⟩))
    (fun os started H enc _ => lifted os started H enc)

theorem proved : Rows.FnCarriedSaid := over
#print axioms proved
end Go.Proofs.Ytfoilfgiablleaa.fnCarried
