/- Proved: for every slice of bytes the law FnTrees returns true: the children of the drawn cell divide it, and have it as their parent.
   Conditions: none besides those that the given row prints. -/
import Derived.Test.YthecidagejagmaaRows
import Derived.WalkKit
import Derived.ProofKit
import Derived.OpenShut
import Derived.ShutString
import Derived.Test.YthecidagejagmaaCellTree
import Derived.Test.YthecidagejagmaaCellDraw
import Derived.ChangeOld
import Derived.Below
namespace Go.Proofs.Ythecidagejagmaa.fnTrees
open Go.ChangeShapes Go.WideShapes Go.ChangeAt Go.RowKit
open Go.ChangeMaps (open_string shut_string)
set_option linter.unusedVariables false

theorem own : ownKnob Try.prog.godebug = none := by kernel_rfl
theorem laidOut : laidOutB Try.prog = true := by kernel_rfl

def IsRow (k : IntKind) (w : World) (a : Option Addr) (len cap : Nat) (zs : List Int) : Prop :=
  (a = none ∧ len = 0 ∧ cap = 0 ∧ zs = []) ∨
  ∃ x, a = some x ∧ len ≤ cap ∧ cap ≤ maxLen ∧ zs.length = cap ∧ (∀ i, i < zs.length → w.cell? (x.add i) = some (.int k (zs.getD i 0))) ∧ ∀ n ∈ zs, (Lit.int k n).wf = true

set_option maxHeartbeats 16000000 in
theorem walk (a0 : Option Addr) (len0 cap0 : Nat) (z0 : List Int) (w : World) (w0 : IsRow .u8 w a0 len0 cap0 z0) :
    Calls Try.prog 3 #[.slice a0 len0 cap0] w fun e w' => e = .returned (.bool true) ∧ Below w.heap.size w w' := by
  have hb := Draw.bytes_of w0
  have HB := Lib.hid hb; clear hb
  clear w0
  by_cases hlen : 1048576 < len0
  · have hd : decide (1048576 < (len0 : Int)) = true := by simp; omega
    go_enter Try.func3, Try.ntmps3
    go_wp2_with fail
    refine Draw.big_any.mono ?_; rintro e w1 ⟨rfl, rfl⟩
    rw [hd]
    go_wp2_with fail
    go_ret
    exact ⟨rfl, Below.refl _ _⟩
  · have hd : decide (1048576 < (len0 : Int)) = false := by simp; omega
    have hlen' : len0 ≤ 1048576 := by omega
    have HLen := Lib.hid hlen'; clear hlen'
    go_enter Try.func3, Try.ntmps3
    go_wp2_with fail
    refine Draw.big_any.mono ?_; rintro e w1 ⟨rfl, rfl⟩
    rw [hd]
    clear hd hlen
    go_wp2_with fail
    refine (Draw.draw_id HLen.out HB.out).mono ?_; rintro e w1 ⟨r, l, i, hok, rfl, hg⟩
    clear HB HLen
    obtain ⟨q0, q1, q2, q3, q4, q5, -, -⟩ := Cell.bounds hok
    have LX := Cell.laid_new w1 25 r l i
    have hgg := Cell.g_alloc hg (.cells #[.int .i64 r, .int .i64 l, .int .i64 i] 25)
    by_cases h4 : l = 4
    · subst h4
      have hn0 : Cell.chB r 4 i 0 = false := by simp [Cell.chB]
      have hn1 : Cell.chB r 4 i 1 = false := by simp [Cell.chB]
      clear hg
      go_wp2_with fail
      refine (Cell.child_deep r i 0 hok _).mono ?_; rintro e w2 ⟨rfl, hg2⟩
      obtain ⟨c0, c1, c2, ltX⟩ := LX.on hg2
      have hgg := Cell.grown_trans hgg hg2
      clear LX hg2
      go_wp2_with fail
      refine (Cell.child_deep r i 1 hok _).mono ?_; rintro e w3 ⟨rfl, hg3⟩
      obtain ⟨c0, c1, c2, ltX⟩ := ((Cell.Laid.mk c0 c1 c2 ltX).past _).on hg3
      have hgg := Cell.grown_trans (Cell.g_alloc hgg _) hg3
      clear hg3
      go_wp2_with fail
      refine (Cell.ok_eq r 4 i true hok _).mono ?_; rintro e w4 ⟨rfl, hg4⟩
      obtain ⟨c0, c1, c2, ltX⟩ := ((Cell.Laid.mk c0 c1 c2 ltX).past _).on hg4
      have hgg := Cell.grown_trans (Cell.g_alloc hgg _) hg4
      clear hg4
      go_wp2_with fail
      refine (Cell.width_g 4 1 (by decide) _).mono ?_; rintro e w5 ⟨rfl, hg5⟩
      have hgg := Cell.grown_trans hgg hg5
      clear hg5
      go_wp2
      go_ret
      exact ⟨rfl, Cell.grown_below hgg (Nat.le_refl _)⟩
    · obtain ⟨l1, hl1⟩ : ∃ l1, l + 1 = l1 := ⟨_, rfl⟩
      obtain ⟨j0, hj0⟩ : ∃ j0, 2 * i + 0 = j0 := ⟨_, rfl⟩
      obtain ⟨j1, hj1⟩ : ∃ j1, 2 * i + 1 = j1 := ⟨_, rfl⟩
      have ok0 : Cell.okId r l1 j0 = true := by subst hl1 hj0; exact Cell.ok_child 0 hok h4 (by decide) (by decide)
      have ok1 : Cell.okId r l1 j1 = true := by subst hl1 hj1; exact Cell.ok_child 1 hok h4 (by decide) (by decide)
      obtain ⟨U, hU⟩ : ∃ U, Cell.widthOf l1 = U := ⟨_, rfl⟩
      obtain ⟨S, hS⟩ : ∃ S, Cell.startOf r l i = S := ⟨_, rfl⟩
      have hw : Cell.widthOf l = 2 * U := by subst hU hl1; exact Cell.width_child hok h4
      have hs0 : Cell.startOf r l1 j0 = S := by subst hS hl1 hj0; rw [Cell.start_child 0 hok h4 (by decide) (by decide)]; simp
      have hs1 : Cell.startOf r l1 j1 = S + U := by subst hS hU hl1 hj1; rw [Cell.start_child 1 hok h4 (by decide) (by decide)]; simp
      have hb01 : Cell.sibB r l1 j0 r l1 j1 = true := by
        have y0 : j0 % 2 = 0 := by omega
        have y1 : j1 = j0 + 1 := by omega
        rw [Cell.sibB, ok0, ok1, y0, y1]
        simp
      have hb10 : Cell.sibB r l1 j1 r l1 j0 = false := by
        have : ¬ j1 % 2 = 0 := by omega
        simp [Cell.sibB, this]
      have hU0 : 0 ≤ U ∧ U ≤ 16 := by have := Cell.width_le (l := l1) (by omega) (by omega); omega
      have hS0 : 0 ≤ S ∧ S ≤ 352 := by
        obtain ⟨-, -, -, -, -, -, k0, k1⟩ := Cell.bounds hok
        have : Cell.startOf r l i = r * 16 + i * Cell.widthOf l := if_pos hok
        omega
      obtain ⟨u0, u1⟩ := hU0
      obtain ⟨t0, t1⟩ := hS0
      have e1 : IntKind.i64.wrap (S + U) = S + U := IntWalk.i64_in _ (by omega)
      have e2 : IntKind.i64.wrap (2 * U) = 2 * U := IntWalk.i64_in _ (by omega)
      have hl0 : l1 ≠ 0 := by omega
      have hlm : l1 - 1 = l := by omega
      have hd0 : j0 / 2 = i := by omega
      have hd1 : j1 / 2 = i := by omega
      have HA : Hid ((l + 1 = l1) ∧ (2 * i + 0 = j0) ∧ (2 * i + 1 = j1) ∧ l1 ≠ 0 ∧ l1 - 1 = l ∧ j0 / 2 = i ∧ j1 / 2 = i) := Lib.hid ⟨hl1, hj0, hj1, hl0, hlm, hd0, hd1⟩
      clear hl1 hj0 hj1 hl0 hlm hd0 hd1 hg q0 q1 q2 q3 q4 q5
      have e3 : (l == 4) = false := by simp [h4]
      go_wp2_with fail
      refine (Cell.child_at r l i 0 l1 j0 hok h4 (.inl rfl) HA.out.1 HA.out.2.1 _).mono ?_; rintro e w2 ⟨rfl, hg2⟩
      replace LX := (LX.on hg2).past (.cells #[.int .i64 r, .int .i64 l1, .int .i64 j0] 25)
      have LA := Cell.laid_new w2 25 r l1 j0
      replace hgg := Cell.g_alloc (Cell.grown_trans hgg hg2) (.cells #[.int .i64 r, .int .i64 l1, .int .i64 j0] 25)
      clear hg2
      have ⟨x0, x1, x2, _⟩ := LX
      go_wp2_with fail
      refine (Cell.child_at r l i 1 l1 j1 hok h4 (.inr rfl) HA.out.1 HA.out.2.2.1 _).mono ?_; rintro e w3 ⟨rfl, hg3⟩
      clear x0 x1 x2
      replace LX := (LX.on hg3).past (.cells #[.int .i64 r, .int .i64 l1, .int .i64 j1] 25)
      replace LA := (LA.on hg3).past (.cells #[.int .i64 r, .int .i64 l1, .int .i64 j1] 25)
      have LB := Cell.laid_new w3 25 r l1 j1
      replace hgg := Cell.g_alloc (Cell.grown_trans hgg hg3) (.cells #[.int .i64 r, .int .i64 l1, .int .i64 j1] 25)
      clear hg3
      have ⟨x0, x1, x2, _⟩ := LX
      have ⟨a0', a1', a2', _⟩ := LA
      go_wp2_with fail
      refine (Cell.par_at r l i l1 j0 ok0 HA.out.2.2.2.1 HA.out.2.2.2.2.1 HA.out.2.2.2.2.2.1 _).mono ?_; rintro e w4 ⟨rfl, hg4⟩
      clear x0 x1 x2 a0' a1' a2'
      replace LX := (LX.on hg4).past (.cells #[.int .i64 r, .int .i64 l, .int .i64 i] 25)
      replace LA := (LA.on hg4).past (.cells #[.int .i64 r, .int .i64 l, .int .i64 i] 25)
      replace LB := (LB.on hg4).past (.cells #[.int .i64 r, .int .i64 l, .int .i64 i] 25)
      have LP := Cell.laid_new w4 25 r l i
      replace hgg := Cell.g_alloc (Cell.grown_trans hgg hg4) (.cells #[.int .i64 r, .int .i64 l, .int .i64 i] 25)
      clear hg4
      have ⟨b0', b1', b2', _⟩ := LB
      go_wp2_with fail
      refine (Cell.par_at r l i l1 j1 ok1 HA.out.2.2.2.1 HA.out.2.2.2.2.1 HA.out.2.2.2.2.2.2 _).mono ?_; rintro e w5 ⟨rfl, hg5⟩
      clear b0' b1' b2'
      replace LX := (LX.on hg5).past (.cells #[.int .i64 r, .int .i64 l, .int .i64 i] 25)
      replace LA := (LA.on hg5).past (.cells #[.int .i64 r, .int .i64 l, .int .i64 i] 25)
      replace LB := (LB.on hg5).past (.cells #[.int .i64 r, .int .i64 l, .int .i64 i] 25)
      replace LP := (LP.on hg5).past (.cells #[.int .i64 r, .int .i64 l, .int .i64 i] 25)
      have LQ := Cell.laid_new w5 25 r l i
      replace hgg := Cell.g_alloc (Cell.grown_trans hgg hg5) (.cells #[.int .i64 r, .int .i64 l, .int .i64 i] 25)
      clear hg5
      have ⟨a0', a1', a2', _⟩ := LA
      go_wp2_with fail
      refine (Cell.width_g l1 U hU _).mono ?_; rintro e w6 ⟨rfl, hg6⟩
      clear a0' a1' a2' HA ok0 ok1 hok
      have ⟨x0, x1, x2, _⟩ := LX.on hg6
      have ⟨a0', a1', a2', _⟩ := LA.on hg6
      have ⟨b0', b1', b2', _⟩ := LB.on hg6
      have ⟨p0, p1, p2, _⟩ := LP.on hg6
      have ⟨y0, y1, y2, _⟩ := LQ.on hg6
      replace hgg := Cell.grown_trans hgg hg6
      clear hg6 LX LA LB LP LQ
      go_wp2_with fail
      go_region_held3 (fun w' => w'.cell? ⟨w1.heap.size, 0, none⟩ = some (.int .i64 r) ∧ w'.cell? ⟨w1.heap.size, 1, none⟩ = some (.int .i64 l) ∧ w'.cell? ⟨w1.heap.size, 2, none⟩ = some (.int .i64 i) ∧ w'.cell? ⟨w2.heap.size, 0, none⟩ = some (.int .i64 r) ∧ w'.cell? ⟨w2.heap.size, 1, none⟩ = some (.int .i64 l1) ∧ w'.cell? ⟨w2.heap.size, 2, none⟩ = some (.int .i64 j0) ∧ w'.cell? ⟨w3.heap.size, 0, none⟩ = some (.int .i64 r) ∧ w'.cell? ⟨w3.heap.size, 1, none⟩ = some (.int .i64 l1) ∧ w'.cell? ⟨w3.heap.size, 2, none⟩ = some (.int .i64 j1) ∧ w'.cell? ⟨w4.heap.size, 0, none⟩ = some (.int .i64 r) ∧ w'.cell? ⟨w4.heap.size, 1, none⟩ = some (.int .i64 l) ∧ w'.cell? ⟨w4.heap.size, 2, none⟩ = some (.int .i64 i) ∧ w'.cell? ⟨w5.heap.size, 0, none⟩ = some (.int .i64 r) ∧ w'.cell? ⟨w5.heap.size, 1, none⟩ = some (.int .i64 l) ∧ w'.cell? ⟨w5.heap.size, 2, none⟩ = some (.int .i64 i) ∧ w.grownBy w' none)
        ((go_split_ands; refine ⟨?_, ?_, ?_, ?_, ?_, ?_, ?_, ?_, ?_, ?_, ?_, ?_, ?_, ?_, ?_, ?_⟩ <;> first | assumption | exact hgc.cell (by assumption) (by simp) | exact Cell.grown_trans (by assumption) hgc | exact Cell.g_drew (by assumption)))
        (first
          | (go_at_call 18; ((with_reducible refine (Cell.sib_eq r l1 j0 r l1 j1 true hb01 _).mono ?_); rintro e w'' ⟨rfl, hgc⟩))
          | (go_at_call 18; ((with_reducible refine (Cell.sib_eq r l1 j1 r l1 j0 false hb10 _).mono ?_); rintro e w'' ⟨rfl, hgc⟩))
          | (go_at_call 19; ((with_reducible refine (Cell.start_eq r l1 j0 S hs0 _).mono ?_); rintro e w'' ⟨rfl, hgc⟩))
          | (go_at_call 19; ((with_reducible refine (Cell.start_eq r l i S hS _).mono ?_); rintro e w'' ⟨rfl, hgc⟩))
          | (go_at_call 19; ((with_reducible refine (Cell.start_eq r l1 j1 (S + U) hs1 _).mono ?_); rintro e w'' ⟨rfl, hgc⟩))
          | (go_at_call 16; ((with_reducible refine (Cell.width_g l (2 * U) hw _).mono ?_); rintro e w'' ⟨rfl, hgc⟩)))
      go_split_ands
      go_wp2
      go_ret
      exact ⟨rfl, Cell.grown_below (by assumption) (Nat.le_refl _)⟩

set_option maxRecDepth 100000 in
theorem lifted (os : Os) (started : os.Started) (H : Type) (enc : TypeId × Value → H) :
    ReturnsInHanded {} Try.checked os 3 .any (Rows.fnTreesSpec.pre6 enc Try.prog Try.f3 Rows.fnTreesRow.domain false) (Rows.fnTreesSpec.post enc Try.prog Try.f3 false true false false) := by
  refine returnsInHanded_of_change (C := Try.checked) own started (by kernel_rfl) Try.func3
    (ChangeSpec.witness6 (enc := enc) (C := Try.checked) false ⟨#[], #[.slice none 0 0], []⟩ 8 (by kernel_rfl) (by kernel_rfl) (by kernel_rfl) (by kernel_rfl)) ?_
  intro W base args ds gs before hval0 hW hcnd _
  have hval : ∀ (j : Nat) t v, Try.f3.params[j]? = some t → args[j]? = some v → Value.okWide Try.prog W .any base t v := hval0
  have hW' := hW
  obtain ⟨p, q, hA0, hV, rfl, hfz, hnd⟩ := hW
  have hA : DataW.TrodAll enc Try.prog W 0 (fun _ => true) true Try.f3.params.toList args.toList ds p := hA0
  rw [Try.params3] at hA hval
  obtain ⟨v0, vs0, d0, ds0, p0, q0, hargs, rfl, rfl, h0, r0⟩ := trodAll_cons hA
  obtain ⟨rfl, rfl, rfl⟩ := trodAll_nil r0
  obtain rfl : args = #[v0] := by cases args; simp_all
  obtain ⟨rfl, rfl⟩ := trodVars_none hV
  obtain ⟨a0, len0, cap0, rfl⟩ := okWide_slice Try.underlying22 (hval 0 22 v0 rfl rfl)
  have k0 := h0
  have lt0 : ∀ x ∈ p0, x.block < W.heap.size := by obtain ⟨m, hm⟩ := k0; exact DataW.trod_lt m _ _ _ hm
  obtain ⟨z0, w0⟩ : ∃ zs, IsRow .u8 W a0 len0 cap0 zs := by
    obtain ⟨fuel, hf⟩ := h0
    rcases open_ints Try.underlying22 Try.underlying5 (by kernel_rfl) hf with ⟨hcs, _⟩ | ⟨x, l, c, zs, hcs, _, hl, hm, hz, _, hcell, hwz⟩
    · simp [Value.cells] at hcs
      obtain ⟨rfl, rfl, rfl⟩ := hcs
      exact ⟨[], .inl ⟨rfl, rfl, rfl, rfl⟩⟩
    · simp [Value.cells] at hcs
      obtain ⟨rfl, rfl, rfl⟩ := hcs
      exact ⟨zs, .inr ⟨_, rfl, hl, hm, by simpa using hz, hcell, hwz⟩⟩
  clear hA0 hval0
  refine (walk a0 len0 cap0 z0 W w0).mono fun e W' ⟨he, bel⟩ => ?_
  subst he
  exact ⟨_, rfl, _, _, _, [], _, [], hW', trodAll_mk1 (shut_bool Try.underlying4 _), (trodAll_cons_mk (Below.trod laidOut (by kernel_rfl) (of_decide_eq_true (by kernel_rfl)) k0 bel lt0) trodAll_mk0), rfl, bel.frame _, fun h => by cases h⟩

theorem over : Rows.fnTreesRow.holds Try.pinned (OpenSpec.ofChange Rows.fnTreesSpec) :=
  OpenClaim.holds_of_wide 3 Try.f3 rfl rfl rfl rfl rfl rfl rfl ⟨rfl, rfl, rfl, rfl, rfl⟩ rfl rfl rfl rfl rfl (by kernel_rfl) Try.func3 (by kernel_rfl)
    (of_decide_eq_true (by kernel_rfl)) (by unfold Func.isWrapper; first | (rw [if_pos (by decide +kernel)]; kernel_rfl) | (rw [if_neg (by decide +kernel)]; exact ⟨rfl, rfl⟩))
    (fun os started H enc _ => lifted os started H enc)

theorem proved : Rows.FnTreesSaid := over
#print axioms proved
end Go.Proofs.Ythecidagejagmaa.fnTrees
