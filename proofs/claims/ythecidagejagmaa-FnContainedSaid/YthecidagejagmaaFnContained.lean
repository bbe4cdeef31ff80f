/- Proved: for every slice of bytes the law FnContained returns true: of the drawn cells one contains the other exactly if its interval does.
   Conditions: none besides those that the given row prints. -/
import Derived.Test.YthecidagejagmaaRows
import Derived.WalkKit
import Derived.ProofKit
import Derived.OpenShut
import Derived.ShutString
import Derived.Test.YthecidagejagmaaCellIn
import Derived.Test.YthecidagejagmaaCellPair
import Derived.ChangeOld
import Derived.Below
namespace Go.Proofs.Ythecidagejagmaa.fnContained
open Go.ChangeShapes Go.WideShapes Go.ChangeAt Go.RowKit
open Go.ChangeMaps (open_string shut_string)
set_option linter.unusedVariables false

theorem own : ownKnob Try.prog.godebug = none := by kernel_rfl
theorem laidOut : laidOutB Try.prog = true := by kernel_rfl

def IsRow (k : IntKind) (w : World) (a : Option Addr) (len cap : Nat) (zs : List Int) : Prop :=
  (a = none ∧ len = 0 ∧ cap = 0 ∧ zs = []) ∨
  ∃ x, a = some x ∧ len ≤ cap ∧ cap ≤ maxLen ∧ zs.length = cap ∧ (∀ i, i < zs.length → w.cell? (x.add i) = some (.int k (zs.getD i 0))) ∧ ∀ n ∈ zs, (Lit.int k n).wf = true

set_option maxHeartbeats 4000000 in
theorem walk (a0 : Option Addr) (len0 cap0 : Nat) (z0 : List Int) (w : World) (w0 : IsRow .u8 w a0 len0 cap0 z0) :
    Calls Try.prog 4 #[.slice a0 len0 cap0] w fun e w' => e = .returned (.bool true) ∧ Below w.heap.size w w' := by
  have hb := Draw.bytes_of w0
  have HB := Lib.hid hb; clear hb
  clear w0
  by_cases hlen : 1048576 < len0
  · have hd : decide (1048576 < (len0 : Int)) = true := by simp; omega
    go_enter Try.func4, Try.ntmps4
    go_wp2_with fail
    refine Draw.big_any.mono ?_; rintro e w1 ⟨rfl, rfl⟩
    rw [hd]
    go_wp2_with fail
    go_ret
    exact ⟨rfl, Below.refl _ _⟩
  · have hd : decide (1048576 < (len0 : Int)) = false := by simp; omega
    have hlen' : len0 ≤ 1048576 := by omega
    have HLen := Lib.hid hlen'; clear hlen'
    go_enter Try.func4, Try.ntmps4
    go_wp2_with fail
    refine Draw.big_any.mono ?_; rintro e w1 ⟨rfl, rfl⟩
    rw [hd]
    clear hd hlen
    go_wp2_with fail
    refine (Draw.pair_any HLen.out HB.out).mono ?_; rintro e w1 ⟨r, l, i, r', l', i', rfl, hg⟩
    have LA := (Cell.laid_new w1 25 r l i).past (.cells #[.int .i64 r', .int .i64 l', .int .i64 i'] 25)
    have LB := Cell.laid_new2 w1 (.cells #[.int .i64 r, .int .i64 l, .int .i64 i] 25) 25 r' l' i'
    have hg2 := Cell.g_alloc (Cell.g_alloc hg (.cells #[.int .i64 r, .int .i64 l, .int .i64 i] 25)) (.cells #[.int .i64 r', .int .i64 l', .int .i64 i'] 25)
    have HA := Lib.hid LA; have HB' := Lib.hid LB; have HG := Lib.hid hg2; clear LA LB hg hg2 HB HLen
    obtain ⟨a0', a1', a2', ltA⟩ := HA.out
    obtain ⟨b0', b1', b2', ltB⟩ := HB'.out
    have hg := HG.out
    clear HA HB' HG
    go_wp2_with fail
    generalize (w1.alloc (.cells #[.int .i64 r, .int .i64 l, .int .i64 i] 25)).alloc (.cells #[.int .i64 r', .int .i64 l', .int .i64 i'] 25) = w2 at *
    cases hA : Cell.okId r l i
    · have hcon : Cell.conB r l i r' l' i' = false := by simp [Cell.conB, hA]
      refine (Cell.specOk_eq r l i false hA _).mono ?_; rintro e w3 ⟨rfl, hg3⟩
      obtain ⟨c0, c1, c2, -⟩ := (Cell.Laid.mk a0' a1' a2' ltA).on hg3
      obtain ⟨d0, d1, d2, -⟩ := (Cell.Laid.mk b0' b1' b2' ltB).on hg3
      have hgg := Cell.grown_trans hg hg3
      clear hg hg3 a0' a1' a2' b0' b1' b2' ltA ltB
      go_wp2
      go_region_held3 (fun w' => w'.cell? ⟨w1.heap.size, 0, none⟩ = some (.int .i64 r) ∧ w'.cell? ⟨w1.heap.size, 1, none⟩ = some (.int .i64 l) ∧ w'.cell? ⟨w1.heap.size, 2, none⟩ = some (.int .i64 i)
        ∧ w'.cell? ⟨w1.heap.size + 1, 0, none⟩ = some (.int .i64 r') ∧ w'.cell? ⟨w1.heap.size + 1, 1, none⟩ = some (.int .i64 l') ∧ w'.cell? ⟨w1.heap.size + 1, 2, none⟩ = some (.int .i64 i') ∧ w.grownBy w' none)
        ((go_split_ands; refine ⟨?_, ?_, ?_, ?_, ?_, ?_, ?_⟩ <;> first | assumption | exact hgc.cell (by assumption) (by simp) | exact Cell.grown_trans (by assumption) hgc | exact Cell.g_drew (by assumption)))
        (first
          | (go_at_call 22; ((with_reducible refine (Cell.con_eq r l i r' l' i' false hcon _).mono ?_); rintro e w'' ⟨rfl, hgc⟩))
          | (go_at_call 15; ((with_reducible refine (Cell.ok_eq r l i false hA _).mono ?_); rintro e w'' ⟨rfl, hgc⟩))
          | (go_at_call 21; ((with_reducible refine (Cell.specOk_eq r l i false hA _).mono ?_); rintro e w'' ⟨rfl, hgc⟩))
          | (go_at_call 16; ((with_reducible refine (Cell.width_eq 0 16 (by decide) _).mono ?_); rintro e w'' ⟨rfl, rfl⟩)))
      go_split_ands
      go_wp2
      go_ret
      exact ⟨rfl, Cell.grown_below (by assumption) (Nat.le_refl _)⟩
    · refine (Cell.specOk_eq r l i true hA _).mono ?_; rintro e w3 ⟨rfl, hg3⟩
      obtain ⟨c0, c1, c2, ltA⟩ := (Cell.Laid.mk a0' a1' a2' ltA).on hg3
      obtain ⟨d0, d1, d2, ltB⟩ := (Cell.Laid.mk b0' b1' b2' ltB).on hg3
      have hgg := Cell.grown_trans hg hg3
      clear hg hg3 a0' a1' a2' b0' b1' b2'
      go_wp2_with fail
      cases hB : Cell.okId r' l' i'
      · have hcon : Cell.conB r l i r' l' i' = false := by simp [Cell.conB, hB]
        refine (Cell.specOk_eq r' l' i' false hB _).mono ?_; rintro e w4 ⟨rfl, hg4⟩
        obtain ⟨c0, c1, c2, ltA⟩ := (Cell.Laid.mk c0 c1 c2 ltA).on hg4
        obtain ⟨d0, d1, d2, ltB⟩ := (Cell.Laid.mk d0 d1 d2 ltB).on hg4
        have hgg := Cell.grown_trans hgg hg4
        clear hg4
        go_wp2
        go_region_held3 (fun w' => w'.cell? ⟨w1.heap.size, 0, none⟩ = some (.int .i64 r) ∧ w'.cell? ⟨w1.heap.size, 1, none⟩ = some (.int .i64 l) ∧ w'.cell? ⟨w1.heap.size, 2, none⟩ = some (.int .i64 i)
          ∧ w'.cell? ⟨w1.heap.size + 1, 0, none⟩ = some (.int .i64 r') ∧ w'.cell? ⟨w1.heap.size + 1, 1, none⟩ = some (.int .i64 l') ∧ w'.cell? ⟨w1.heap.size + 1, 2, none⟩ = some (.int .i64 i') ∧ w.grownBy w' none)
          ((go_split_ands; refine ⟨?_, ?_, ?_, ?_, ?_, ?_, ?_⟩ <;> first | assumption | exact hgc.cell (by assumption) (by simp) | exact Cell.grown_trans (by assumption) hgc | exact Cell.g_drew (by assumption)))
          (first
            | (go_at_call 22; ((with_reducible refine (Cell.con_eq r l i r' l' i' false hcon _).mono ?_); rintro e w'' ⟨rfl, hgc⟩))
            | (go_at_call 15; ((with_reducible refine (Cell.ok_eq r l i true hA _).mono ?_); rintro e w'' ⟨rfl, hgc⟩))
            | (go_at_call 21; ((with_reducible refine (Cell.specOk_eq r l i true hA _).mono ?_); rintro e w'' ⟨rfl, hgc⟩))
            | (go_at_call 16; ((with_reducible refine (Cell.width_eq 0 16 (by decide) _).mono ?_); rintro e w'' ⟨rfl, rfl⟩)))
        go_split_ands
        go_wp2
        go_ret
        exact ⟨rfl, Cell.grown_below (by assumption) (Nat.le_refl _)⟩
      · refine (Cell.specOk_eq r' l' i' true hB _).mono ?_; rintro e w4 ⟨rfl, hg4⟩
        obtain ⟨c0, c1, c2, ltA⟩ := (Cell.Laid.mk c0 c1 c2 ltA).on hg4
        obtain ⟨d0, d1, d2, ltB⟩ := (Cell.Laid.mk d0 d1 d2 ltB).on hg4
        have hgg := Cell.grown_trans hgg hg4
        clear hg4
        have hiff := Cell.con_iff hA hB
        have hself := Cell.con_self hA
        obtain ⟨q0, q1, q2, q3, q4, q5, q6, q7⟩ := Cell.bounds hA
        obtain ⟨p0, p1, p2, p3, p4, p5, p6, p7⟩ := Cell.bounds hB
        have hs : Cell.startOf r l i = r * 16 + i * Cell.widthOf l := if_pos hA
        have ht : Cell.startOf r' l' i' = r' * 16 + i' * Cell.widthOf l' := if_pos hB
        have hs0 : 0 ≤ Cell.startOf r l i ∧ Cell.startOf r l i ≤ 352 := by omega
        have ht0 : 0 ≤ Cell.startOf r' l' i' ∧ Cell.startOf r' l' i' ≤ 352 := by omega
        obtain ⟨u0, u1⟩ := Cell.width_le q2 q3
        obtain ⟨v0, v1⟩ := Cell.width_le p2 p3
        clear hs ht q0 q1 q2 q3 q4 q5 q6 q7 p0 p1 p2 p3 p4 p5 p6 p7
        obtain ⟨S, hS⟩ : ∃ S, Cell.startOf r l i = S := ⟨_, rfl⟩
        obtain ⟨T, hT⟩ : ∃ T, Cell.startOf r' l' i' = T := ⟨_, rfl⟩
        obtain ⟨U, hU⟩ : ∃ U, Cell.widthOf l = U := ⟨_, rfl⟩
        obtain ⟨V, hV⟩ : ∃ V, Cell.widthOf l' = V := ⟨_, rfl⟩
        rw [hS, hT, hU, hV] at hiff
        rw [hS] at hs0; rw [hT] at ht0; rw [hU] at u0 u1; rw [hV] at v0 v1
        obtain ⟨hs0, hs1⟩ := hs0
        obtain ⟨ht0, ht1⟩ := ht0
        have e1 : IntKind.i64.wrap (T + V) = T + V := IntWalk.i64_in _ (by omega)
        have e2 : IntKind.i64.wrap (S + U) = S + U := IntWalk.i64_in _ (by omega)
        go_wp2_with fail
        refine (Cell.start_eq r l i S hS _).mono ?_; rintro e w5 ⟨rfl, hg5⟩
        obtain ⟨c0, c1, c2, ltA⟩ := (Cell.Laid.mk c0 c1 c2 ltA).on hg5
        obtain ⟨d0, d1, d2, ltB⟩ := (Cell.Laid.mk d0 d1 d2 ltB).on hg5
        have hgg := Cell.grown_trans hgg hg5
        clear hg5
        go_wp2_with fail
        refine (Cell.start_eq r' l' i' T hT _).mono ?_; rintro e w6 ⟨rfl, hg6⟩
        obtain ⟨c0, c1, c2, ltA⟩ := (Cell.Laid.mk c0 c1 c2 ltA).on hg6
        obtain ⟨d0, d1, d2, ltB⟩ := (Cell.Laid.mk d0 d1 d2 ltB).on hg6
        have hgg := Cell.grown_trans hgg hg6
        clear hg6
        by_cases h1 : S ≤ T
        · by_cases h2 : T + V ≤ S + U
          · have hcon : Cell.conB r l i r' l' i' = true := by rw [hiff]; exact decide_eq_true ⟨h1, h2⟩
            clear hiff
            go_wp2
            go_quiet ((first | ((with_reducible refine Calls.quiet_of_same (Cell.width_eq l' V hV _)); done) | ((with_reducible refine Calls.quiet_of_same (Cell.width_eq l U hU _)); done)))
            go_wp2_with fail
            refine (Cell.con_eq r l i r' l' i' true hcon _).mono ?_; rintro e w7 ⟨rfl, hg7⟩
            obtain ⟨c0, c1, c2, -⟩ := ((Cell.Laid.mk c0 c1 c2 ltA).on (Cell.grown_drewN w6 nq)).on hg7
            have hgg := Cell.grown_trans hgg (Cell.grown_trans (Cell.grown_drewN w6 nq) hg7)
            clear hg7
            go_wp2_with fail
            refine (Cell.con_eq r l i r l i true hself _).mono ?_; rintro e w8 ⟨rfl, hg8⟩
            have hgg := Cell.grown_trans hgg hg8
            clear hg8
            go_wp2
            go_ret
            exact ⟨rfl, Cell.grown_below hgg (Nat.le_refl _)⟩
          · have hcon : Cell.conB r l i r' l' i' = false := by rw [hiff]; exact decide_eq_false (fun h => h2 h.2)
            have hd2 : (!decide (T + V ≤ S + U)) = true := by rw [decide_eq_false h2]; rfl
            have HD2 := Lib.hid hd2; clear hd2 hiff
            go_wp2
            go_quiet ((first | ((with_reducible refine Calls.quiet_of_same (Cell.width_eq l' V hV _)); done) | ((with_reducible refine Calls.quiet_of_same (Cell.width_eq l U hU _)); done)))
            go_wp2_with fail
            refine (Cell.con_eq r l i r' l' i' false hcon _).mono ?_; rintro e w7 ⟨rfl, hg7⟩
            obtain ⟨c0, c1, c2, -⟩ := ((Cell.Laid.mk c0 c1 c2 ltA).on (Cell.grown_drewN w6 nq)).on hg7
            have hgg := Cell.grown_trans hgg (Cell.grown_trans (Cell.grown_drewN w6 nq) hg7)
            clear hg7
            go_wp2_with fail
            refine (Cell.con_eq r l i r l i true hself _).mono ?_; rintro e w8 ⟨rfl, hg8⟩
            have hgg := Cell.grown_trans hgg hg8
            clear hg8
            go_wp2
            go_ret
            exact ⟨congrArg (fun b => Ending.returned (.bool b)) HD2.out, Cell.grown_below hgg (Nat.le_refl _)⟩
        · have hcon : Cell.conB r l i r' l' i' = false := by rw [hiff]; exact decide_eq_false (fun h => h1 h.1)
          have hd1 : decide (S ≤ T) = false := decide_eq_false h1
          clear hiff
          go_wp2
          go_quiet ((first | ((with_reducible refine Calls.quiet_of_same (Cell.width_eq l' V hV _)); done) | ((with_reducible refine Calls.quiet_of_same (Cell.width_eq l U hU _)); done)))
          go_wp2_with fail
          refine (Cell.con_eq r l i r' l' i' false hcon _).mono ?_; rintro e w7 ⟨rfl, hg7⟩
          obtain ⟨c0, c1, c2, -⟩ := ((Cell.Laid.mk c0 c1 c2 ltA).on (Cell.grown_drewN w6 nq)).on hg7
          have hgg := Cell.grown_trans hgg (Cell.grown_trans (Cell.grown_drewN w6 nq) hg7)
          clear hg7
          go_wp2_with fail
          refine (Cell.con_eq r l i r l i true hself _).mono ?_; rintro e w8 ⟨rfl, hg8⟩
          have hgg := Cell.grown_trans hgg hg8
          clear hg8
          go_wp2
          go_ret
          exact ⟨rfl, Cell.grown_below hgg (Nat.le_refl _)⟩

set_option maxRecDepth 100000 in
theorem lifted (os : Os) (started : os.Started) (H : Type) (enc : TypeId × Value → H) :
    ReturnsInHanded {} Try.checked os 4 .any (Rows.fnContainedSpec.pre6 enc Try.prog Try.f4 Rows.fnContainedRow.domain false) (Rows.fnContainedSpec.post enc Try.prog Try.f4 false true false false) := by
  refine returnsInHanded_of_change (C := Try.checked) own started (by kernel_rfl) Try.func4
    (ChangeSpec.witness6 (enc := enc) (C := Try.checked) false ⟨#[], #[.slice none 0 0], []⟩ 8 (by kernel_rfl) (by kernel_rfl) (by kernel_rfl) (by kernel_rfl)) ?_
  intro W base args ds gs before hval0 hW hcnd _
  have hval : ∀ (j : Nat) t v, Try.f4.params[j]? = some t → args[j]? = some v → Value.okWide Try.prog W .any base t v := hval0
  have hW' := hW
  obtain ⟨p, q, hA0, hV, rfl, hfz, hnd⟩ := hW
  have hA : DataW.TrodAll enc Try.prog W 0 (fun _ => true) true Try.f4.params.toList args.toList ds p := hA0
  rw [Try.params4] at hA hval
  obtain ⟨v0, vs0, d0, ds0, p0, q0, hargs, rfl, rfl, h0, r0⟩ := trodAll_cons hA
  obtain ⟨rfl, rfl, rfl⟩ := trodAll_nil r0
  obtain rfl : args = #[v0] := by cases args; simp_all
  obtain ⟨rfl, rfl⟩ := trodVars_none hV
  obtain ⟨a0, len0, cap0, rfl⟩ := okWide_slice Try.underlying22 (hval 0 22 v0 rfl rfl)
  have k0 := h0
  have lt0 : ∀ x ∈ p0, x.block < W.heap.size := by obtain ⟨m, hm⟩ := k0; exact DataW.trod_lt m _ _ _ hm
  obtain ⟨z0, w0⟩ : ∃ zs, IsRow .u8 W a0 len0 cap0 zs := by
    obtain ⟨fuel, hf⟩ := h0
    rcases open_ints Try.underlying22 Try.underlying5 (by kernel_rfl) hf with ⟨hcs, _⟩ | ⟨x, l, c, zs, hcs, _, hl, hm, hz, _, hcell, hwz⟩
    · simp [Value.cells] at hcs
      obtain ⟨rfl, rfl, rfl⟩ := hcs
      exact ⟨[], .inl ⟨rfl, rfl, rfl, rfl⟩⟩
    · simp [Value.cells] at hcs
      obtain ⟨rfl, rfl, rfl⟩ := hcs
      exact ⟨zs, .inr ⟨_, rfl, hl, hm, by simpa using hz, hcell, hwz⟩⟩
  clear hA0 hval0
  refine (walk a0 len0 cap0 z0 W w0).mono fun e W' ⟨he, bel⟩ => ?_
  subst he
  exact ⟨_, rfl, _, _, _, [], _, [], hW', trodAll_mk1 (shut_bool Try.underlying4 _), (trodAll_cons_mk (Below.trod laidOut (by kernel_rfl) (of_decide_eq_true (by kernel_rfl)) k0 bel lt0) trodAll_mk0), rfl, bel.frame _, fun h => by cases h⟩

theorem over : Rows.fnContainedRow.holds Try.pinned (OpenSpec.ofChange Rows.fnContainedSpec) :=
  OpenClaim.holds_of_wide 4 Try.f4 rfl rfl rfl rfl rfl rfl rfl ⟨rfl, rfl, rfl, rfl, rfl⟩ rfl rfl rfl rfl rfl (by kernel_rfl) Try.func4 (by kernel_rfl)
    (of_decide_eq_true (by kernel_rfl)) (by unfold Func.isWrapper; first | (rw [if_pos (by decide +kernel)]; kernel_rfl) | (rw [if_neg (by decide +kernel)]; exact ⟨rfl, rfl⟩))
    (fun os started H enc _ => lifted os started H enc)

theorem proved : Rows.FnContainedSaid := over
#print axioms proved
end Go.Proofs.Ythecidagejagmaa.fnContained
