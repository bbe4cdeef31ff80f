/- Decay of the tracer: the program's isRate, isTracer, decayOf, lose, DecayAll (its loop is a goto back to a label), DecayTicks, StableAmount, as contracts: what each answers, in memory of the call's own; nothing that was there is written (written by wip/tools/stdec.py).
   Conditions: at most 2^20 leaves and numbers. -/
import Derived.Test.YtcboogodphpjbaaStDecP
import Derived.Test.YtcboogodphpjbaaStLedI
import Derived.Test.YtcboogodphpjbaaPkDraw
import Derived.WalkMore
import Derived.ScopeJumps
set_option maxRecDepth 100000
namespace Go.Proofs.Ytcboogodphpjbaa.State
open Go.ChangeShapes Go.WideShapes Go.ChangeAt Go.RowKit Go.Joins Go.Proofs.Ytcboogodphpjbaa.Cell Go.Proofs.Ytcboogodphpjbaa.Mesh Go.Proofs.Ytcboogodphpjbaa.Law Go.Proofs.Ytcboogodphpjbaa.Ints Go.Proofs.Ytcboogodphpjbaa.Draws Go.Deep
set_option linter.unusedVariables false

theorem isRate_is (a : Int) (w : World) : Calls Try.prog 28 #[.int .i64 a] w fun e w' => e = .returned (.bool (rateB a)) ∧ w.grownBy w' none := by
  by_cases h1 : 0 ≤ a
  case neg =>
    rw [show rateB a = false from decide_eq_false (by omega)]
    go_enter Try.func28, Try.ntmps28
    go_wp2
    go_ret
    exact ⟨rfl, Cell.grown_refl _⟩
  by_cases h2 : a ≤ 1000
  case neg =>
    rw [show rateB a = false from decide_eq_false (by omega)]
    go_enter Try.func28, Try.ntmps28
    go_wp2
    go_ret
    exact ⟨rfl, Cell.grown_refl _⟩
  case pos =>
    rw [show rateB a = true from decide_eq_true (by omega)]
    go_enter Try.func28, Try.ntmps28
    go_wp2
    go_ret
    exact ⟨rfl, Cell.grown_refl _⟩
theorem isTracer_is (a : Int) (w : World) : Calls Try.prog 34 #[.int .i64 a] w fun e w' => e = .returned (.bool (tracerB a)) ∧ w.grownBy w' none := by
  by_cases h1 : 0 ≤ a
  case neg =>
    rw [show tracerB a = false from decide_eq_false (by omega)]
    go_enter Try.func34, Try.ntmps34
    go_wp2
    go_ret
    exact ⟨rfl, Cell.grown_refl _⟩
  by_cases h2 : a ≤ 10000000000
  case neg =>
    rw [show tracerB a = false from decide_eq_false (by omega)]
    go_enter Try.func34, Try.ntmps34
    go_wp2
    go_ret
    exact ⟨rfl, Cell.grown_refl _⟩
  case pos =>
    rw [show tracerB a = true from decide_eq_true (by omega)]
    go_enter Try.func34, Try.ntmps34
    go_wp2
    go_ret
    exact ⟨rfl, Cell.grown_refl _⟩

theorem decayOf_is (r t : Int) (hr : rateB r = true) (h0 : 0 ≤ t) (h1 : t ≤ 10000000000) (w : World) : Calls Try.prog 32 #[.int .i64 t, .int .i64 r] w fun e w' => e = .returned (.int .i64 (decN r t)) ∧ w.grownBy w' none := by
  obtain ⟨p0, p1, p2, p3⟩ := dec_facts hr h0
  have e1 : IntKind.i64.wrap (t * r) = t * r := IntWalk.i64_in _ (by omega)
  have HD := Lib.hid (show ∀ u, Calls Try.prog 33 #[.int .i64 (t * r), .int .i64 1000] u fun e w' => e = .returned (.int .i64 (decN r t)) ∧ u.grownBy w' none from fun u => Draw.floor_is (t * r) 1000 (by omega) (by omega) u)
  clear hr h0 h1 p0 p1 p2 p3
  generalize decN r t = D at *
  go_enter Try.func32, Try.ntmps32
  go_wp2_with (go_at_call 33; ((with_reducible refine (HD.out _).mono ?_); rintro e w1 ⟨rfl, hg⟩))
  go_ret
  exact ⟨rfl, hg⟩
theorem stableAmount_is (r : Int) (w : World) : Calls Try.prog 11 #[.int .i64 r] w fun e w' => e = .returned (.int .i64 (stab r)) ∧ w.grownBy w' none := by
  cases hr : rateB r with
  | false =>
    have HR := Lib.hid (show ∀ u, Calls Try.prog 28 #[.int .i64 r] u fun e w' => e = .returned (.bool false) ∧ u.grownBy w' none from fun u => by rw [← hr]; exact isRate_is r u)
    rw [show stab r = -1 from if_neg fun q => by rw [show rateB r = true from decide_eq_true (by omega)] at hr; cases hr]
    clear hr
    go_enter Try.func11, Try.ntmps11
    go_wp2_with (go_at_call 28; ((with_reducible refine (HR.out _).mono ?_); rintro e w1 ⟨rfl, hg⟩))
    go_ret
    exact ⟨rfl, hg⟩
  | true =>
    have HR := Lib.hid (show ∀ u, Calls Try.prog 28 #[.int .i64 r] u fun e w' => e = .returned (.bool true) ∧ u.grownBy w' none from fun u => by rw [← hr]; exact isRate_is r u)
    obtain ⟨r0, r1⟩ := of_decide_eq_true hr
    clear hr
    by_cases hz : r = 0
    · subst hz
      rw [show stab 0 = -1 from rfl]
      clear r0 r1
      go_enter Try.func11, Try.ntmps11
      go_wp2_with (go_at_call 28; ((with_reducible refine (HR.out _).mono ?_); rintro e w1 ⟨rfl, hg⟩))
      go_ret
      exact ⟨rfl, hg⟩
    · have HD := Lib.hid (show ∀ u, Calls Try.prog 33 #[.int .i64 999, .int .i64 r] u fun e w' => e = .returned (.int .i64 (stab r)) ∧ u.grownBy w' none from fun u => by
        have q := Draw.floor_is 999 r (by omega) (by omega) u
        rw [if_neg (show ¬ r ≤ 0 by omega)] at q
        rw [show stab r = 999 / r from if_pos (by omega)]
        exact q)
      clear r0 r1
      generalize stab r = D at *
      go_enter Try.func11, Try.ntmps11
      go_wp2_with (first
        | (go_at_call 28; ((with_reducible refine (HR.out _).mono ?_); rintro e w1 ⟨rfl, hg⟩))
        | (go_at_call 33; ((with_reducible refine (HD.out _).mono ?_); rintro e w2 ⟨rfl, hg'⟩)))
      go_ret
      exact ⟨rfl, Cell.grown_trans hg hg'⟩

set_option maxHeartbeats 8000000 in
/-- What a leaf's tracer loses is booked. -/
theorem lose_is {w0 u0 : World} {gs : List Grp} (R : Int) (a1 a4 : Option Addr) (k2 k3 n1 n2 n3 n4 c1 c2 c3 c4 Ab kb k i : Nat) (xs : List C3) (ms ts bs : List Int) (T x y l0 l1 l2 l3 : Int)
    (h : Held w0 u0 gs) (hkb : gs[kb]? = some (boxG Ab 64 #[.int .i64 R, .slice a1 n1 c1, .slice (some ⟨k2, 0, none⟩) n2 c2, .slice (some ⟨k3, 0, none⟩) n3 c3, .slice a4 n4 c4, .int .i64 l0, .int .i64 l1, .int .i64 l2, .int .i64 l3]))
    (hk : gs[k]? = some (stateG (.slice a1 n1 c1) (.slice (some ⟨k2, 0, none⟩) n2 c2) (.slice (some ⟨k3, 0, none⟩) n3 c3) (.slice a4 n4 c4) n1 n2 n3 n4 xs ms ts bs)) (hne : kb ≠ k) (hi : ms[i]? = some x) (hi' : ts[i]? = some y)
    (bT : 0 ≤ T ∧ T ≤ 10000000000) (bx : 0 ≤ x ∧ x ≤ 10000000) (by_ : 0 ≤ y ∧ y ≤ 10000000000) (b1 : -1000000000000 ≤ l1 ∧ l1 ≤ 1000000000000) (b3 : -100000000000000000 ≤ l3 ∧ l3 ≤ 100000000000000000) :
    Calls Try.prog 31 #[.pointer (some ⟨Ab, 0, none⟩), .int .i64 (i : Int), .int .i64 T] u0 fun e u' => e = .returned (.tuple #[]) ∧
      Held w0 u' ((gs.set k (stateG (.slice a1 n1 c1) (.slice (some ⟨k2, 0, none⟩) n2 c2) (.slice (some ⟨k3, 0, none⟩) n3 c3) (.slice a4 n4 c4) n1 n2 n3 n4 xs ms (ts.set i (y + -T)) bs)).set kb (boxG Ab 64 #[.int .i64 R, .slice a1 n1 c1, .slice (some ⟨k2, 0, none⟩) n2 c2, .slice (some ⟨k3, 0, none⟩) n3 c3, .slice a4 n4 c4, .int .i64 l0, .int .i64 l1, .int .i64 l2, .int .i64 (l3 + T)])) := by
  have ho := h.nth k hk
  have hl2 : ms.length = n2 := by have := (OwnS.m ho).1; rw [vals_len] at this; omega
  have hl3 : ts.length = n3 := by have := (OwnS.t ho).1; rw [vals_len] at this; omega
  have HNE := Lib.hid (show k2 ≠ k3 from fun e => (OwnS.mt ho) k2 rfl (by rw [e]; rfl))
  have i2 := (List.getElem?_eq_some_iff.1 hi).1
  have i3 := (List.getElem?_eq_some_iff.1 hi').1
  rw [hl2] at i2
  rw [hl3] at i3
  have i2' : (i : Int) < n2 := by omega
  have i3' : (i : Int) < n3 := by omega
  have HCI := Lib.hid fun u => contentOf_is R a1 a4 k2 k3 n1 n2 n3 n4 c1 c2 c3 c4 i i2 i3 u
  have HA := Lib.hid (show ∀ u, u0.grownBy u none → Calls Try.prog 60 #[.agg #[.pointer (some ⟨k2, i, none⟩), .pointer (some ⟨k3, i, none⟩)], .int .i64 0, .int .i64 (-T)] u fun e w' => e = .returned (.tuple #[]) ∧ ∃ W, u.grownBy W none ∧ w' = (W.setCell ⟨k2, i, none⟩ (.int .i64 x)).setCell ⟨k3, i, none⟩ (.int .i64 (y + (-T))) from fun u hu => by
    have ho2 := (h.on hu).nth k hk
    obtain ⟨g2, z2, e2, q2, m2, u2⟩ := own_cellI (OwnS.m ho2) i2
    cases e2
    obtain ⟨g3, z3, e3, q3, m3, u3⟩ := own_cellI (OwnS.t ho2) i3
    cases e3
    rw [hi] at q2; cases q2
    rw [hi'] at q3; cases q3
    have q := add_is k2 k3 i 0 (-T) x y u m2 u2 m3 u3 HNE.out (by omega) (by omega)
    rw [Int.add_zero] at q
    exact q)
  have e2 : IntKind.i64.wrap (-T) = -T := IntWalk.i64_in _ (by omega)
  have E3 := Lib.hid (And.intro (show IntKind.i64.wrap (l1 + 0) = l1 + 0 from IntWalk.i64_in _ (by omega)) (show IntKind.i64.wrap (l3 + T) = l3 + T from IntWalk.i64_in _ (by omega)))
  have HK := Lib.hid hk; have HKB := Lib.hid hkb
  have HE1 := Lib.hid h
  have HKB2 := Lib.hid fun (g' : Grp) => show (gs.set k g')[kb]? = _ from (List.getElem?_set_ne (Ne.symm hne)).trans hkb
  have HSM := Lib.hid (show ms.set i x = ms by
    refine List.ext_getElem? fun j => ?_
    rw [List.getElem?_set]
    by_cases e : i = j
    · subst e; rw [if_pos rfl, if_pos (List.getElem?_eq_some_iff.1 hi).1, hi]
    · rw [if_neg e])
  clear ho h hk hkb hi hi' hl2 hl3 i2 i3 bT bx by_ b1 b3
  obtain ⟨⟨p0, p1, p2, p3, p4⟩, -⟩ := cells9 (HE1.out.nth kb HKB.out)
  go_enter Try.func31, Try.ntmps31
  go_upto_region 1 with (first
    | (go_at_call 59; ((with_reducible refine (HCI.out _).mono ?_); rintro e w4 ⟨rfl, hg⟩; have HG4 := Lib.hid hg; clear hg))
    | (go_at_call 60; ((with_reducible refine (HA.out _ HG4.out).mono ?_); rintro e w5 ⟨rfl, W, hg, rfl⟩; have HE5 := Lib.hid (Held.setTracer (Held.setMass ((HE1.out.on HG4.out).on hg) k HK.out i x) k (set_at HK.out) i (y + -T)); clear hg)))
  have HE6 := Lib.hid HE5.out
  rw [List.set_set, HSM.out] at HE6
  clear p0 p1 p2 p3 p4 HE1 HE5 HCI HA HG4
  generalize (W.setCell ⟨k2, i, none⟩ (.int .i64 x)).setCell ⟨k3, i, none⟩ (.int .i64 (y + -T)) = W5 at *
  have HLE := Lib.hid (leave_is Ab 5 0 T l1 l3 (l1 + 0) (l3 + T) E3.out.1 E3.out.2 W5 (cells9 (HE6.out.nth kb (HKB2.out _))).2.2.1 (boxG.free (HE6.out.nth kb (HKB2.out _)) 6) (cells9 (HE6.out.nth kb (HKB2.out _))).2.2.2.2 (boxG.free (HE6.out.nth kb (HKB2.out _)) 8))
  go_wp2_with (go_at_call 61; ((with_reducible refine HLE.out.mono ?_); rintro e w6 ⟨rfl, rfl⟩))
  have q1 : Held w0 _ ((gs.set k (stateG (.slice a1 n1 c1) (.slice (some ⟨k2, 0, none⟩) n2 c2) (.slice (some ⟨k3, 0, none⟩) n3 c3) (.slice a4 n4 c4) n1 n2 n3 n4 xs ms (ts.set i (y + -T)) bs)).set kb (boxG Ab 64 #[.int .i64 R, .slice a1 n1 c1, .slice (some ⟨k2, 0, none⟩) n2 c2, .slice (some ⟨k3, 0, none⟩) n3 c3, .slice a4 n4 c4, .int .i64 l0, .int .i64 (l1 + 0), .int .i64 l2, .int .i64 l3])) := HE6.out.put kb (HKB2.out _) 6 (.int .i64 (l1 + 0))
  have q2 : Held w0 _ (((gs.set k (stateG (.slice a1 n1 c1) (.slice (some ⟨k2, 0, none⟩) n2 c2) (.slice (some ⟨k3, 0, none⟩) n3 c3) (.slice a4 n4 c4) n1 n2 n3 n4 xs ms (ts.set i (y + -T)) bs)).set kb (boxG Ab 64 #[.int .i64 R, .slice a1 n1 c1, .slice (some ⟨k2, 0, none⟩) n2 c2, .slice (some ⟨k3, 0, none⟩) n3 c3, .slice a4 n4 c4, .int .i64 l0, .int .i64 (l1 + 0), .int .i64 l2, .int .i64 l3])).set kb (boxG Ab 64 #[.int .i64 R, .slice a1 n1 c1, .slice (some ⟨k2, 0, none⟩) n2 c2, .slice (some ⟨k3, 0, none⟩) n3 c3, .slice a4 n4 c4, .int .i64 l0, .int .i64 (l1 + 0), .int .i64 l2, .int .i64 (l3 + T)])) := q1.put kb (set_at (HKB2.out _)) 8 (.int .i64 (l3 + T))
  rw [List.set_set] at q2
  have q3 : (.int .i64 (l1 + 0) : Value) = .int .i64 l1 := by rw [Int.add_zero]
  rw [q3] at q2
  exact bodyPost_end (results_none rfl _ _ _) rfl ⟨rfl, q2⟩

theorem wp_scope_again {P : Program} {Q : Exit → Act → World → Prop} {a : Act} {w : World} {c x : Code} (l : Nat) (J : Act → World → Prop) (μ : Act → World → Nat) (hf : findLabel c l = some (.seq .skip x))
    (pass : ∀ a w, J a w → x.wp P (Exit.jump l (fun a' w' => J a' w' ∧ μ a' w' < μ a w) Q) a w)
    (first : (∀ a w, J a w → x.wp P (Exit.jump l J Q) a w) → c.wp P (Exit.jump l J Q) a w) : (Code.scope c).wp P Q a w := by
  refine wp_scope_jumps l J μ hf (first fun a w h => Go.wp_mono (pass a w h) fun e a' w' hq => ?_) fun a w h => Go.wp_seq (Go.wp_skip (pass a w h))
  cases e with
  | goto l' => exact ⟨hq.1, hq.2.1⟩
  | normal => exact hq
  | exit id => exact hq
  | ret => exact hq
  | panic ch => exact hq
  | outgrown => exact hq

set_option maxHeartbeats 16000000 in
/-- Each leaf's tracer decays. -/
theorem decayAll_is (R : Int) (a1 a2 a3 a4 : Option Addr) (n1 n2 n3 n4 c1 c2 c3 c4 : Nat) (xs : List C3) (ms ts bs : List Int) (r : Int) (w : World) (h : ReadsS w a1 a2 a3 a4 n1 n2 n3 n4 xs ms ts bs) (h1 : n1 ≤ 1048576) (h2 : n2 ≤ 1048576) (h3 : n3 ≤ 1048576) (h4 : n4 ≤ 1048576) :
    Calls Try.prog 10 #[.agg #[.int .i64 R, .slice a1 n1 c1, .slice a2 n2 c2, .slice a3 n3 c3, .slice a4 n4 c4], .int .i64 r] w (GivesSL R n1 n2 n3 n4 xs ms (dyT R xs ms ts bs r) bs 0 0 0 (dyL R xs ms ts bs r) w) := by
  have HOK := Lib.hid (show ∀ u, w.grownBy u none → Calls Try.prog 27 #[.agg #[.int .i64 R, .slice a1 n1 c1, .slice a2 n2 c2, .slice a3 n3 c3, .slice a4 n4 c4]] u fun e w' => e = .returned (.bool (stOk R xs ms ts bs)) ∧ u.grownBy w' none from fun u hu => stateOk_is R a1 a2 a3 a4 n1 n2 n3 n4 c1 c2 c3 c4 xs ms ts bs u (h.on hu) h1 h2 h3 h4)
  have HIS := Lib.hid (show ∀ u, Calls Try.prog 28 #[.int .i64 r] u fun e w' => e = .returned (.bool (rateB r)) ∧ u.grownBy w' none from fun u => isRate_is r u)
  have HCP := Lib.hid (show ∀ u, w.grownBy u none → Calls Try.prog 29 #[.agg #[.int .i64 R, .slice a1 n1 c1, .slice a2 n2 c2, .slice a3 n3 c3, .slice a4 n4 c4]] u (GivesS R n1 n2 n3 n4 xs ms ts bs u) from fun u hu => stClone_is R a1 a2 a3 a4 n1 n2 n3 n4 c1 c2 c3 c4 xs ms ts bs u (h.on hu) h1 h2 h3 h4)
  have he := (((Held.nil w).box 29 #[.int .i64 R, .slice a1 n1 c1, .slice a2 n2 c2, .slice a3 n3 c3, .slice a4 n4 c4]).box 29 #[.int .i64 0, .slice none 0 0, .slice none 0 0, .slice none 0 0, .slice none 0 0]).box 33 #[.int .i64 0, .int .i64 0, .int .i64 0, .int .i64 0]
  simp only [World.size_alloc] at he
  have HE := Lib.hid he; clear he
  cases hs : stOk R xs ms ts bs with
  | false =>
    have hp : dyB R xs ms ts bs r = false := by unfold dyB; rw [hs]; rfl
    unfold dyT dyL
    rw [hp]
    rw [hs] at HOK
    simp only [Bool.false_eq_true, if_false]
    clear h h1 h2 h3 h4 hs hp
    go_enter Try.func10, Try.ntmps10
    go_wp2_with fail
    generalize ((w.alloc (.cells #[.int .i64 R, .slice a1 n1 c1, .slice a2 n2 c2, .slice a3 n3 c3, .slice a4 n4 c4] 29)).alloc (.cells #[.int .i64 0, .slice none 0 0, .slice none 0 0, .slice none 0 0, .slice none 0 0] 29)).alloc (.cells #[.int .i64 0, .int .i64 0, .int .i64 0, .int .i64 0] 33) = W0 at *
    go_step3
    obtain ⟨p0, p1, p2, p3, p4⟩ := box5 (HE.out.nth 0 rfl)
    go_wp2_with (first
      | (go_at_call 27; ((with_reducible refine (HOK.out _ HE.out.gr).mono ?_); rintro e w1 ⟨rfl, hg⟩; have HE1 := Lib.hid (HE.out.on hg); obtain ⟨z0, z1, z2, z3, z4⟩ := box5 (HE1.out.nth 0 rfl); clear hg))
      | (go_at_call 28; ((with_reducible refine (HIS.out _).mono ?_); rintro e w2 ⟨rfl, hg⟩; have HE1 := Lib.hid (HE1.out.on hg); obtain ⟨z0, z1, z2, z3, z4⟩ := box5 (HE1.out.nth 0 rfl); clear hg))
      | (go_at_call 29; ((with_reducible refine (HCP.out _ HE1.out.gr).mono ?_); rintro e w2 ⟨q1, d1, q2, d2, q3, d3, q4, d4, rfl, ho, hg⟩; have HE2 := Lib.hid (State.Held.state HE1.out hg ho); obtain ⟨r0, r1, r2, r3, r4⟩ := box5 (HE2.out.nth 1 rfl); obtain ⟨f0, f1, f2, f3, f4⟩ := free5 (HE2.out.nth 1 rfl); obtain ⟨x0, x1, x2, x3⟩ := cells4 (HE2.out.nth 2 rfl); obtain ⟨e0, e1, e2, e3⟩ := frees4 (HE2.out.nth 2 rfl); clear ho hg)))
    have he := (HE2.out.put5 1 rfl (.int .i64 R) (.slice q1 n1 d1) (.slice q2 n2 d2) (.slice q3 n3 d3) (.slice q4 n4 d4)).put4 2 rfl (.int .i64 0) (.int .i64 0) (.int .i64 0) (.int .i64 0)
    try rw [Exit.noGoto_ret]
    exact bodyPost_ret_by (results_two_rows (fn := Try.f10) rfl _ _ (w.heap.size + 1) (w.heap.size + 2) _ _ _ _ (0, 0) (0, 0) _ _ rfl rfl (he.nth 1 rfl) (he.nth 2 rfl) Try.underlying29 rfl (by kernel_rfl) Try.underlying33 rfl (by kernel_rfl)) rfl ⟨q1, d1, q2, d2, q3, d3, q4, d4, rfl, Held.stateOwn he 3 rfl, he.gr⟩
  | true =>
  cases hb : rateB r with
  | false =>
    have hp : dyB R xs ms ts bs r = false := by unfold dyB; rw [hs, hb]; rfl
    unfold dyT dyL
    rw [hp]
    rw [hs] at HOK
    rw [hb] at HIS
    simp only [Bool.false_eq_true, if_false]
    clear h h1 h2 h3 h4 hs hp hb
    go_enter Try.func10, Try.ntmps10
    go_wp2_with fail
    generalize ((w.alloc (.cells #[.int .i64 R, .slice a1 n1 c1, .slice a2 n2 c2, .slice a3 n3 c3, .slice a4 n4 c4] 29)).alloc (.cells #[.int .i64 0, .slice none 0 0, .slice none 0 0, .slice none 0 0, .slice none 0 0] 29)).alloc (.cells #[.int .i64 0, .int .i64 0, .int .i64 0, .int .i64 0] 33) = W0 at *
    go_step3
    obtain ⟨p0, p1, p2, p3, p4⟩ := box5 (HE.out.nth 0 rfl)
    go_wp2_with (first
      | (go_at_call 27; ((with_reducible refine (HOK.out _ HE.out.gr).mono ?_); rintro e w1 ⟨rfl, hg⟩; have HE1 := Lib.hid (HE.out.on hg); obtain ⟨z0, z1, z2, z3, z4⟩ := box5 (HE1.out.nth 0 rfl); clear hg))
      | (go_at_call 28; ((with_reducible refine (HIS.out _).mono ?_); rintro e w2 ⟨rfl, hg⟩; have HE1 := Lib.hid (HE1.out.on hg); obtain ⟨z0, z1, z2, z3, z4⟩ := box5 (HE1.out.nth 0 rfl); clear hg))
      | (go_at_call 29; ((with_reducible refine (HCP.out _ HE1.out.gr).mono ?_); rintro e w2 ⟨q1, d1, q2, d2, q3, d3, q4, d4, rfl, ho, hg⟩; have HE2 := Lib.hid (State.Held.state HE1.out hg ho); obtain ⟨r0, r1, r2, r3, r4⟩ := box5 (HE2.out.nth 1 rfl); obtain ⟨f0, f1, f2, f3, f4⟩ := free5 (HE2.out.nth 1 rfl); obtain ⟨x0, x1, x2, x3⟩ := cells4 (HE2.out.nth 2 rfl); obtain ⟨e0, e1, e2, e3⟩ := frees4 (HE2.out.nth 2 rfl); clear ho hg)))
    have he := (HE2.out.put5 1 rfl (.int .i64 R) (.slice q1 n1 d1) (.slice q2 n2 d2) (.slice q3 n3 d3) (.slice q4 n4 d4)).put4 2 rfl (.int .i64 0) (.int .i64 0) (.int .i64 0) (.int .i64 0)
    try rw [Exit.noGoto_ret]
    exact bodyPost_ret_by (results_two_rows (fn := Try.f10) rfl _ _ (w.heap.size + 1) (w.heap.size + 2) _ _ _ _ (0, 0) (0, 0) _ _ rfl rfl (he.nth 1 rfl) (he.nth 2 rfl) Try.underlying29 rfl (by kernel_rfl) Try.underlying33 rfl (by kernel_rfl)) rfl ⟨q1, d1, q2, d2, q3, d3, q4, d4, rfl, Held.stateOwn he 3 rfl, he.gr⟩
  | true =>
    unfold dyT dyL
    rw [hs] at HOK
    rw [hb] at HIS
    have hp : dyB R xs ms ts bs r = true := by unfold dyB; rw [hs, hb]; rfl
    simp only [hp, if_true]
    obtain ⟨z1, z2, z3, z4⟩ := st_sizes hs
    have hn1 := h.l.len; have hn2 := h.m.len; have hn3 := h.t.len
    obtain rfl : n2 = n1 := by omega
    obtain rfl : n3 = n2 := by omega
    obtain ⟨n, hn⟩ : ∃ n, n = n3 := ⟨_, rfl⟩
    subst hn
    have HLS := Lib.hid fun k => loss_small hs hb k
    have HDF := Lib.hid fun k => decay_facts hs hb k
    have HLF := Lib.hid fun k => leaf_range hs k
    have HRT := Lib.hid h.t
    rw [lowT, hn3]
    have HTS := Lib.hid (show ts = gen n (tsAt ts) by rw [← hn3, gen_ts])
    have HN := Lib.hid (And.intro hn2 hn3)
    have HK0 := Lib.hid (show 0 < n by omega)
    have HDC := Lib.hid (show ∀ k u, Calls Try.prog 32 #[.int .i64 (tsAt ts k), .int .i64 r] u fun e w' => e = .returned (.int .i64 (decAt r ts k)) ∧ u.grownBy w' none from fun k u => decayOf_is r (tsAt ts k) hb (leaf_range hs k).2.2.1 (by have := leaf_range hs k; omega) u)
    have hni : (n : Int) ≤ 128 := by omega
    have HOB := Lib.hid (show ∀ u, w.grownBy u none → Calls Try.prog 30 #[.agg #[.int .i64 R, .slice a1 n c1, .slice a2 n c2, .slice a3 n c3, .slice a4 n4 c4]] u _ from fun u hu => openBooks_is R a1 a2 a3 a4 n n n n4 c1 c2 c3 c4 xs ms ts bs u (h.on hu) h1 h2 h3 h4)
    clear h h1 h2 h3 h4 hs hp hb z1 z2 z3 z4 hn1 hn2 hn3 HCP
    go_enter Try.func10, Try.ntmps10
    go_wp2_with fail
    generalize ((w.alloc (.cells #[.int .i64 R, .slice a1 n c1, .slice a2 n c2, .slice a3 n c3, .slice a4 n4 c4] 29)).alloc (.cells #[.int .i64 0, .slice none 0 0, .slice none 0 0, .slice none 0 0, .slice none 0 0] 29)).alloc (.cells #[.int .i64 0, .int .i64 0, .int .i64 0, .int .i64 0] 33) = W0 at *
    refine wp_scope_again 0 (fun a' w' => ∃ (j B k2 k3 d1 d2 d3 d4 : Nat) (q1 q4 : Option Addr) (u3 u8 u9 u10 u11 u12 u13 u14 u15 u16 u17 u18 u19 u20 u21 u22 u23 u24 u25 u26 u27 u28 u29 u30 u31 u32 u33 u34 u35 u36 u37 u38 u39 u40 u41 u42 u43 u44 u45 : Value), a' = { tmps := #[.agg #[.int .i64 R, .slice a1 n c1, .slice a2 n c2, .slice a3 n c3, .slice a4 n4 c4], .int .i64 r, .pointer (some ⟨w.heap.size, 0, none⟩), u3, .pointer (some ⟨w.heap.size + 1, 0, none⟩), .pointer (some ⟨w.heap.size + 2, 0, none⟩), .pointer (some ⟨B, 0, none⟩), .int .i64 (j : Int), u8, u9, u10, u11, u12, u13, u14, u15, u16, u17, u18, u19, u20, u21, u22, u23, u24, u25, u26, u27, u28, u29, u30, u31, u32, u33, u34, u35, u36, u37, u38, u39, u40, u41, u42, u43, u44, u45], defers := [] } ∧ (j : Int) ≤ n ∧ Hid (Held w w' [boxG w.heap.size 29 #[.int .i64 R, .slice a1 n c1, .slice a2 n c2, .slice a3 n c3, .slice a4 n4 c4], boxG (w.heap.size + 1) 29 #[.int .i64 0, .slice none 0 0, .slice none 0 0, .slice none 0 0, .slice none 0 0], boxG (w.heap.size + 2) 33 #[.int .i64 0, .int .i64 0, .int .i64 0, .int .i64 0], stateG (.slice q1 n d1) (.slice (some ⟨k2, 0, none⟩) n d2) (.slice (some ⟨k3, 0, none⟩) n d3) (.slice q4 n4 d4) n n n n4 xs ms (gen n (upto j (lowAt r ts) (tsAt ts))) bs, boxG B 64 #[.int .i64 R, .slice q1 n d1, .slice (some ⟨k2, 0, none⟩) n d2, .slice (some ⟨k3, 0, none⟩) n d3, .slice q4 n4 d4, .int .i64 0, .int .i64 0, .int .i64 0, .int .i64 (lossT r ts j)]])) (fun a' _ => n - (intOf (a'.tmps.getD 7 undef)).toNat) rfl ?pass ?first
    case pass =>
      rintro a' wr ⟨j, B, k2, k3, d1, d2, d3, d4, q1, q4, u3, u8, u9, u10, u11, u12, u13, u14, u15, u16, u17, u18, u19, u20, u21, u22, u23, u24, u25, u26, u27, u28, u29, u30, u31, u32, u33, u34, u35, u36, u37, u38, u39, u40, u41, u42, u43, u44, u45, rfl, hj, HF⟩
      clear HE HOK HIS HOB
      obtain ⟨p0, p1, p2, p3, p4⟩ := box5 (HF.out.nth 0 rfl)
      by_cases hlt : (j : Int) < n
      · have HK := Lib.hid (show j < n by omega)
        have HTK := Lib.hid (show ∀ u, Held w u [boxG w.heap.size 29 #[.int .i64 R, .slice a1 n c1, .slice a2 n c2, .slice a3 n c3, .slice a4 n4 c4], boxG (w.heap.size + 1) 29 #[.int .i64 0, .slice none 0 0, .slice none 0 0, .slice none 0 0, .slice none 0 0], boxG (w.heap.size + 2) 33 #[.int .i64 0, .int .i64 0, .int .i64 0, .int .i64 0], stateG (.slice q1 n d1) (.slice (some ⟨k2, 0, none⟩) n d2) (.slice (some ⟨k3, 0, none⟩) n d3) (.slice q4 n4 d4) n n n n4 xs ms (gen n (upto j (lowAt r ts) (tsAt ts))) bs, boxG B 64 #[.int .i64 R, .slice q1 n d1, .slice (some ⟨k2, 0, none⟩) n d2, .slice (some ⟨k3, 0, none⟩) n d3, .slice q4 n4 d4, .int .i64 0, .int .i64 0, .int .i64 0, .int .i64 (lossT r ts j)]] → Calls Try.prog 31 #[.pointer (some ⟨B, 0, none⟩), .int .i64 (j : Int), .int .i64 (decAt r ts j)] u fun e u' => e = .returned (.tuple #[]) ∧ Held w u' [boxG w.heap.size 29 #[.int .i64 R, .slice a1 n c1, .slice a2 n c2, .slice a3 n c3, .slice a4 n4 c4], boxG (w.heap.size + 1) 29 #[.int .i64 0, .slice none 0 0, .slice none 0 0, .slice none 0 0, .slice none 0 0], boxG (w.heap.size + 2) 33 #[.int .i64 0, .int .i64 0, .int .i64 0, .int .i64 0], stateG (.slice q1 n d1) (.slice (some ⟨k2, 0, none⟩) n d2) (.slice (some ⟨k3, 0, none⟩) n d3) (.slice q4 n4 d4) n n n n4 xs ms (gen n (upto (j + 1) (lowAt r ts) (tsAt ts))) bs, boxG B 64 #[.int .i64 R, .slice q1 n d1, .slice (some ⟨k2, 0, none⟩) n d2, .slice (some ⟨k3, 0, none⟩) n d3, .slice q4 n4 d4, .int .i64 0, .int .i64 0, .int .i64 0, .int .i64 (lossT r ts (j + 1))]] from fun u hu => by
          have l1 := HLF.out j
          have l2 := HDF.out j
          have l3 := HLS.out j
          have gm := at_get (xs := ms) (k := j) (by rw [HN.out.1]; exact HK.out)
          rw [(ats_eq ms j).1] at gm
          have gt : (gen n (upto j (lowAt r ts) (tsAt ts)))[j]? = some (tsAt ts j) := by rw [gen_at _ HK.out, upto_here]
          have q := lose_is R q1 q4 k2 k3 n n n n4 d1 d2 d3 d4 B 4 3 j xs ms (gen n (upto j (lowAt r ts) (tsAt ts))) bs (decAt r ts j) (msAt ms j) (tsAt ts j) 0 0 0 (lossT r ts j) hu rfl rfl (by decide) gm gt (by omega) (by omega) (by omega) (by omega) (by omega)
          rw [← Int.sub_eq_add_neg, show tsAt ts j - decAt r ts j = lowAt r ts j from rfl, upto_set, show lossT r ts j + decAt r ts j = lossT r ts (j + 1) from sum_next j _] at q
          exact q)
        have gt := at_get (xs := ts) (k := j) (by rw [HN.out.2]; exact HK.out)
        rw [(ats_eq ts j).2] at gt
        obtain ⟨g3, o3, rfl, d0⟩ := (HRT.out.on HF.out.gr).at_ j _ gt
        have HD := Lib.hid (HDC.out j)
        clear gt
        generalize tsAt ts j = Y at *
        generalize decAt r ts j = D at *
        go_upto_region 7 with (first
          | (go_at_call 32; ((with_reducible refine (HD.out _).mono ?_); rintro e w7 ⟨rfl, hg⟩; have HF1 := Lib.hid (HF.out.on hg); clear hg))
          | (go_at_call 31; ((with_reducible refine (HTK.out _ HF1.out).mono ?_); rintro e w8 ⟨rfl, hh⟩; have HF2 := Lib.hid hh; clear hh)))
        go_wp2_with fail
        go_step3
        change _ ∧ _ ∧ _
        refine ⟨rfl, ⟨j + 1, B, k2, k3, d1, d2, d3, d4, q1, q4, _, _, _, _, _, _, _, _, _, _, _, _, _, _, _, _, _, _, _, _, _, _, _, _, _, _, _, _, _, _, _, _, _, _, _, _, _, _, _, rfl, by omega, HF2⟩, ?_⟩
        simp [intOf]; omega
      · obtain rfl : n = j := by omega
        have HE8 := Lib.hid HF.out
        rw [upto_all] at HE8
        clear HF
        go_upto_region 8 with fail
        obtain ⟨⟨b0, b1, b2, b3, b4⟩, b5, b6, b7, b8⟩ := cells9 (HE8.out.nth 4 rfl)
        obtain ⟨r0, r1, r2, r3, r4⟩ := box5 (HE8.out.nth 1 rfl)
        obtain ⟨f0, f1, f2, f3, f4⟩ := free5 (HE8.out.nth 1 rfl)
        obtain ⟨x0, x1, x2, x3⟩ := cells4 (HE8.out.nth 2 rfl)
        obtain ⟨e0, e1, e2, e3⟩ := frees4 (HE8.out.nth 2 rfl)
        have n14 : w.heap.size + 1 ≠ B := HE8.out.boxNe 1 4 (by decide) rfl rfl
        have n24 : w.heap.size + 1 + 1 ≠ B := HE8.out.boxNe 2 4 (by decide) rfl rfl
        go_region
        all_goals
          go_wp2_with fail
          have he := ((HE8.out.put5 1 rfl (.int .i64 R) (.slice q1 n d1) (.slice (some ⟨k2, 0, none⟩) n d2) (.slice (some ⟨k3, 0, none⟩) n d3) (.slice q4 n4 d4)).put4 2 rfl (.int .i64 0) (.int .i64 0) (.int .i64 0) (.int .i64 (lossT r ts n))).on (Mesh.gr_drew (Cell.grown_refl _))
          exact bodyPost_ret_by (results_two_rows (fn := Try.f10) rfl _ _ (w.heap.size + 1) (w.heap.size + 2) _ _ _ _ (0, 0) (0, 0) _ _ rfl rfl (he.nth 1 rfl) (he.nth 2 rfl) Try.underlying29 rfl (by kernel_rfl) Try.underlying33 rfl (by kernel_rfl)) rfl ⟨q1, d1, some ⟨k2, 0, none⟩, d2, some ⟨k3, 0, none⟩, d3, q4, d4, by first | rfl | (simp; done), by exact Held.stateOwn he 3 rfl, he.gr⟩
    case first =>
      intro HP
      have HPP := Lib.hid HP
      clear HP
      obtain ⟨p0, p1, p2, p3, p4⟩ := box5 (HE.out.nth 0 rfl)
      go_upto_region 3 with (first
        | (go_at_call 27; ((with_reducible refine (HOK.out _ HE.out.gr).mono ?_); rintro e w1 ⟨rfl, hg⟩; have HE1 := Lib.hid (HE.out.on hg); clear hg))
        | (go_at_call 28; ((with_reducible refine (HIS.out _).mono ?_); rintro e w2 ⟨rfl, hg⟩; have HE2 := Lib.hid (HE1.out.on hg); clear hg)))
      clear p0 p1 p2 p3 p4 HE HE1 HOK HIS
      obtain ⟨p0, p1, p2, p3, p4⟩ := box5 (HE2.out.nth 0 rfl)
      go_upto_region 4 with (go_at_call 30; ((with_reducible refine (HOB.out _ HE2.out.gr).mono ?_); rintro e w3 ⟨B, q1, d1, q2, d2, q3, d3, q4, d4, rfl, hh⟩; have HE3 := Lib.hid (HE2.out.app hh); clear hh))
      clear p0 p1 p2 p3 p4 HE2 HOB
      obtain ⟨k2, y2, rfl, -, -, -⟩ := own_cellI (OwnS.m (HE3.out.nth 3 rfl)) HK0.out
      obtain ⟨k3, y3, rfl, -, -, -⟩ := own_cellI (OwnS.t (HE3.out.nth 3 rfl)) HK0.out
      have HE4 : Hid (Held w w3 [boxG w.heap.size 29 #[.int .i64 R, .slice a1 n c1, .slice a2 n c2, .slice a3 n c3, .slice a4 n4 c4], boxG (w.heap.size + 1) 29 #[.int .i64 0, .slice none 0 0, .slice none 0 0, .slice none 0 0, .slice none 0 0], boxG (w.heap.size + 2) 33 #[.int .i64 0, .int .i64 0, .int .i64 0, .int .i64 0], stateG (.slice q1 n d1) (.slice (some ⟨k2, 0, none⟩) n d2) (.slice (some ⟨k3, 0, none⟩) n d3) (.slice q4 n4 d4) n n n n4 xs ms (gen n (upto 0 (lowAt r ts) (tsAt ts))) bs, boxG B 64 #[.int .i64 R, .slice q1 n d1, .slice (some ⟨k2, 0, none⟩) n d2, .slice (some ⟨k3, 0, none⟩) n d3, .slice q4 n4 d4, .int .i64 0, .int .i64 0, .int .i64 0, .int .i64 (lossT r ts 0)]]) := by
        have q := HE3.out
        rw [upto_zero, ← HTS.out]
        exact Lib.hid q
      clear HE3
      go_wp2_with fail
      go_step3
      rename_i hK
      exact hK _ _ (HPP.out _ _ ⟨0, B, k2, k3, d1, d2, d3, d4, q1, q4, _, _, _, _, _, _, _, _, _, _, _, _, _, _, _, _, _, _, _, _, _, _, _, _, _, _, _, _, _, _, _, _, _, _, _, _, _, _, _, rfl, by omega, HE4⟩)

set_option maxHeartbeats 8000000 in
/-- How often a tracer decays. -/
theorem decayTicks_is (t r l : Int) (w : World) : Calls Try.prog 12 #[.int .i64 t, .int .i64 r, .int .i64 l] w fun e w' => e = .returned (.int .i64 (ticksOf t r l)) ∧ w.grownBy w' none := by
  have HG := Lib.hid (show w.grownBy w none from Cell.grown_refl w)
  cases ht : tracerB t with
  | false =>
    have HT := Lib.hid (show ∀ u, Calls Try.prog 34 #[.int .i64 t] u fun e w' => e = .returned (.bool false) ∧ u.grownBy w' none from fun u => by rw [← ht]; exact isTracer_is t u)
    rw [show ticksOf t r l = -1 by unfold ticksOf; rw [ht]; rfl]
    clear ht
    go_enter Try.func12, Try.ntmps12
    go_wp2_with (first | (go_at_call 34; ((first | (with_reducible refine (HT.out _).mono ?_)); rintro e w1 ⟨rfl, hg⟩; have HG := Lib.hid (Cell.grown_trans HG.out hg); clear hg)))
    go_ret
    exact ⟨rfl, HG.out⟩
  | true =>
  have HT := Lib.hid (show ∀ u, Calls Try.prog 34 #[.int .i64 t] u fun e w' => e = .returned (.bool true) ∧ u.grownBy w' none from fun u => by rw [← ht]; exact isTracer_is t u)
  cases hl : tracerB l with
  | false =>
    have HL := Lib.hid (show ∀ u, Calls Try.prog 34 #[.int .i64 l] u fun e w' => e = .returned (.bool false) ∧ u.grownBy w' none from fun u => by rw [← hl]; exact isTracer_is l u)
    rw [show ticksOf t r l = -1 by unfold ticksOf; rw [ht, hl]; rfl]
    clear ht hl
    go_enter Try.func12, Try.ntmps12
    go_wp2_with (first | (go_at_call 34; ((first | (with_reducible refine (HT.out _).mono ?_) | (with_reducible refine (HL.out _).mono ?_)); rintro e w1 ⟨rfl, hg⟩; have HG := Lib.hid (Cell.grown_trans HG.out hg); clear hg)))
    go_ret
    exact ⟨rfl, HG.out⟩
  | true =>
  have HL := Lib.hid (show ∀ u, Calls Try.prog 34 #[.int .i64 l] u fun e w' => e = .returned (.bool true) ∧ u.grownBy w' none from fun u => by rw [← hl]; exact isTracer_is l u)
  cases hr : rateB r with
  | false =>
    have HR := Lib.hid (show ∀ u, Calls Try.prog 28 #[.int .i64 r] u fun e w' => e = .returned (.bool false) ∧ u.grownBy w' none from fun u => by rw [← hr]; exact isRate_is r u)
    rw [show ticksOf t r l = -1 by unfold ticksOf; rw [ht, hl, hr]; rfl]
    clear ht hl hr
    go_enter Try.func12, Try.ntmps12
    go_wp2_with (first | (go_at_call 34; ((first | (with_reducible refine (HT.out _).mono ?_) | (with_reducible refine (HL.out _).mono ?_)); rintro e w1 ⟨rfl, hg⟩; have HG := Lib.hid (Cell.grown_trans HG.out hg); clear hg)) | (go_at_call 28; ((first | (with_reducible refine (HR.out _).mono ?_)); rintro e w1 ⟨rfl, hg⟩; have HG := Lib.hid (Cell.grown_trans HG.out hg); clear hg)))
    go_ret
    exact ⟨rfl, HG.out⟩
  | true =>
    have HR := Lib.hid (show ∀ u, Calls Try.prog 28 #[.int .i64 r] u fun e w' => e = .returned (.bool true) ∧ u.grownBy w' none from fun u => by rw [← hr]; exact isRate_is r u)
    obtain ⟨A, hA⟩ : ∃ A, A = tk r l t.toNat t 0 := ⟨_, rfl⟩
    rw [show ticksOf t r l = A by unfold ticksOf; rw [ht, hl, hr, hA]; rfl]
    obtain ⟨t0, t1⟩ := of_decide_eq_true ht
    obtain ⟨l0, l1⟩ := of_decide_eq_true hl
    have HB := Lib.hid hr
    have HA := Lib.hid hA.symm
    have hl0 : 0 ≤ l := l0
    clear ht hl hr hA l0 l1
    go_enter Try.func12, Try.ntmps12
    go_wp2_with (first | (go_at_call 34; ((first | (with_reducible refine (HT.out _).mono ?_) | (with_reducible refine (HL.out _).mono ?_)); rintro e w1 ⟨rfl, hg⟩; have HG := Lib.hid (Cell.grown_trans HG.out hg); clear hg)) | (go_at_call 28; ((first | (with_reducible refine (HR.out _).mono ?_)); rintro e w1 ⟨rfl, hg⟩; have HG := Lib.hid (Cell.grown_trans HG.out hg); clear hg)))
    go_loopw [0, 7, 8] (fun t n x wr => ∃ (f : Nat) (T N : Int), t = .int .i64 T ∧ n = .int .i64 N ∧ 0 ≤ T ∧ T ≤ f ∧ T ≤ 10000000000 ∧ 0 ≤ N ∧ N + T ≤ 10000000000 ∧ Hid (tk r l f T N = A) ∧ Hid (w.grownBy wr none)) (fun t _ _ _ => (intOf t).toNat)
    case atStart => exact ⟨t.toNat, t, 0, rfl, rfl, t0, by omega, t1, by omega, by omega, HA, HG⟩
    case round =>
      clear HA HG HT HL HR t0 t1
      obtain ⟨f, T, N, rfl, rfl, h0, h1, h2, h3, h4, HK, HF⟩ := hrel
      by_cases hlt : l < T
      · obtain ⟨g, rfl⟩ : ∃ g, f = g + 1 := ⟨f - 1, by omega⟩
        obtain ⟨p0, p1, p2, p3⟩ := dec_facts HB.out h0
        have HD := Lib.hid (show ∀ u, Calls Try.prog 32 #[.int .i64 T, .int .i64 r] u fun e w' => e = .returned (.int .i64 (decN r T)) ∧ u.grownBy w' none from fun u => decayOf_is r T HB.out h0 h2 u)
        obtain ⟨D, hD⟩ : ∃ D, decN r T = D := ⟨_, rfl⟩
        rw [hD] at p2 p3 HD
        by_cases hz : D = 0
        · subst hz
          have HX := Lib.hid (HK.out.symm.trans (tk_none hlt hD g N))
          clear HK hD p0 p1 p2 p3
          go_wp2_with (go_at_call 32; ((with_reducible refine (HD.out _).mono ?_); rintro e w1 ⟨rfl, hg⟩; have HG := Lib.hid (Cell.grown_trans HF.out hg); clear hg))
          go_ret
          exact ⟨by rw [HX.out]; rfl, HG.out⟩
        · have HX := Lib.hid ((tk_next hlt (by rw [hD]; exact hz) g N).symm.trans HK.out)
          rw [hD] at HX
          have e4 : IntKind.i64.wrap (T - D) = T - D := IntWalk.i64_in _ (by omega)
          have e5 : IntKind.i64.wrap (N + 1) = N + 1 := IntWalk.i64_in _ (by omega)
          clear HK p0 p1 hD
          go_wp2_with (go_at_call 32; ((with_reducible refine (HD.out _).mono ?_); rintro e w1 ⟨rfl, hg⟩; have HG := Lib.hid (Cell.grown_trans HF.out hg); clear hg))
          go_roundw
          case rel => exact ⟨g, T - D, N + 1, rfl, rfl, by omega, by omega, by omega, by omega, by omega, HX, HG⟩
          case measure => simp [intOf]; omega
      · have HX := Lib.hid ((tk_stop hlt f N).symm.trans HK.out)
        clear HK
        go_wp2_with fail
        go_ret
        exact ⟨by rw [← HX.out]; rfl, HF.out⟩
end Go.Proofs.Ytcboogodphpjbaa.State
