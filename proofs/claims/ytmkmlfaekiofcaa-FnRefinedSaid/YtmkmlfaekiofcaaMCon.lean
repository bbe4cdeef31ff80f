/- Cells and meshes: Contains of the reference model, as a contract; what lies in what, as a plain order; each leaf of the balanced mesh lies in a leaf of the mesh, in order.
   Conditions: none. -/
import Derived.Test.YtmkmlfaekiofcaaMSplitPure
import Derived.Test.YtmkmlfaekiofcaaMCover
import Derived.Test.YtmkmlfaekiofcaaMFaceI
namespace Go.Proofs.Ytmkmlfaekiofcaa.Mesh
open Go.ChangeShapes Go.WideShapes Go.ChangeAt Go.RowKit Go.Proofs.Ytmkmlfaekiofcaa.Cell

/-- Is the second cell the first or within it. -/
def conB (r l i r' l' i' : Int) : Bool := okId r l i && (okId r' l' i' && (decide (r = r') && (decide (l ≤ l') && decide (i' / 2 ^ (l' - l).toNat = i))))

set_option maxHeartbeats 2000000 in
theorem specCon_is (r l i r' l' i' : Int) (w : World) :
    Calls Try.prog 38 #[.agg #[.int .i64 r, .int .i64 l, .int .i64 i], .agg #[.int .i64 r', .int .i64 l', .int .i64 i']] w fun e w' => e = .returned (.bool (conB r l i r' l' i')) ∧ w.grownBy w' none := by
  by_cases h1 : ¬ okId r l i = true
  · rw [Bool.not_eq_true] at h1
    have hs : conB r l i r' l' i' = false := by simp [conB, h1]
    rw [hs]
    go_enter Try.func38, Try.ntmps38
    go_wp2_with (go_at_call 48; (with_reducible refine (specOk_is r l i _).mono ?_); rintro e w' ⟨rfl, n, rfl⟩)
    go_ret
    refine ⟨rfl, ?_⟩
    repeat (first | exact grown_refl _ | refine g_alloc ?_ _ | refine g_drewN ?_ _)
  rw [Decidable.not_not] at h1
  by_cases h2 : ¬ okId r' l' i' = true
  · rw [Bool.not_eq_true] at h2
    have hs : conB r l i r' l' i' = false := by simp [conB, h2]
    rw [hs]
    go_enter Try.func38, Try.ntmps38
    go_wp2_with (first
      | (go_at_call 48; (with_reducible refine (specOk_is r l i _).mono ?_); rintro e w' ⟨rfl, n, rfl⟩)
      | (go_at_call 48; (with_reducible refine (specOk_is r' l' i' _).mono ?_); rintro e w' ⟨rfl, n, rfl⟩))
    go_ret
    refine ⟨rfl, ?_⟩
    repeat (first | exact grown_refl _ | refine g_alloc ?_ _ | refine g_drewN ?_ _)
  rw [Decidable.not_not] at h2
  obtain ⟨q0, q1, q2, q3, q4, q5, -, -⟩ := bounds h1
  obtain ⟨p0, p1, p2, p3, p4, p5, -, -⟩ := bounds h2
  by_cases h3 : ¬ r = r'
  · have hs : conB r l i r' l' i' = false := by simp [conB, h3]
    have hb : (r == r') = false := by simp [h3]
    rw [hs]
    go_enter Try.func38, Try.ntmps38
    go_wp2_with (first
      | (go_at_call 48; (with_reducible refine (specOk_is r l i _).mono ?_); rintro e w' ⟨rfl, n, rfl⟩)
      | (go_at_call 48; (with_reducible refine (specOk_is r' l' i' _).mono ?_); rintro e w' ⟨rfl, n, rfl⟩))
    go_ret
    refine ⟨rfl, ?_⟩
    repeat (first | exact grown_refl _ | refine g_alloc ?_ _ | refine g_drewN ?_ _)
  rw [Decidable.not_not] at h3
  subst h3
  by_cases h4 : ¬ l ≤ l'
  · have hs : conB r l i r l' i' = false := by simp [conB, h4]
    rw [hs]
    go_enter Try.func38, Try.ntmps38
    go_wp2_with (first
      | (go_at_call 48; (with_reducible refine (specOk_is r l i _).mono ?_); rintro e w' ⟨rfl, n, rfl⟩)
      | (go_at_call 48; (with_reducible refine (specOk_is r l' i' _).mono ?_); rintro e w' ⟨rfl, n, rfl⟩))
    go_ret
    refine ⟨rfl, ?_⟩
    repeat (first | exact grown_refl _ | refine g_alloc ?_ _ | refine g_drewN ?_ _)
  rw [Decidable.not_not] at h4
  have hs : conB r l i r l' i' = decide (i' / 2 ^ (l' - l).toNat = i) := by simp [conB, h1, h2, h4]
  rw [hs]
  go_enter Try.func38, Try.ntmps38
  go_wp2_with (first
    | (go_at_call 48; (with_reducible refine (specOk_is r l i _).mono ?_); rintro e w' ⟨rfl, n, rfl⟩)
    | (go_at_call 48; (with_reducible refine (specOk_is r l' i' _).mono ?_); rintro e w' ⟨rfl, n, rfl⟩))
  go_ret
  refine ⟨rfl, ?_⟩
  repeat (first | exact grown_refl _ | refine g_alloc ?_ _ | refine g_drewN ?_ _)


/-- The second cell is the first or lies in it. -/
def con (x y : C3) : Bool := conB x.1 x.2.1 x.2.2 y.1 y.2.1 y.2.2
theorem con_iff {x y : C3} : con x y = true ↔ okOf x = true ∧ okOf y = true ∧ x.1 = y.1 ∧ x.2.1 ≤ y.2.1 ∧ y.2.2 / 2 ^ (y.2.1 - x.2.1).toNat = x.2.2 := by
  simp [con, conB, okOf]
theorem con_refl {x : C3} (h : okOf x = true) : con x x = true := con_iff.2 ⟨h, h, rfl, Int.le_refl _, by simp⟩
theorem con_kid {x : C3} {s : Int} (h : okOf x = true) (hl : x.2.1 < 4) (hs : s = 0 ∨ s = 1) : con x (kidOf x s) = true := by
  refine con_iff.2 ⟨h, (kidOf_ok h hl hs).1, rfl, by show x.2.1 ≤ x.2.1 + 1; omega, ?_⟩
  show (2 * x.2.2 + s) / 2 ^ (x.2.1 + 1 - x.2.1).toNat = x.2.2
  rw [show (x.2.1 + 1 - x.2.1).toNat = 1 by omega]
  omega
theorem con_trans {x y z : C3} (h : con x y = true) (k : con y z = true) : con x z = true := by
  obtain ⟨h0, h1, h2, h3, h4⟩ := con_iff.1 h
  obtain ⟨k0, k1, k2, k3, k4⟩ := con_iff.1 k
  refine con_iff.2 ⟨h0, k1, h2.trans k2, Int.le_trans h3 k3, ?_⟩
  rw [show (z.2.1 - x.2.1).toNat = (z.2.1 - y.2.1).toNat + (y.2.1 - x.2.1).toNat by omega, Int.pow_add, ← Int.ediv_ediv_of_nonneg (Int.le_of_lt (Int.pow_pos (by decide))), k4, h4]
theorem con_within {x y : C3} (h : con x y = true) : Within x y := by
  obtain ⟨h0, h1, h2, h3, h4⟩ := con_iff.1 h
  obtain ⟨r, l, i⟩ := x
  obtain ⟨r', l', i'⟩ := y
  obtain ⟨-, -, a2, a3, a4, -⟩ := ok_bounds h0
  obtain ⟨-, -, b2, b3, b4, -⟩ := ok_bounds h1
  dsimp only at h2 h3 h4 a2 a3 b2 b3 a4 b4
  subst h2
  unfold Within
  rw [a4, b4]
  unfold wdOf
  dsimp only at a4 b4 ⊢
  clear a4 b4 h h0 h1
  rcases lvl a2 a3 with rfl | rfl | rfl | rfl | rfl <;> rcases lvl b2 b3 with rfl | rfl | rfl | rfl | rfl
  all_goals first
    | omega
    | (simp [widthOf] at h4 ⊢; omega)
/-- Each leaf of the balanced mesh lies in a leaf of the mesh. -/
theorem bal_con {R : Int} : ∀ (f : Nat) (xs : List C3), meshOk R xs = true → ∀ y ∈ bal f xs, ∃ x ∈ xs, con x y = true
  | 0, xs, h, y, hy => by
    obtain ⟨h1, h2, h3⟩ : 1 ≤ R ∧ R ≤ 8 ∧ run xs = some (R * 16) := of_decide_eq_true h
    exact ⟨y, hy, con_refl ((run_bounds _ h3).2.2 y hy)⟩
  | f + 1, xs, h, y, hy => by
    by_cases hg : firstGap xs < 0
    · rw [bal_done hg] at hy
      obtain ⟨h1, h2, h3⟩ : 1 ≤ R ∧ R ≤ 8 ∧ run xs = some (R * 16) := of_decide_eq_true h
      exact ⟨y, hy, con_refl ((run_bounds _ h3).2.2 y hy)⟩
    · rw [bal_next hg] at hy
      obtain ⟨z, hz, hzy⟩ := bal_con f _ (step_ok h hg).1 y hy
      obtain ⟨k, x, -, hx, ho, hl, -, -, hb⟩ := step_at h hg
      rw [hb] at hz
      rcases mem_split hx hz with hm | rfl | rfl
      · exact ⟨z, hm, hzy⟩
      · exact ⟨x, List.mem_of_getElem? hx, con_trans (con_kid ho (by omega) (.inl rfl)) hzy⟩
      · exact ⟨x, List.mem_of_getElem? hx, con_trans (con_kid ho (by omega) (.inr rfl)) hzy⟩
theorem balOf_con {R : Int} {xs : List C3} (h : meshOk R xs = true) {i : Nat} {y : C3} (hy : (balOf R xs)[i]? = some y) : ∃ (j : Nat) (x : C3), xs[j]? = some x ∧ con x y = true := by
  rw [show balOf R xs = bal 128 xs from if_pos h] at hy
  obtain ⟨x, hx, hc⟩ := bal_con 128 xs h y (List.mem_of_getElem? hy)
  obtain ⟨j, hj⟩ := List.getElem?_of_mem hx
  exact ⟨j, x, hj, hc⟩
theorem balOf_deep {R : Int} {xs : List C3} (h : meshOk R xs = true) : deepest R (balOf R xs) = deepest R xs := by
  have h1 := (balOf_ok h).1
  simp only [deepest, h1, h, if_true]
  rw [show balOf R xs = bal 128 xs from if_pos h]
  exact bal_deep 128 xs h
/-- The leaves of a valid mesh lie in order. -/
theorem in_order {R : Int} {xs : List C3} (h : meshOk R xs = true) {j k : Nat} {x y : C3} (hjk : j < k) (hx : xs[j]? = some x) (hy : xs[k]? = some y) : stOf x + wdOf x ≤ stOf y ∧ 1 ≤ wdOf x := by
  obtain ⟨g1, g2, g3⟩ : 1 ≤ R ∧ R ≤ 8 ∧ run xs = some (R * 16) := of_decide_eq_true h
  have hok : ∀ (j : Nat) x, xs[j]? = some x → okOf x = true := fun j x hx => (run_bounds _ g3).2.2 x (List.mem_of_getElem? hx)
  obtain ⟨e0, h0⟩ : ∃ e0, run (xs.take k) = some e0 := by
    cases h : run (xs.take k) with
    | some e0 => exact ⟨e0, rfl⟩
    | none => rw [run_take_none h] at g3; cases g3
  have hk := (List.getElem?_eq_some_iff.1 hy).1
  obtain ⟨a, -⟩ := lie hok k e0 (by omega) h0
  obtain ⟨a1, a2, a3⟩ := a j x hjk hx
  have hs : stOf y = e0 := by
    by_cases hs : stOf y = e0
    · exact hs
    · have hn := run_next hy h0
      rw [step_no hs] at hn
      rw [run_take_none hn] at g3
      cases g3
  exact ⟨by omega, a2⟩
/-- The leaves that hold one leaf and the next. -/
theorem con_order {R : Int} {xs bs : List C3} (h : meshOk R xs = true) (hb : meshOk R bs = true) {i j k : Nat} {x x' y y' : C3} (hy : bs[i]? = some y) (hy' : bs[i + 1]? = some y') (hx : xs[k]? = some x) (hx' : xs[j]? = some x') (hc : con x y = true) (hc' : con x' y' = true) : k ≤ j := by
  by_cases hjk : k ≤ j
  · exact hjk
  · obtain ⟨o1, o2⟩ := in_order h (by omega) hx' hx
    obtain ⟨o3, o4⟩ := in_order hb (Nat.lt_succ_self i) hy hy'
    obtain ⟨c1, c2⟩ := con_within hc
    obtain ⟨c3, c4⟩ := con_within hc'
    have hp := (ok_bounds (con_iff.1 hc').2.1).2.2.2.2.2.1
    omega
end Go.Proofs.Ytmkmlfaekiofcaa.Mesh
