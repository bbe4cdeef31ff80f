/- Cells: Contains of the program and of the reference model, each by one contract whose answer is a function of the arguments.
   Conditions: none. -/
import Derived.Test.YthecidagejagmaaCellSib
namespace Go.Proofs.Ythecidagejagmaa.Cell
open Go.ChangeShapes Go.WideShapes Go.ChangeAt Go.RowKit

/-- Is the second cell the first or within it. -/
def conB (r l i r' l' i' : Int) : Bool := okId r l i && (okId r' l' i' && (decide (r = r') && (decide (l ≤ l') && decide (i' / 2 ^ (l' - l).toNat = i))))

set_option maxHeartbeats 2000000 in
theorem specCon_is (r l i r' l' i' : Int) (w : World) :
    Calls Try.prog 30 #[.agg #[.int .i64 r, .int .i64 l, .int .i64 i], .agg #[.int .i64 r', .int .i64 l', .int .i64 i']] w fun e w' => e = .returned (.bool (conB r l i r' l' i')) ∧ w.grownBy w' none := by
  by_cases h1 : ¬ okId r l i = true
  · rw [Bool.not_eq_true] at h1
    have hs : conB r l i r' l' i' = false := by simp [conB, h1]
    rw [hs]
    go_enter Try.func30, Try.ntmps30
    go_wp2_with (go_at_call 21; (with_reducible refine (specOk_is r l i _).mono ?_); rintro e w' ⟨rfl, n, rfl⟩)
    go_ret
    refine ⟨rfl, ?_⟩
    repeat (first | exact grown_refl _ | refine g_alloc ?_ _ | refine g_drewN ?_ _)
  rw [Decidable.not_not] at h1
  by_cases h2 : ¬ okId r' l' i' = true
  · rw [Bool.not_eq_true] at h2
    have hs : conB r l i r' l' i' = false := by simp [conB, h2]
    rw [hs]
    go_enter Try.func30, Try.ntmps30
    go_wp2_with (first
      | (go_at_call 21; (with_reducible refine (specOk_is r l i _).mono ?_); rintro e w' ⟨rfl, n, rfl⟩)
      | (go_at_call 21; (with_reducible refine (specOk_is r' l' i' _).mono ?_); rintro e w' ⟨rfl, n, rfl⟩))
    go_ret
    refine ⟨rfl, ?_⟩
    repeat (first | exact grown_refl _ | refine g_alloc ?_ _ | refine g_drewN ?_ _)
  rw [Decidable.not_not] at h2
  obtain ⟨q0, q1, q2, q3, q4, q5, -, -⟩ := bounds h1
  obtain ⟨p0, p1, p2, p3, p4, p5, -, -⟩ := bounds h2
  by_cases h3 : ¬ r = r'
  · have hs : conB r l i r' l' i' = false := by simp [conB, h3]
    have hb : (r == r') = false := by simp [h3]
    rw [hs]
    go_enter Try.func30, Try.ntmps30
    go_wp2_with (first
      | (go_at_call 21; (with_reducible refine (specOk_is r l i _).mono ?_); rintro e w' ⟨rfl, n, rfl⟩)
      | (go_at_call 21; (with_reducible refine (specOk_is r' l' i' _).mono ?_); rintro e w' ⟨rfl, n, rfl⟩))
    go_ret
    refine ⟨rfl, ?_⟩
    repeat (first | exact grown_refl _ | refine g_alloc ?_ _ | refine g_drewN ?_ _)
  rw [Decidable.not_not] at h3
  subst h3
  by_cases h4 : ¬ l ≤ l'
  · have hs : conB r l i r l' i' = false := by simp [conB, h4]
    rw [hs]
    go_enter Try.func30, Try.ntmps30
    go_wp2_with (first
      | (go_at_call 21; (with_reducible refine (specOk_is r l i _).mono ?_); rintro e w' ⟨rfl, n, rfl⟩)
      | (go_at_call 21; (with_reducible refine (specOk_is r l' i' _).mono ?_); rintro e w' ⟨rfl, n, rfl⟩))
    go_ret
    refine ⟨rfl, ?_⟩
    repeat (first | exact grown_refl _ | refine g_alloc ?_ _ | refine g_drewN ?_ _)
  rw [Decidable.not_not] at h4
  have hs : conB r l i r l' i' = decide (i' / 2 ^ (l' - l).toNat = i) := by simp [conB, h1, h2, h4]
  rw [hs]
  go_enter Try.func30, Try.ntmps30
  go_wp2_with (first
    | (go_at_call 21; (with_reducible refine (specOk_is r l i _).mono ?_); rintro e w' ⟨rfl, n, rfl⟩)
    | (go_at_call 21; (with_reducible refine (specOk_is r l' i' _).mono ?_); rintro e w' ⟨rfl, n, rfl⟩))
  go_ret
  refine ⟨rfl, ?_⟩
  repeat (first | exact grown_refl _ | refine g_alloc ?_ _ | refine g_drewN ?_ _)

theorem heap_next (w : World) (o o' : Obj) : ((w.alloc o).alloc o').heap[w.heap.size + 1]? = some o' := by
  have := heap_alloc_new (w.alloc o) o'
  simpa using this
theorem heap_first (w : World) (o o' : Obj) : ((w.alloc o).alloc o').heap[w.heap.size]? = some o := (heap_alloc_old _ _ (by simp)).trans (heap_alloc_new _ _)

/-- What the loop keeps: the two cells' blocks, the second's as it stands. -/
structure Loop (w wr : World) (r l i r' l' i' l2 i2 : Int) : Prop where
  a : wr.heap[w.heap.size]? = some (cellOf 25 r l i)
  b : wr.heap[w.heap.size + 1]? = some (cellOf 25 r' l2 i2)
  g : w.grownBy wr none
  lo : 0 ≤ l2 ∧ l2 ≤ 4 ∧ 0 ≤ i2 ∧ i2 ≤ 15
  up : l ≤ l' → l ≤ l2 ∧ i2 / 2 ^ (l2 - l).toNat = i' / 2 ^ (l' - l).toNat
  down : l' < l → l2 = l'

theorem set3 {w : World} {C : Nat} {s u v : Value} {t : TypeId} (hb : w.heap[C]? = some (.cells #[s, u, v] t (0, 0))) (x y z : Value) :
    (((w.setCell ⟨C, 0, none⟩ x).setCell ⟨C, 1, none⟩ y).setCell ⟨C, 2, none⟩ z).heap[C]? = some (.cells #[x, y, z] t (0, 0)) := by
  have h0 : (w.setCell ⟨C, 0, none⟩ x).heap[C]? = some (.cells #[x, u, v] t (0, 0)) := by rw [heap_setCell_same w C 0 _ t x hb]; rfl
  have h1 : ((w.setCell ⟨C, 0, none⟩ x).setCell ⟨C, 1, none⟩ y).heap[C]? = some (.cells #[x, y, v] t (0, 0)) := by rw [heap_setCell_same _ C 1 _ t y h0]; rfl
  rw [heap_setCell_same _ C 2 _ t z h1]; rfl

theorem Loop.next {w wr w1 : World} {r l i r' l' i' l2 i2 : Int} (h : Loop w wr r l i r' l' i' l2 i2) (hl0 : 0 ≤ l) (hlt : l < l2) (hg : wr.grownBy w1 none) :
    Loop w (((w1.setCell ⟨w.heap.size + 1, 0, none⟩ (.int .i64 r')).setCell ⟨w.heap.size + 1, 1, none⟩ (.int .i64 (l2 - 1))).setCell ⟨w.heap.size + 1, 2, none⟩ (.int .i64 (i2 / 2))) r l i r' l' i' (l2 - 1) (i2 / 2) := by
  have la := lt_of_block h.a
  have lb := lt_of_block h.b
  have hA : w1.heap[w.heap.size]? = some (cellOf 25 r l i) := (hg.block _ la (by simp)).trans h.a
  have hB : w1.heap[w.heap.size + 1]? = some (cellOf 25 r' l2 i2) := (hg.block _ lb (by simp)).trans h.b
  obtain ⟨k0, k1, k2, k3⟩ := h.lo
  refine ⟨?_, set3 hB _ _ _, g_set (g_set (g_set (grown_trans h.g hg) _ _ _ (by omega)) _ _ _ (by omega)) _ _ _ (by omega), ⟨by omega, by omega, by omega, by omega⟩, fun hl => ?_, fun hl => ?_⟩
  · rw [heap_setCell_other _ ⟨w.heap.size + 1, 2, none⟩ _ _ (by simp), heap_setCell_other _ ⟨w.heap.size + 1, 1, none⟩ _ _ (by simp), heap_setCell_other _ ⟨w.heap.size + 1, 0, none⟩ _ _ (by simp)]
    exact hA
  · obtain ⟨u0, u1⟩ := h.up hl
    refine ⟨by omega, ?_⟩
    rw [← u1]
    have e : (l2 - l).toNat = (l2 - 1 - l).toNat + 1 := by omega
    rw [e, Int.pow_succ, Int.mul_comm, Int.ediv_ediv_of_nonneg (by decide)]
  · have := h.down hl
    omega

/-- The answer, once the loop has ended. -/
theorem Loop.answer {w wr : World} {r l i r' l' i' l2 i2 : Int} (h : Loop w wr r l i r' l' i' l2 i2) (h1 : okId r l i = true) (h2 : okId r' l' i' = true) (hlt : ¬ l < l2) :
    ∃ b, b = conB r l i r' l' i' ∧ ((b = false ∧ (r == r') = false) ∨ (b = false ∧ (r == r') = true ∧ (l == l2) = false) ∨ (b = false ∧ (r == r') = true ∧ (l == l2) = true ∧ (i == i2) = false) ∨ (b = true ∧ (r == r') = true ∧ (l == l2) = true ∧ (i == i2) = true)) := by
  refine ⟨_, rfl, ?_⟩
  by_cases h3 : r = r'
  · by_cases h4 : l ≤ l'
    · obtain ⟨u0, u1⟩ := h.up h4
      have h5 : l2 = l := by omega
      subst h5
      simp at u1
      by_cases h6 : i = i2
      · subst h3 h6
        exact .inr (.inr (.inr ⟨by simp [conB, h1, h2, h4, ← u1], by simp, by simp, by simp⟩))
      · exact .inr (.inr (.inl ⟨by simp [conB, ← u1, Ne.symm h6], by simp [h3], by simp, by simp [h6]⟩))
    · have h5 := h.down (by omega)
      exact .inr (.inl ⟨by simp [conB, h4], by simp [h3], by simp; omega⟩)
  · exact .inl ⟨by simp [conB, h3], by simp [h3]⟩

set_option maxHeartbeats 4000000 in
theorem con_in (r l i r' l' i' : Int) (h1 : okId r l i = true) (h2 : okId r' l' i' = true) (w : World) :
    Calls Try.prog 22 #[.agg #[.int .i64 r, .int .i64 l, .int .i64 i], .agg #[.int .i64 r', .int .i64 l', .int .i64 i']] w fun e w' => e = .returned (.bool (conB r l i r' l' i')) ∧ w.grownBy w' none := by
  obtain ⟨q0, q1, q2, q3, q4, q5, -, -⟩ := bounds h1
  obtain ⟨p0, p1, p2, p3, p4, p5, -, -⟩ := bounds h2
  go_enter Try.func22, Try.ntmps22
  go_wp2_with fail
  refine (valid_g r l i _).mono ?_; rintro e w1 ⟨rfl, hg1⟩
  obtain ⟨b0, b1, b2, -⟩ := (laid_new2 w _ _ r' l' i').on hg1
  have HG1 := Lib.hid hg1; clear hg1
  go_wp2_with fail
  refine (valid_g r' l' i' _).mono ?_; rintro e w2 ⟨rfl, hg2⟩
  have HL : Hid (Loop w w2 r l i r' l' i' l' i') := Lib.hid
    ⟨((grown_trans HG1.out hg2).block _ (by simp; omega) (by simp)).trans (heap_first _ _ _), ((grown_trans HG1.out hg2).block _ (by simp) (by simp)).trans (heap_next _ _ _), grown_trans (g_alloc (g_alloc (grown_refl _) _) _) (grown_trans HG1.out hg2), ⟨p2, p3, p4, p5⟩, fun h => ⟨h, rfl⟩, fun _ => rfl⟩
  clear hg2 b0 b1 b2
  go_wp2
  go_loopw [] (fun wr => ∃ l2 i2, wr.cell? ⟨w.heap.size + 1, 1, none⟩ = some (.int .i64 l2) ∧ Hid (Loop w wr r l i r' l' i' l2 i2)) (fun wr => (intOf ((wr.cell? ⟨w.heap.size + 1, 1, none⟩).getD (.int .i64 0)) - l).toNat)
  case atStart => exact ⟨l', i', by simp [World.cell?, HL.out.b], HL⟩
  case round =>
    obtain ⟨l2, i2, hc, HR⟩ := hrel
    have hA := HR.out.a
    have hB := HR.out.b
    obtain ⟨k0, k1, k2, k3⟩ := HR.out.lo
    have a0 : wr.cell? ⟨w.heap.size, 0, none⟩ = some (.int .i64 r) := by simp [World.cell?, hA]
    have a1 : wr.cell? ⟨w.heap.size, 1, none⟩ = some (.int .i64 l) := by simp [World.cell?, hA]
    have a2 : wr.cell? ⟨w.heap.size, 2, none⟩ = some (.int .i64 i) := by simp [World.cell?, hA]
    have b0 : wr.cell? ⟨w.heap.size + 1, 0, none⟩ = some (.int .i64 r') := by simp [World.cell?, hB]
    have b2 : wr.cell? ⟨w.heap.size + 1, 2, none⟩ = some (.int .i64 i2) := by simp [World.cell?, hB]
    have HB := Lib.hid hB
    clear hA hB
    by_cases hlt : l < l2
    · go_wp2_with fail
      refine (up_is r' l2 i2 (by omega) (by omega) (by omega) (by omega) _).mono ?_; rintro e w3 ⟨rfl, hw3⟩
      have hg3 : wr.grownBy w3 none := hw3 ▸ g_alloc (g_alloc (grown_refl _) _) _
      have hf : ∀ o, w3.frozen? ⟨w.heap.size + 1, o, none⟩ = false := by
        intro o
        rw [World.frozen?_of_block (w := wr) (hg3.block _ (lt_of_block HB.out) (by simp))]
        simp [World.frozen?, HB.out]
      have HN := Lib.hid (HR.out.next q2 hlt hg3)
      have c0 := hg3.cell b0 (by simp)
      have c1 := hg3.cell hc (by simp)
      have c2 := hg3.cell b2 (by simp)
      clear hw3 hg3
      go_wp2
      have hN := HN.out.b
      go_roundw
      case rel => exact ⟨l2 - 1, i2 / 2, by simp [World.cell?, hN], HN⟩
      case measure =>
        rw [hc]
        simp [World.cell?, hN, intOf]
        omega
    · obtain ⟨b, hb, hcase⟩ := HR.out.answer h1 h2 hlt
      rcases hcase with ⟨rfl, e1⟩ | ⟨rfl, e1, e2⟩ | ⟨rfl, e1, e2, e3⟩ | ⟨rfl, e1, e2, e3⟩
      all_goals
        have HE := Lib.hid hb; clear hb
        go_wp2
        go_ret
        exact ⟨congrArg (fun x => Ending.returned (.bool x)) HE.out, HR.out.g⟩

theorem con_is (r l i r' l' i' : Int) (w : World) :
    Calls Try.prog 22 #[.agg #[.int .i64 r, .int .i64 l, .int .i64 i], .agg #[.int .i64 r', .int .i64 l', .int .i64 i']] w fun e w' => e = .returned (.bool (conB r l i r' l' i')) ∧ w.grownBy w' none := by
  by_cases h1 : okId r l i = true
  · by_cases h2 : okId r' l' i' = true
    · exact con_in r l i r' l' i' h1 h2 w
    · rw [Bool.not_eq_true] at h2
      have hs : conB r l i r' l' i' = false := by simp [conB, h2]
      rw [hs]
      go_enter Try.func22, Try.ntmps22
      go_wp2_with (first
        | (go_at_call 33; (with_reducible refine (valid_is r l i _).mono ?_); rintro e w' ⟨rfl, n, rfl⟩)
        | (go_at_call 33; (with_reducible refine (valid_is r' l' i' _).mono ?_); rintro e w' ⟨rfl, n, rfl⟩))
      go_ret
      refine ⟨rfl, ?_⟩
      repeat (first | exact grown_refl _ | refine g_alloc ?_ _ | refine g_drewN ?_ _)
  · rw [Bool.not_eq_true] at h1
    have hs : conB r l i r' l' i' = false := by simp [conB, h1]
    rw [hs]
    go_enter Try.func22, Try.ntmps22
    go_wp2_with (go_at_call 33; (with_reducible refine (valid_is r l i _).mono ?_); rintro e w' ⟨rfl, n, rfl⟩)
    go_ret
    refine ⟨rfl, ?_⟩
    repeat (first | exact grown_refl _ | refine g_alloc ?_ _ | refine g_drewN ?_ _)
end Go.Proofs.Ythecidagejagmaa.Cell
