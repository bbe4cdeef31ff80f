/- Meshes: SameMesh of the program and of the reference model, as contracts, at any two meshes; nothing that was there is written.
   Conditions: at most 2^20 leaves. -/
import Derived.Test.YtmkmlfaekiofcaaMBox
import Derived.Test.YtmkmlfaekiofcaaMLeafPure
namespace Go.Proofs.Ytmkmlfaekiofcaa.Mesh
open Go.ChangeShapes Go.WideShapes Go.ChangeAt Go.RowKit Go.Proofs.Ytmkmlfaekiofcaa.Cell

/-- Are the two meshes one. -/
def sameB (R : Int) (xs : List C3) (R' : Int) (ys : List C3) : Bool := decide (R = R' ∧ xs = ys)
theorem same_roots {R R' : Int} {xs ys : List C3} (h : R ≠ R') : sameB R xs R' ys = false := decide_eq_false (fun h' => h h'.1)
theorem same_len {R R' : Int} {xs ys : List C3} (h : xs.length ≠ ys.length) : sameB R xs R' ys = false := decide_eq_false (fun h' => h (by rw [h'.2]))
theorem list_len {xs ys : List C3} (h : xs.length ≠ ys.length) : decide (xs = ys) = false := decide_eq_false (fun h' => h (by rw [h']))
theorem list_at {xs ys : List C3} {k : Nat} {x y : C3} (hx : xs[k]? = some x) (hy : ys[k]? = some y) (h : x ≠ y) : decide (xs = ys) = false :=
  decide_eq_false (fun h' => h (by rw [h', hy] at hx; cases hx; rfl))
theorem same_at {R R' : Int} {xs ys : List C3} {k : Nat} {x y : C3} (hx : xs[k]? = some x) (hy : ys[k]? = some y) (h : x ≠ y) : sameB R xs R' ys = false :=
  decide_eq_false (fun h' => of_decide_eq_false (list_at hx hy h) h'.2)
theorem list_all {xs ys : List C3} {k : Nat} (h : ∀ j, j < k → xs[j]? = ys[j]?) (hx : xs.length ≤ k) (hy : ys.length ≤ k) : xs = ys :=
  List.ext_getElem? fun j => by
    by_cases hj : j < k
    · exact h j hj
    · rw [List.getElem?_eq_none (by omega), List.getElem?_eq_none (by omega)]
theorem same_more {xs ys : List C3} {k : Nat} {x y : C3} (h : ∀ j, j < k → xs[j]? = ys[j]?) (hx : xs[k]? = some x) (hy : ys[k]? = some y) (he : x = y) : ∀ j, j < k + 1 → xs[j]? = ys[j]? := fun j hj => by
  by_cases h' : j < k
  · exact h j h'
  · obtain rfl : j = k := by omega
    rw [hx, hy, he]

set_option maxHeartbeats 4000000 in
theorem equal_is (a b : Option Addr) (n m c1 c2 : Nat) (xs ys : List C3) (w : World) (hx : Reads w a n xs) (hy : Reads w b m ys) (hn : n ≤ 1048576) (hm : m ≤ 1048576) :
    Calls Try.prog 44 #[.slice a n c1, .slice b m c2] w fun e w' => e = .returned (.bool (decide (xs = ys))) ∧ w.grownBy w' none := by
  have hni : (n : Int) ≤ 1048576 := by omega
  have hmi : (m : Int) ≤ 1048576 := by omega
  have HX := Lib.hid hx; have HY := Lib.hid hy
  have hlx := hx.len; have hly := hy.len
  clear hx hy hn hm
  by_cases hlen : n = m
  · subst hlen
    go_enter Try.func44, Try.ntmps44
    go_wp2_with fail
    go_loopw [13] (fun i wr => ∃ k : Nat, (k : Int) ≤ n ∧ i = .int .i64 k ∧ Hid (∀ j, j < k → xs[j]? = ys[j]?) ∧ Hid (w.grownBy wr none)) (fun i _ => n - (intOf i).toNat)
    case atStart => exact ⟨0, by omega, rfl, Lib.hid (fun j hj => by omega), Lib.hid (grown_refl _)⟩
    case round =>
      obtain ⟨k, hk, rfl, HF, HW⟩ := hrel
      by_cases hlt : (k : Int) < n
      · obtain ⟨r, l, i, hx⟩ := get_of_lt HX.out.len (k := k) (by omega)
        obtain ⟨r', l', i', hy⟩ := get_of_lt HY.out.len (k := k) (by omega)
        obtain ⟨g1, rfl, -, d0, d1, d2⟩ := (HX.out.on HW.out).at_ k _ hx
        obtain ⟨g2, rfl, -, f0, f1, f2⟩ := (HY.out.on HW.out).at_ k _ hy
        have HA := Lib.hid hx; have HB := Lib.hid hy
        clear hx hy
        dsimp only at d0 d1 d2 f0 f1 f2
        rcases cases3 r l i r' l' i' with ⟨he, q0, q1, q2⟩ | ⟨hne, hq⟩
        · have HI := Lib.hid he; clear he
          go_wp2_with fail
          go_quiet (fail)
          go_wp2_with fail
          exact ⟨⟨k + 1, by omega, by go_num, Lib.hid (same_more HF.out HA.out HB.out HI.out), Lib.hid (g_drewN HW.out _)⟩, by simp [intOf]; omega⟩
        · have HI := Lib.hid (list_at HA.out HB.out hne); clear hne
          rcases hq with q0 | ⟨q0, q1⟩ | ⟨q0, q1, q2⟩
          all_goals
            go_wp2_with fail
            go_quiet (fail)
            go_wp2_with fail
            go_ret
            exact ⟨by rw [HI.out]; rfl, g_drewN HW.out _⟩
      · have HE := Lib.hid (show decide (xs = ys) = true from decide_eq_true (list_all HF.out (by omega) (by omega)))
        go_wp2_with fail
        go_ret
        exact ⟨by rw [HE.out]; rfl, HW.out⟩
  · rw [list_len (show xs.length ≠ ys.length by omega)]
    have hli : ¬ (n : Int) = m := by omega
    go_enter Try.func44, Try.ntmps44
    go_wp2_with fail
    go_ret
    exact ⟨rfl, grown_refl _⟩

set_option maxHeartbeats 2000000 in
theorem sameMesh_is (R R' : Int) (a b : Option Addr) (n m c1 c2 : Nat) (xs ys : List C3) (w : World) (hx : Reads w a n xs) (hy : Reads w b m ys) (hn : n ≤ 1048576) (hm : m ≤ 1048576) :
    Calls Try.prog 16 #[.agg #[.int .i64 R, .slice a n c1], .agg #[.int .i64 R', .slice b m c2]] w fun e w' => e = .returned (.bool (sameB R xs R' ys)) ∧ w.grownBy w' none := by
  have HX := Lib.hid hx; have HY := Lib.hid hy; have HN := Lib.hid hn; have HM := Lib.hid hm
  clear hx hy hn hm
  by_cases hR : R = R'
  · subst hR
    have hs : sameB R xs R ys = decide (xs = ys) := by simp [sameB]
    rw [hs]
    go_enter Try.func16, Try.ntmps16
    go_wp2_with (go_at_call 44; ((with_reducible refine (equal_is _ _ _ _ _ _ _ _ _ ((HX.out.past _).past _) ((HY.out.past _).past _) HN.out HM.out).mono ?_); rintro e w1 ⟨rfl, hg⟩; have HG := Lib.hid hg; clear hg))
    go_ret
    exact ⟨rfl, grown_trans (g_alloc (g_alloc (grown_refl _) _) _) HG.out⟩
  · rw [same_roots hR]
    go_enter Try.func16, Try.ntmps16
    go_wp2_with fail
    go_ret
    exact ⟨rfl, g_alloc (g_alloc (grown_refl _) _) _⟩

set_option maxHeartbeats 4000000 in
theorem specSame_is (R R' : Int) (a b : Option Addr) (n m c1 c2 : Nat) (xs ys : List C3) (w : World) (hx : Reads w a n xs) (hy : Reads w b m ys) (hn : n ≤ 1048576) (hm : m ≤ 1048576) :
    Calls Try.prog 22 #[.agg #[.int .i64 R, .slice a n c1], .agg #[.int .i64 R', .slice b m c2]] w fun e w' => e = .returned (.bool (sameB R xs R' ys)) ∧ w.grownBy w' none := by
  have hni : (n : Int) ≤ 1048576 := by omega
  have hmi : (m : Int) ≤ 1048576 := by omega
  have hlx := hx.len; have hly := hy.len
  clear hn hm
  by_cases hR : ¬ R = R'
  · rw [same_roots hR]
    go_enter Try.func22, Try.ntmps22
    go_wp2_with fail
    go_ret
    exact ⟨rfl, g_alloc (g_alloc (grown_refl _) _) _⟩
  rw [Decidable.not_not] at hR
  subst hR
  by_cases hlen : ¬ n = m
  · rw [same_len (show xs.length ≠ ys.length by omega)]
    have hli : ¬ (n : Int) = m := by omega
    go_enter Try.func22, Try.ntmps22
    go_wp2_with fail
    go_ret
    exact ⟨rfl, g_alloc (g_alloc (grown_refl _) _) _⟩
  rw [Decidable.not_not] at hlen
  subst hlen
  have hb1 := (boxM_new w 26 R (.slice a n c1)).on (World.grownBy_alloc _ (.cells #[.int .i64 R, .slice b n c2] 26) none)
  have hb2 := boxM_new (w.alloc (.cells #[.int .i64 R, .slice a n c1] 26)) 26 R (.slice b n c2)
  simp only [World.size_alloc] at hb2
  have hg : w.grownBy ((w.alloc (.cells #[.int .i64 R, .slice a n c1] 26)).alloc (.cells #[.int .i64 R, .slice b n c2] 26)) none := g_alloc (g_alloc (grown_refl _) _) _
  have HX := Lib.hid (hx.on hg); have HY := Lib.hid (hy.on hg); have HB1 := Lib.hid hb1; have HB2 := Lib.hid hb2; have HG := Lib.hid hg
  clear hx hy hb1 hb2 hg
  obtain ⟨W0, hW0⟩ : ∃ W0, W0 = (w.alloc (.cells #[.int .i64 R, .slice a n c1] 26)).alloc (.cells #[.int .i64 R, .slice b n c2] 26) := ⟨_, rfl⟩
  rw [← hW0] at HX HY HB1 HB2 HG
  go_enter Try.func22, Try.ntmps22
  go_wp2_with fail
  rw [← hW0]
  clear hW0
  go_loopw [5] (fun i wr => ∃ k : Nat, (k : Int) ≤ n ∧ i = .int .i64 k ∧ Hid (∀ j, j < k → xs[j]? = ys[j]?) ∧ Hid (W0.grownBy wr none)) (fun i _ => n - (intOf i).toNat)
  case atStart => exact ⟨0, by omega, rfl, Lib.hid (fun j hj => by omega), Lib.hid (grown_refl _)⟩
  case round =>
    obtain ⟨k, hk, rfl, HF, HW⟩ := hrel
    have e1 := (HB1.out.on HW.out).c1
    have e2 := (HB2.out.on HW.out).c1
    by_cases hlt : (k : Int) < n
    · obtain ⟨r, l, i, hx⟩ := get_of_lt HX.out.len (k := k) (by omega)
      obtain ⟨r', l', i', hy⟩ := get_of_lt HY.out.len (k := k) (by omega)
      obtain ⟨g1, rfl, -, d0, d1, d2⟩ := (HX.out.on HW.out).at_ k _ hx
      obtain ⟨g2, rfl, -, f0, f1, f2⟩ := (HY.out.on HW.out).at_ k _ hy
      have HA := Lib.hid hx; have HB := Lib.hid hy
      clear hx hy
      dsimp only at d0 d1 d2 f0 f1 f2
      rcases cases3 r l i r' l' i' with ⟨he, q0, q1, q2⟩ | ⟨hne, hq⟩
      · have HI := Lib.hid he; clear he
        go_wp2_with fail
        go_quiet (fail)
        go_wp2_with fail
        exact ⟨⟨k + 1, by omega, by go_num, Lib.hid (same_more HF.out HA.out HB.out HI.out), Lib.hid (g_drewN HW.out _)⟩, by simp [intOf]; omega⟩
      · have HI := Lib.hid (same_at (R := R) (R' := R) HA.out HB.out hne); clear hne
        rcases hq with q0 | ⟨q0, q1⟩ | ⟨q0, q1, q2⟩
        all_goals
          go_wp2_with fail
          go_quiet (fail)
          go_wp2_with fail
          go_ret
          exact ⟨by rw [HI.out]; rfl, grown_trans HG.out (g_drewN HW.out _)⟩
    · have HE := Lib.hid (show sameB R xs R ys = true from decide_eq_true ⟨rfl, list_all HF.out (by omega) (by omega)⟩)
      go_wp2_with fail
      go_ret
      exact ⟨by rw [HE.out]; rfl, grown_trans HG.out HW.out⟩
end Go.Proofs.Ytmkmlfaekiofcaa.Mesh
