/- Meshes: the faces of the reference model: l05Face, FaceLevel, l05First, FirstUnbalanced, IsBalanced, CountFaces, l05Coarser, as contracts: what each answers; nothing that was there is written.
   Conditions: at most 2^20 leaves. -/
import Derived.Test.YtiggkgaoldhegaaMFaceI
import Derived.Test.YtiggkgaoldhegaaMOkS
namespace Go.Proofs.Ytiggkgaoldhegaa.Mesh
open Go.ChangeShapes Go.WideShapes Go.ChangeAt Go.RowKit Go.Proofs.Ytiggkgaoldhegaa.Cell

theorem specFace_is (R : Int) (i : Nat) (a : Option Addr) (n cap : Nat) (xs : List C3) (x y : C3) (w : World) (hr : Reads w a n xs) (hn : n ≤ 1048576) (hx : xs[i]? = some x) (hy : xs[i + 1]? = some y) :
    Calls Try.prog 42 #[.agg #[.int .i64 R, .slice a n cap], .int .i64 i] w fun e w' => e = .returned (.int .i64 (faceAt xs i)) ∧ w.grownBy w' none := by
  rw [faceAt_of hx hy]
  have hb := boxM_new w 26 R (.slice a n cap)
  have hr1 := hr.past (.cells #[.int .i64 R, .slice a n cap] 26)
  have hg0 : w.grownBy (w.alloc (.cells #[.int .i64 R, .slice a n cap] 26)) none := g_alloc (grown_refl _) _
  obtain ⟨r, l, j⟩ := x
  obtain ⟨r', l', j'⟩ := y
  have hi : (i : Int) + 1 < n := by have := (List.getElem?_eq_some_iff.1 hy).1; have := hr.len; omega
  have hni : (n : Int) ≤ 1048576 := by omega
  obtain ⟨g, rfl, hg, d0, d1, d2⟩ := hr1.at_ i _ hx
  obtain ⟨g_, hg_, -, f0, f1, f2⟩ := hr1.at_ (i + 1) _ hy
  cases hg_
  have hb1 := hb.c1
  have HG := Lib.hid hg0
  dsimp only at d0 d1 d2 f0 f1 f2 ⊢
  clear hr hr1 hx hy d0 d2 f0 f2 hb hg0
  by_cases h1 : l < l'
  · rw [show max l l' = l' by omega]
    go_enter Try.func42, Try.ntmps42
    go_wp2_with fail
    go_quiet (fail)
    go_wp2_with fail
    go_ret
    exact ⟨rfl, g_drewN HG.out _⟩
  · rw [show max l l' = l by omega]
    go_enter Try.func42, Try.ntmps42
    go_wp2_with fail
    go_quiet (fail)
    go_wp2_with fail
    go_ret
    exact ⟨rfl, g_drewN HG.out _⟩

theorem specCoarser_is (R : Int) (i : Nat) (a : Option Addr) (n cap : Nat) (xs : List C3) (x y : C3) (w : World) (hr : Reads w a n xs) (hn : n ≤ 1048576) (hx : xs[i]? = some x) (hy : xs[i + 1]? = some y) :
    Calls Try.prog 48 #[.agg #[.int .i64 R, .slice a n cap], .int .i64 i] w fun e w' => e = .returned (.int .i64 (coarser xs i)) ∧ w.grownBy w' none := by
  have hc : coarser xs i = if y.2.1 < x.2.1 then i + 1 else i := by unfold coarser; rw [hx, hy]
  rw [hc]
  have hb := boxM_new w 26 R (.slice a n cap)
  have hr1 := hr.past (.cells #[.int .i64 R, .slice a n cap] 26)
  have hg0 : w.grownBy (w.alloc (.cells #[.int .i64 R, .slice a n cap] 26)) none := g_alloc (grown_refl _) _
  obtain ⟨r, l, j⟩ := x
  obtain ⟨r', l', j'⟩ := y
  have hi : (i : Int) + 1 < n := by have := (List.getElem?_eq_some_iff.1 hy).1; have := hr.len; omega
  have hni : (n : Int) ≤ 1048576 := by omega
  obtain ⟨g, rfl, hg, d0, d1, d2⟩ := hr1.at_ i _ hx
  obtain ⟨g_, hg_, -, f0, f1, f2⟩ := hr1.at_ (i + 1) _ hy
  cases hg_
  have hb1 := hb.c1
  have HG := Lib.hid hg0
  dsimp only at d0 d1 d2 f0 f1 f2 ⊢
  clear hr hr1 hx hy hc d0 d2 f0 f2 hb hg0
  by_cases h1 : l' < l
  · rw [if_pos h1]
    go_enter Try.func48, Try.ntmps48
    go_wp2_with fail
    go_quiet (fail)
    go_wp2_with fail
    go_ret
    exact ⟨rfl, g_drewN HG.out _⟩
  · rw [if_neg h1]
    go_enter Try.func48, Try.ntmps48
    go_wp2_with fail
    go_quiet (fail)
    go_wp2_with fail
    go_ret
    exact ⟨rfl, g_drewN HG.out _⟩

set_option maxHeartbeats 2000000 in
theorem specFirst_is (R : Int) (a : Option Addr) (n cap : Nat) (xs : List C3) (w : World) (hr : Reads w a n xs) (hn : n ≤ 1048576) (hm : meshOk R xs = true) :
    Calls Try.prog 45 #[.agg #[.int .i64 R, .slice a n cap]] w fun e w' => e = .returned (.int .i64 (firstGap xs)) ∧ w.grownBy w' none := by
  have hni : (n : Int) ≤ 1048576 := by omega
  have HN := Lib.hid hn; clear hn
  have HR := Lib.hid hr; clear hr
  have HB0 := Lib.hid (boxM_new w 26 R (.slice a n cap))
  obtain ⟨ho, hl1, hl2⟩ := mesh_parts hm
  have HO := Lib.hid ho; clear ho hm
  have hl := HR.out.len
  go_enter Try.func45, Try.ntmps45
  go_wp2_with fail
  go_loopw [3] (fun i wr => ∃ (k : Nat), (k : Int) + 1 ≤ n ∧ i = .int .i64 k ∧ Hid (∀ j, j < k → gapAt xs j = false) ∧ Hid (w.grownBy wr none) ∧ Hid (Reads wr a n xs) ∧ Hid (BoxM wr w.heap.size R (.slice a n cap))) (fun i _ => n - (intOf i).toNat)
  case atStart => exact ⟨0, by omega, rfl, Lib.hid (fun j hj => by omega), Lib.hid (g_alloc (grown_refl _) _), Lib.hid (HR.out.past _), HB0⟩
  case round =>
    clear HB0
    obtain ⟨k, hk, rfl, HF, HG, HR, HB⟩ := hrel
    have hb1 := HB.out.c1
    by_cases hlt : (k : Int) + 1 < n
    · obtain ⟨r, l, i, hx⟩ := get_of_lt HR.out.len (k := k) (by omega)
      obtain ⟨r', l', i', hy⟩ := get_of_lt HR.out.len (k := k + 1) (by omega)
      obtain ⟨g, rfl, hg, d0, d1, d2⟩ := HR.out.at_ k _ hx
      obtain ⟨g_, hg_, -, f0, f1, f2⟩ := HR.out.at_ (k + 1) _ hy
      cases hg_
      dsimp only at d0 d1 d2 f0 f1 f2
      obtain ⟨-, -, a0, a1, -⟩ := ok_bounds (HO.out _ _ hx)
      obtain ⟨-, -, b0, b1, -⟩ := ok_bounds (HO.out _ _ hy)
      have HP := Lib.hid (gapAt_of hx hy)
      dsimp only at a0 a1 b0 b1
      clear hx hy d0 d2 f0 f2
      by_cases h1 : 1 < l - l'
      · have HQ := Lib.hid (show gap (r, l, i) (r', l', i') = true from decide_eq_true (.inl h1))
        go_wp2_with fail
        go_quiet (fail)
        go_wp2_with fail
        go_ret
        rw [first_hit (HP.out.trans HQ.out) HF.out]
        exact ⟨rfl, g_drewN HG.out _⟩
      · by_cases h2 : l - l' < -1
        · have HQ := Lib.hid (show gap (r, l, i) (r', l', i') = true from decide_eq_true (.inr h2))
          go_wp2_with fail
          go_quiet (fail)
          go_wp2_with fail
          go_ret
          rw [first_hit (HP.out.trans HQ.out) HF.out]
          exact ⟨rfl, g_drewN HG.out _⟩
        · have HQ := Lib.hid (show gap (r, l, i) (r', l', i') = false from decide_eq_false (by simp only; omega))
          go_wp2_with fail
          go_quiet (fail)
          go_wp2_with fail
          go_roundw
          case rel => exact ⟨k + 1, by omega, by go_num, Lib.hid (fun j hj => by
            by_cases h : j < k
            · exact HF.out j h
            · obtain rfl : j = k := by omega
              exact HP.out.trans HQ.out), Lib.hid (g_drewN HG.out _), Lib.hid (HR.out.on (g_drewN (grown_refl _) _)), Lib.hid (HB.out.on (g_drewN (grown_refl _) _))⟩
          case measure => simp [intOf]; omega
    · go_wp2_with fail
      go_ret
      rw [first_none (xs := xs) (fun j => by
        by_cases h : j < k
        · exact HF.out j h
        · exact gapAt_out (by have := HR.out.len; omega))]
      exact ⟨rfl, HG.out⟩

theorem specFirstUnb_is (R : Int) (a : Option Addr) (n cap : Nat) (xs : List C3) (w : World) (hr : Reads w a n xs) (hn : n ≤ 1048576) :
    Calls Try.prog 25 #[.agg #[.int .i64 R, .slice a n cap]] w fun e w' => e = .returned (.int .i64 (firstOf R xs)) ∧ w.grownBy w' none := by
  have HN := Lib.hid hn; clear hn
  have HR := Lib.hid hr; clear hr
  have hok : ∀ u, Reads u a n xs → Calls Try.prog 37 #[.agg #[.int .i64 R, .slice a n cap]] u fun e w' => e = .returned (.bool (meshOk R xs)) ∧ u.grownBy w' none := fun u h => specMeshOk_is R a n cap xs u h HN.out
  have HOK := Lib.hid hok; clear hok
  cases hm : meshOk R xs with
  | false =>
    rw [hm] at HOK
    rw [show firstOf R xs = -1 by simp [firstOf, hm]]
    clear hm
    go_enter Try.func25, Try.ntmps25
    go_wp2_with (go_at_call 37; (with_reducible refine (HOK.out _ (HR.out.past _)).mono ?_); rintro e w1 ⟨rfl, hg⟩; have HG1 := Lib.hid (grown_trans (g_alloc (grown_refl _) _) hg); clear hg)
    go_ret
    exact ⟨rfl, HG1.out⟩
  | true =>
    rw [hm] at HOK
    have HF := Lib.hid (fun u h => specFirst_is R a n cap xs u h HN.out hm)
    rw [show firstOf R xs = firstGap xs by simp [firstOf, hm]]
    clear hm
    go_enter Try.func25, Try.ntmps25
    go_wp2_with (first
      | (go_at_call 37; (with_reducible refine (HOK.out _ (HR.out.past _)).mono ?_); rintro e w1 ⟨rfl, hg⟩; have hb := (boxM_new w 26 R (.slice a n cap)).on hg; have b0 := hb.c0; have b1 := hb.c1; have HR1 := Lib.hid ((HR.out.past _).on hg); have HG1 := Lib.hid (grown_trans (g_alloc (grown_refl _) _) hg); clear hg hb)
      | (go_at_call 45; (with_reducible refine (HF.out _ HR1.out).mono ?_); rintro e w2 ⟨rfl, hg⟩; have HG2 := Lib.hid (grown_trans HG1.out hg); clear hg))
    go_ret
    exact ⟨rfl, HG2.out⟩

theorem specIsBalanced_is (R : Int) (a : Option Addr) (n cap : Nat) (xs : List C3) (w : World) (hr : Reads w a n xs) (hn : n ≤ 1048576) :
    Calls Try.prog 24 #[.agg #[.int .i64 R, .slice a n cap]] w fun e w' => e = .returned (.bool (balanced R xs)) ∧ w.grownBy w' none := by
  have HN := Lib.hid hn; clear hn
  have HR := Lib.hid hr; clear hr
  have hok : ∀ u, Reads u a n xs → Calls Try.prog 37 #[.agg #[.int .i64 R, .slice a n cap]] u fun e w' => e = .returned (.bool (meshOk R xs)) ∧ u.grownBy w' none := fun u h => specMeshOk_is R a n cap xs u h HN.out
  have HOK := Lib.hid hok; clear hok
  cases hm : meshOk R xs with
  | false =>
    rw [hm] at HOK
    rw [show balanced R xs = false by simp [balanced, hm]]
    clear hm
    go_enter Try.func24, Try.ntmps24
    go_wp2_with (go_at_call 37; (with_reducible refine (HOK.out _ (HR.out.past _)).mono ?_); rintro e w1 ⟨rfl, hg⟩; have HG1 := Lib.hid (grown_trans (g_alloc (grown_refl _) _) hg); clear hg)
    go_ret
    exact ⟨rfl, HG1.out⟩
  | true =>
    rw [hm] at HOK
    have HF := Lib.hid (fun u h => specFirst_is R a n cap xs u h HN.out hm)
    rw [show balanced R xs = decide (firstGap xs < 0) by simp [balanced, hm]]
    clear hm
    go_enter Try.func24, Try.ntmps24
    go_wp2_with (first
      | (go_at_call 37; (with_reducible refine (HOK.out _ (HR.out.past _)).mono ?_); rintro e w1 ⟨rfl, hg⟩; have hb := (boxM_new w 26 R (.slice a n cap)).on hg; have b0 := hb.c0; have b1 := hb.c1; have HR1 := Lib.hid ((HR.out.past _).on hg); have HG1 := Lib.hid (grown_trans (g_alloc (grown_refl _) _) hg); clear hg hb)
      | (go_at_call 45; (with_reducible refine (HF.out _ HR1.out).mono ?_); rintro e w2 ⟨rfl, hg⟩; have HG2 := Lib.hid (grown_trans HG1.out hg); clear hg))
    go_ret
    exact ⟨rfl, HG2.out⟩

set_option maxHeartbeats 2000000 in
theorem specFaceLvl_is (R i : Int) (a : Option Addr) (n cap : Nat) (xs : List C3) (w : World) (hr : Reads w a n xs) (hn : n ≤ 1048576) :
    Calls Try.prog 21 #[.agg #[.int .i64 R, .slice a n cap], .int .i64 i] w fun e w' => e = .returned (.int .i64 (faceOf R xs i)) ∧ w.grownBy w' none := by
  have hni : (n : Int) ≤ 1048576 := by omega
  have HN := Lib.hid hn; clear hn
  have HR := Lib.hid hr; clear hr
  have hok : ∀ u, Reads u a n xs → Calls Try.prog 37 #[.agg #[.int .i64 R, .slice a n cap]] u fun e w' => e = .returned (.bool (meshOk R xs)) ∧ u.grownBy w' none := fun u h => specMeshOk_is R a n cap xs u h HN.out
  have HOK := Lib.hid hok; clear hok
  cases hm : meshOk R xs with
  | false =>
    rw [hm] at HOK
    rw [show faceOf R xs i = -1 by simp [faceOf, hm]]
    clear hm
    go_enter Try.func21, Try.ntmps21
    go_wp2_with (go_at_call 37; (with_reducible refine (HOK.out _ (HR.out.past _)).mono ?_); rintro e w1 ⟨rfl, hg⟩; have HG1 := Lib.hid (grown_trans (g_alloc (grown_refl _) _) hg); clear hg)
    go_ret
    exact ⟨rfl, HG1.out⟩
  | true =>
    rw [hm] at HOK
    obtain ⟨ho, hl1, hl2⟩ := mesh_parts hm
    have hl := HR.out.len
    by_cases hin : 0 ≤ i ∧ i ≤ (n : Int) - 2
    · have q := decide_eq_true hin
      obtain ⟨k, rfl⟩ : ∃ k : Nat, i = k := ⟨i.toNat, by omega⟩
      obtain ⟨r, l, j, hx⟩ := get_of_lt HR.out.len (k := k) (by omega)
      obtain ⟨r', l', j', hy⟩ := get_of_lt HR.out.len (k := k + 1) (by omega)
      have HC := Lib.hid (fun u h => specFace_is R k a n cap xs _ _ u h HN.out hx hy)
      rw [show faceOf R xs k = faceAt xs k from if_pos ⟨hm, by omega, by omega⟩]
      clear hm ho hx hy
      go_enter Try.func21, Try.ntmps21
      go_wp2_with (first
        | (go_at_call 37; (with_reducible refine (HOK.out _ (HR.out.past _)).mono ?_); rintro e w1 ⟨rfl, hg⟩; have hb := (boxM_new w 26 R (.slice a n cap)).on hg; have b0 := hb.c0; have b1 := hb.c1; have HR1 := Lib.hid ((HR.out.past _).on hg); have HG1 := Lib.hid (grown_trans (g_alloc (grown_refl _) _) hg); clear hg hb)
        | (go_at_call 41; (with_reducible refine (in_is _ _ _ true q _).mono ?_); rintro e w' ⟨rfl, rfl⟩)
        | (go_at_call 42; (with_reducible refine (HC.out _ HR1.out).mono ?_); rintro e w2 ⟨rfl, hg⟩; have HG2 := Lib.hid (grown_trans HG1.out hg); clear hg))
      go_ret
      exact ⟨rfl, HG2.out⟩
    · have q := decide_eq_false hin
      rw [show faceOf R xs i = -1 from if_neg (by omega)]
      clear hm ho
      go_enter Try.func21, Try.ntmps21
      go_wp2_with (first
        | (go_at_call 37; (with_reducible refine (HOK.out _ (HR.out.past _)).mono ?_); rintro e w1 ⟨rfl, hg⟩; have hb := (boxM_new w 26 R (.slice a n cap)).on hg; have b0 := hb.c0; have b1 := hb.c1; have HG1 := Lib.hid (grown_trans (g_alloc (grown_refl _) _) hg); clear hg hb)
        | (go_at_call 41; (with_reducible refine (in_is _ _ _ false q _).mono ?_); rintro e w' ⟨rfl, rfl⟩))
      go_ret
      exact ⟨rfl, HG1.out⟩

set_option maxHeartbeats 2000000 in
theorem specCount_is (R lv : Int) (a : Option Addr) (n cap : Nat) (xs : List C3) (w : World) (hr : Reads w a n xs) (hn : n ≤ 1048576) :
    Calls Try.prog 29 #[.agg #[.int .i64 R, .slice a n cap], .int .i64 lv] w fun e w' => e = .returned (.int .i64 (countOf R xs lv)) ∧ w.grownBy w' none := by
  have hni : (n : Int) ≤ 1048576 := by omega
  have HN := Lib.hid hn; clear hn
  have HR := Lib.hid hr; clear hr
  have HB0 := Lib.hid (boxM_new w 26 R (.slice a n cap))
  have hok : ∀ u, Reads u a n xs → Calls Try.prog 37 #[.agg #[.int .i64 R, .slice a n cap]] u fun e w' => e = .returned (.bool (meshOk R xs)) ∧ u.grownBy w' none := fun u h => specMeshOk_is R a n cap xs u h HN.out
  have HOK := Lib.hid hok; clear hok
  cases hm : meshOk R xs with
  | false =>
    rw [hm] at HOK
    rw [show countOf R xs lv = 0 by simp [countOf, hm]]
    clear hm
    go_enter Try.func29, Try.ntmps29
    go_wp2_with fail
    go_loopw [5, 6] (fun c i wr => c = .int .i64 0 ∧ i = .int .i64 0 ∧ Hid (w.grownBy wr none) ∧ Hid (Reads wr a n xs) ∧ Hid (BoxM wr w.heap.size R (.slice a n cap))) (fun _ i _ => n - (intOf i).toNat)
    case atStart => exact ⟨rfl, rfl, Lib.hid (g_alloc (grown_refl _) _), Lib.hid (HR.out.past _), HB0⟩
    case round =>
      clear HB0
      obtain ⟨rfl, rfl, HG, HR, HB⟩ := hrel
      have hb0 := HB.out.c0
      have hb1 := HB.out.c1
      by_cases hlt : 1 < (n : Int)
      · go_wp2_with (go_at_call 37; (with_reducible refine (HOK.out _ HR.out).mono ?_); rintro e w' ⟨rfl, hg⟩; have HG1 := Lib.hid hg; clear hg)
        go_ret
        exact ⟨rfl, grown_trans HG.out HG1.out⟩
      · go_wp2_with fail
        go_ret
        exact ⟨rfl, HG.out⟩
  | true =>
    rw [hm] at HOK
    rw [show countOf R xs lv = countTo xs lv (xs.length - 1) by simp [countOf, hm]]
    obtain ⟨ho, hl1, hl2⟩ := mesh_parts hm
    clear ho hm
    have hl := HR.out.len
    go_enter Try.func29, Try.ntmps29
    go_wp2_with fail
    go_loopw [5, 6] (fun c i wr => ∃ (k : Nat), (k : Int) + 1 ≤ n ∧ i = .int .i64 k ∧ c = .int .i64 (countTo xs lv k) ∧ Hid (w.grownBy wr none) ∧ Hid (Reads wr a n xs) ∧ Hid (BoxM wr w.heap.size R (.slice a n cap))) (fun _ i _ => n - (intOf i).toNat)
    case atStart => exact ⟨0, by omega, rfl, rfl, Lib.hid (g_alloc (grown_refl _) _), Lib.hid (HR.out.past _), HB0⟩
    case round =>
      clear HB0
      obtain ⟨k, hk, rfl, rfl, HG, HR, HB⟩ := hrel
      have hb0 := HB.out.c0
      have hb1 := HB.out.c1
      obtain ⟨cb0, cb1⟩ := countTo_le xs lv k
      by_cases hlt : (k : Int) + 1 < n
      · obtain ⟨r, l, i, hx⟩ := get_of_lt HR.out.len (k := k) (by omega)
        obtain ⟨r', l', i', hy⟩ := get_of_lt HR.out.len (k := k + 1) (by omega)
        have HC := Lib.hid (fun u h => specFace_is R k a n cap xs _ _ u h HN.out hx hy)
        have HS := Lib.hid (countTo_succ xs lv k)
        clear hx hy
        generalize faceAt xs k = z at *
        generalize countTo xs lv k = c at *
        by_cases hz : z = lv
        · subst hz
          go_wp2_with (first
            | (go_at_call 37; (with_reducible refine (HOK.out _ HR.out).mono ?_); rintro e w1 ⟨rfl, hg⟩; have hb := HB.out.on hg; have b0 := hb.c0; have b1 := hb.c1; have HR1 := Lib.hid (HR.out.on hg); have HG1 := Lib.hid hg; clear hg hb)
            | (go_at_call 42; (with_reducible refine (HC.out _ HR1.out).mono ?_); rintro e w2 ⟨rfl, hg⟩; have HG2 := Lib.hid (grown_trans HG1.out hg); clear hg))
          go_roundw
          case rel => exact ⟨k + 1, by omega, by go_num, by rw [HS.out]; simp, Lib.hid (grown_trans HG.out HG2.out), Lib.hid (HR.out.on HG2.out), Lib.hid (HB.out.on HG2.out)⟩
          case measure => simp [intOf]; omega
        · go_wp2_with (first
            | (go_at_call 37; (with_reducible refine (HOK.out _ HR.out).mono ?_); rintro e w1 ⟨rfl, hg⟩; have hb := HB.out.on hg; have b0 := hb.c0; have b1 := hb.c1; have HR1 := Lib.hid (HR.out.on hg); have HG1 := Lib.hid hg; clear hg hb)
            | (go_at_call 42; (with_reducible refine (HC.out _ HR1.out).mono ?_); rintro e w2 ⟨rfl, hg⟩; have HG2 := Lib.hid (grown_trans HG1.out hg); clear hg))
          go_roundw
          case rel => exact ⟨k + 1, by omega, by go_num, by rw [HS.out]; simp [hz], Lib.hid (grown_trans HG.out HG2.out), Lib.hid (HR.out.on HG2.out), Lib.hid (HB.out.on HG2.out)⟩
          case measure => simp [intOf]; omega
      · go_wp2_with fail
        go_ret
        rw [show n - 1 = k by omega]
        exact ⟨rfl, HG.out⟩
end Go.Proofs.Ytiggkgaoldhegaa.Mesh
