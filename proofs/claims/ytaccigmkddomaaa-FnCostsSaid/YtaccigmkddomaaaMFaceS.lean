/- Meshes: the faces of the reference model: l05Face, FaceLevel, l05First, FirstUnbalanced, IsBalanced, CountFaces, l05Coarser, as contracts: what each answers; nothing that was there is written.
   Conditions: at most 2^20 leaves. -/
import Derived.Test.YtaccigmkddomaaaMFaceI
import Derived.Test.YtaccigmkddomaaaMOkS
set_option maxRecDepth 100000
namespace Go.Proofs.Ytaccigmkddomaaa.Mesh
open Go.ChangeShapes Go.WideShapes Go.ChangeAt Go.RowKit Go.Proofs.Ytaccigmkddomaaa.Cell

theorem specCoarser_is (R : Int) (i : Nat) (a : Option Addr) (n cap : Nat) (xs : List C3) (x y : C3) (w : World) (hr : Reads w a n xs) (hn : n ≤ 1048576) (hx : xs[i]? = some x) (hy : xs[i + 1]? = some y) :
    Calls Try.prog 91 #[.agg #[.int .i64 R, .slice a n cap], .int .i64 i] w fun e w' => e = .returned (.int .i64 (coarser xs i)) ∧ w.grownBy w' none := by
  have hc : coarser xs i = if y.2.1 < x.2.1 then i + 1 else i := by unfold coarser; rw [hx, hy]
  rw [hc]
  have hb := boxM_new w 26 R (.slice a n cap)
  have hr1 := hr.past (.cells #[.int .i64 R, .slice a n cap] 26)
  have hg0 : w.grownBy (w.alloc (.cells #[.int .i64 R, .slice a n cap] 26)) none := g_alloc (grown_refl _) _
  obtain ⟨r, l, j⟩ := x
  obtain ⟨r', l', j'⟩ := y
  have hi : (i : Int) + 1 < n := by have := (List.getElem?_eq_some_iff.1 hy).1; have := hr.len; omega
  have hni : (n : Int) ≤ 1048576 := by omega
  obtain ⟨g, rfl, hg, d0, d1, d2⟩ := hr1.at_ i _ hx
  obtain ⟨g_, hg_, -, f0, f1, f2⟩ := hr1.at_ (i + 1) _ hy
  cases hg_
  have hb1 := hb.c1
  have HG := Lib.hid hg0
  dsimp only at d0 d1 d2 f0 f1 f2 ⊢
  clear hr hr1 hx hy hc d0 d2 f0 f2 hb hg0
  by_cases h1 : l' < l
  · rw [if_pos h1]
    go_enter Try.func91, Try.ntmps91
    go_wp2_with fail
    go_quiet (fail)
    go_wp2_with fail
    go_ret
    exact ⟨rfl, g_drewN HG.out _⟩
  · rw [if_neg h1]
    go_enter Try.func91, Try.ntmps91
    go_wp2_with fail
    go_quiet (fail)
    go_wp2_with fail
    go_ret
    exact ⟨rfl, g_drewN HG.out _⟩

set_option maxHeartbeats 2000000 in
theorem specFirst_is (R : Int) (a : Option Addr) (n cap : Nat) (xs : List C3) (w : World) (hr : Reads w a n xs) (hn : n ≤ 1048576) (hm : meshOk R xs = true) :
    Calls Try.prog 89 #[.agg #[.int .i64 R, .slice a n cap]] w fun e w' => e = .returned (.int .i64 (firstGap xs)) ∧ w.grownBy w' none := by
  have hni : (n : Int) ≤ 1048576 := by omega
  have HN := Lib.hid hn; clear hn
  have HR := Lib.hid hr; clear hr
  have HB0 := Lib.hid (boxM_new w 26 R (.slice a n cap))
  obtain ⟨ho, hl1, hl2⟩ := mesh_parts hm
  have HO := Lib.hid ho; clear ho hm
  have hl := HR.out.len
  go_enter Try.func89, Try.ntmps89
  go_wp2_with fail
  go_loopw [3] (fun i wr => ∃ (k : Nat), (k : Int) + 1 ≤ n ∧ i = .int .i64 k ∧ Hid (∀ j, j < k → gapAt xs j = false) ∧ Hid (w.grownBy wr none) ∧ Hid (Reads wr a n xs) ∧ Hid (BoxM wr w.heap.size R (.slice a n cap))) (fun i _ => n - (intOf i).toNat)
  case atStart => exact ⟨0, by omega, rfl, Lib.hid (fun j hj => by omega), Lib.hid (g_alloc (grown_refl _) _), Lib.hid (HR.out.past _), HB0⟩
  case round =>
    clear HB0
    obtain ⟨k, hk, rfl, HF, HG, HR, HB⟩ := hrel
    have hb1 := HB.out.c1
    by_cases hlt : (k : Int) + 1 < n
    · obtain ⟨r, l, i, hx⟩ := get_of_lt HR.out.len (k := k) (by omega)
      obtain ⟨r', l', i', hy⟩ := get_of_lt HR.out.len (k := k + 1) (by omega)
      obtain ⟨g, rfl, hg, d0, d1, d2⟩ := HR.out.at_ k _ hx
      obtain ⟨g_, hg_, -, f0, f1, f2⟩ := HR.out.at_ (k + 1) _ hy
      cases hg_
      dsimp only at d0 d1 d2 f0 f1 f2
      obtain ⟨-, -, a0, a1, -⟩ := ok_bounds (HO.out _ _ hx)
      obtain ⟨-, -, b0, b1, -⟩ := ok_bounds (HO.out _ _ hy)
      have HP := Lib.hid (gapAt_of hx hy)
      dsimp only at a0 a1 b0 b1
      clear hx hy d0 d2 f0 f2
      by_cases h1 : 1 < l - l'
      · have HQ := Lib.hid (show gap (r, l, i) (r', l', i') = true from decide_eq_true (.inl h1))
        go_wp2_with fail
        go_quiet (fail)
        go_wp2_with fail
        go_ret
        rw [first_hit (HP.out.trans HQ.out) HF.out]
        exact ⟨rfl, g_drewN HG.out _⟩
      · by_cases h2 : l - l' < -1
        · have HQ := Lib.hid (show gap (r, l, i) (r', l', i') = true from decide_eq_true (.inr h2))
          go_wp2_with fail
          go_quiet (fail)
          go_wp2_with fail
          go_ret
          rw [first_hit (HP.out.trans HQ.out) HF.out]
          exact ⟨rfl, g_drewN HG.out _⟩
        · have HQ := Lib.hid (show gap (r, l, i) (r', l', i') = false from decide_eq_false (by simp only; omega))
          go_wp2_with fail
          go_quiet (fail)
          go_wp2_with fail
          go_roundw
          case rel => exact ⟨k + 1, by omega, by go_num, Lib.hid (fun j hj => by
            by_cases h : j < k
            · exact HF.out j h
            · obtain rfl : j = k := by omega
              exact HP.out.trans HQ.out), Lib.hid (g_drewN HG.out _), Lib.hid (HR.out.on (g_drewN (grown_refl _) _)), Lib.hid (HB.out.on (g_drewN (grown_refl _) _))⟩
          case measure => simp [intOf]; omega
    · go_wp2_with fail
      go_ret
      rw [first_none (xs := xs) (fun j => by
        by_cases h : j < k
        · exact HF.out j h
        · exact gapAt_out (by have := HR.out.len; omega))]
      exact ⟨rfl, HG.out⟩

theorem specIsBalanced_is (R : Int) (a : Option Addr) (n cap : Nat) (xs : List C3) (w : World) (hr : Reads w a n xs) (hn : n ≤ 1048576) :
    Calls Try.prog 74 #[.agg #[.int .i64 R, .slice a n cap]] w fun e w' => e = .returned (.bool (balanced R xs)) ∧ w.grownBy w' none := by
  have HN := Lib.hid hn; clear hn
  have HR := Lib.hid hr; clear hr
  have hok : ∀ u, Reads u a n xs → Calls Try.prog 57 #[.agg #[.int .i64 R, .slice a n cap]] u fun e w' => e = .returned (.bool (meshOk R xs)) ∧ u.grownBy w' none := fun u h => specMeshOk_is R a n cap xs u h HN.out
  have HOK := Lib.hid hok; clear hok
  cases hm : meshOk R xs with
  | false =>
    rw [hm] at HOK
    rw [show balanced R xs = false by simp [balanced, hm]]
    clear hm
    go_enter Try.func74, Try.ntmps74
    go_wp2_with (go_at_call 57; (with_reducible refine (HOK.out _ (HR.out.past _)).mono ?_); rintro e w1 ⟨rfl, hg⟩; have HG1 := Lib.hid (grown_trans (g_alloc (grown_refl _) _) hg); clear hg)
    go_ret
    exact ⟨rfl, HG1.out⟩
  | true =>
    rw [hm] at HOK
    have HF := Lib.hid (fun u h => specFirst_is R a n cap xs u h HN.out hm)
    rw [show balanced R xs = decide (firstGap xs < 0) by simp [balanced, hm]]
    clear hm
    go_enter Try.func74, Try.ntmps74
    go_wp2_with (first
      | (go_at_call 57; (with_reducible refine (HOK.out _ (HR.out.past _)).mono ?_); rintro e w1 ⟨rfl, hg⟩; have hb := (boxM_new w 26 R (.slice a n cap)).on hg; have b0 := hb.c0; have b1 := hb.c1; have HR1 := Lib.hid ((HR.out.past _).on hg); have HG1 := Lib.hid (grown_trans (g_alloc (grown_refl _) _) hg); clear hg hb)
      | (go_at_call 89; (with_reducible refine (HF.out _ HR1.out).mono ?_); rintro e w2 ⟨rfl, hg⟩; have HG2 := Lib.hid (grown_trans HG1.out hg); clear hg))
    go_ret
    exact ⟨rfl, HG2.out⟩
end Go.Proofs.Ytaccigmkddomaaa.Mesh
