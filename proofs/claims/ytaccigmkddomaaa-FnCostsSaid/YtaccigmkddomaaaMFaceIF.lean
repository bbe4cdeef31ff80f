/- Meshes: faceLevelOf, FaceLevel and CountFaces of the program, as contracts.
   Conditions: at most 2^20 leaves. -/
import Derived.Test.YtaccigmkddomaaaMFaceI
set_option maxRecDepth 100000
namespace Go.Proofs.Ytaccigmkddomaaa.Mesh
open Go.ChangeShapes Go.WideShapes Go.ChangeAt Go.RowKit Go.Proofs.Ytaccigmkddomaaa.Cell
theorem faceLevel_is (i : Nat) (a : Option Addr) (n cap : Nat) (xs : List C3) (x y : C3) (w : World) (hr : Reads w a n xs) (hn : n ≤ 1048576) (hx : xs[i]? = some x) (hy : xs[i + 1]? = some y) :
    Calls Try.prog 69 #[.slice a n cap, .int .i64 i] w fun e w' => e = .returned (.int .i64 (faceAt xs i)) ∧ w.grownBy w' none := by
  rw [faceAt_of hx hy]
  obtain ⟨r, l, j⟩ := x
  obtain ⟨r', l', j'⟩ := y
  have hi : (i : Int) + 1 < n := by have := (List.getElem?_eq_some_iff.1 hy).1; have := hr.len; omega
  have hni : (n : Int) ≤ 1048576 := by omega
  obtain ⟨g, rfl, hg, d0, d1, d2⟩ := hr.at_ i _ hx
  obtain ⟨g_, hg_, -, f0, f1, f2⟩ := hr.at_ (i + 1) _ hy
  cases hg_
  dsimp only at d0 d1 d2 f0 f1 f2 ⊢
  clear hr hx hy d0 d2 f0 f2
  by_cases h1 : l < l'
  · rw [show max l l' = l' by omega]
    go_enter Try.func69, Try.ntmps69
    go_wp2_with fail
    go_quiet (fail)
    go_wp2_with fail
    go_ret
    exact ⟨rfl, g_drewN (grown_refl _) _⟩
  · rw [show max l l' = l by omega]
    go_enter Try.func69, Try.ntmps69
    go_wp2_with fail
    go_quiet (fail)
    go_wp2_with fail
    go_ret
    exact ⟨rfl, g_drewN (grown_refl _) _⟩

set_option maxHeartbeats 2000000 in
theorem countFaces_is (R lv : Int) (a : Option Addr) (n cap : Nat) (xs : List C3) (w : World) (hr : Reads w a n xs) (hn : n ≤ 1048576) :
    Calls Try.prog 45 #[.agg #[.int .i64 R, .slice a n cap], .int .i64 lv] w fun e w' => e = .returned (.int .i64 (countOf R xs lv)) ∧ w.grownBy w' none := by
  have hni : (n : Int) ≤ 1048576 := by omega
  have HN := Lib.hid hn; clear hn
  have HR := Lib.hid hr; clear hr
  have hok : ∀ u, Reads u a n xs → Calls Try.prog 49 #[.agg #[.int .i64 R, .slice a n cap]] u fun e w' => e = .returned (.bool (meshOk R xs)) ∧ u.grownBy w' none := fun u h => meshOk_is R a n cap xs u h HN.out
  have HOK := Lib.hid hok; clear hok
  cases hm : meshOk R xs with
  | false =>
    rw [hm] at HOK
    rw [show countOf R xs lv = 0 by simp [countOf, hm]]
    clear hm
    go_enter Try.func45, Try.ntmps45
    go_wp2_with (go_at_call 49; (with_reducible refine (HOK.out _ (HR.out.past _)).mono ?_); rintro e w1 ⟨rfl, hg⟩; have HG1 := Lib.hid (grown_trans (g_alloc (grown_refl _) _) hg); clear hg)
    go_ret
    exact ⟨rfl, HG1.out⟩
  | true =>
    rw [hm] at HOK
    rw [show countOf R xs lv = countTo xs lv (xs.length - 1) by simp [countOf, hm]]
    obtain ⟨ho, hl1, hl2⟩ := mesh_parts hm
    clear ho hm
    have hl := HR.out.len
    go_enter Try.func45, Try.ntmps45
    go_wp2_with (go_at_call 49; (with_reducible refine (HOK.out _ (HR.out.past _)).mono ?_); rintro e w1 ⟨rfl, hg⟩; have hb := (boxM_new w 26 R (.slice a n cap)).on hg; have b1 := hb.c1; have HB := Lib.hid hb; have HR1 := Lib.hid ((HR.out.past _).on hg); have HG1 := Lib.hid (grown_trans (g_alloc (grown_refl _) _) hg); clear hg hb)
    go_loopw [5, 14] (fun c i wr => ∃ (k : Nat), (k : Int) + 1 ≤ n ∧ i = .int .i64 k ∧ c = .int .i64 (countTo xs lv k) ∧ Hid (w.grownBy wr none) ∧ Hid (Reads wr a n xs) ∧ Hid (BoxM wr w.heap.size R (.slice a n cap))) (fun _ i _ => n - (intOf i).toNat)
    case atStart => exact ⟨0, by omega, rfl, rfl, HG1, HR1, HB⟩
    case round =>
      clear HG1 HR1 HB b1
      obtain ⟨k, hk, rfl, rfl, HG, HR, HB⟩ := hrel
      have hb1 := HB.out.c1
      obtain ⟨cb0, cb1⟩ := countTo_le xs lv k
      by_cases hlt : (k : Int) < n - 1
      · obtain ⟨r, l, i, hx⟩ := get_of_lt HR.out.len (k := k) (by omega)
        obtain ⟨r', l', i', hy⟩ := get_of_lt HR.out.len (k := k + 1) (by omega)
        have HC := Lib.hid (faceLevel_is k a n cap xs _ _ wr HR.out HN.out hx hy)
        have HS := Lib.hid (countTo_succ xs lv k)
        clear hx hy
        generalize faceAt xs k = z at *
        generalize countTo xs lv k = c at *
        by_cases hz : z = lv
        · subst hz
          go_wp2_with (go_at_call 69; (with_reducible refine HC.out.mono ?_); rintro e w2 ⟨rfl, hg⟩; have HG2 := Lib.hid hg; clear hg)
          go_roundw
          case rel => exact ⟨k + 1, by omega, by go_num, by rw [HS.out]; simp, Lib.hid (grown_trans HG.out HG2.out), Lib.hid (HR.out.on HG2.out), Lib.hid (HB.out.on HG2.out)⟩
          case measure => simp [intOf]; omega
        · go_wp2_with (go_at_call 69; (with_reducible refine HC.out.mono ?_); rintro e w2 ⟨rfl, hg⟩; have HG2 := Lib.hid hg; clear hg)
          go_roundw
          case rel => exact ⟨k + 1, by omega, by go_num, by rw [HS.out]; simp [hz], Lib.hid (grown_trans HG.out HG2.out), Lib.hid (HR.out.on HG2.out), Lib.hid (HB.out.on HG2.out)⟩
          case measure => simp [intOf]; omega
      · go_wp2_with fail
        go_ret
        rw [show n - 1 = k by omega]
        exact ⟨rfl, HG.out⟩
end Go.Proofs.Ytaccigmkddomaaa.Mesh
