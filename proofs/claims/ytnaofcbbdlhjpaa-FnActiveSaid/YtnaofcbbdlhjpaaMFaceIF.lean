/- Meshes: faceLevelOf, FaceLevel and CountFaces of the program, as contracts.
   Conditions: at most 2^20 leaves. -/
import Derived.Test.YtnaofcbbdlhjpaaMFaceI
set_option maxRecDepth 100000
namespace Go.Proofs.Ytnaofcbbdlhjpaa.Mesh
open Go.ChangeShapes Go.WideShapes Go.ChangeAt Go.RowKit Go.Proofs.Ytnaofcbbdlhjpaa.Cell
theorem faceLevel_is (i : Nat) (a : Option Addr) (n cap : Nat) (xs : List C3) (x y : C3) (w : World) (hr : Reads w a n xs) (hn : n ≤ 1048576) (hx : xs[i]? = some x) (hy : xs[i + 1]? = some y) :
    Calls Try.prog 61 #[.slice a n cap, .int .i64 i] w fun e w' => e = .returned (.int .i64 (faceAt xs i)) ∧ w.grownBy w' none := by
  rw [faceAt_of hx hy]
  obtain ⟨r, l, j⟩ := x
  obtain ⟨r', l', j'⟩ := y
  have hi : (i : Int) + 1 < n := by have := (List.getElem?_eq_some_iff.1 hy).1; have := hr.len; omega
  have hni : (n : Int) ≤ 1048576 := by omega
  obtain ⟨g, rfl, hg, d0, d1, d2⟩ := hr.at_ i _ hx
  obtain ⟨g_, hg_, -, f0, f1, f2⟩ := hr.at_ (i + 1) _ hy
  cases hg_
  dsimp only at d0 d1 d2 f0 f1 f2 ⊢
  clear hr hx hy d0 d2 f0 f2
  by_cases h1 : l < l'
  · rw [show max l l' = l' by omega]
    go_enter Try.func61, Try.ntmps61
    go_wp2_with fail
    go_quiet (fail)
    go_wp2_with fail
    go_ret
    exact ⟨rfl, g_drewN (grown_refl _) _⟩
  · rw [show max l l' = l by omega]
    go_enter Try.func61, Try.ntmps61
    go_wp2_with fail
    go_quiet (fail)
    go_wp2_with fail
    go_ret
    exact ⟨rfl, g_drewN (grown_refl _) _⟩

set_option maxHeartbeats 2000000 in
theorem faceLvl_is (R i : Int) (a : Option Addr) (n cap : Nat) (xs : List C3) (w : World) (hr : Reads w a n xs) (hn : n ≤ 1048576) :
    Calls Try.prog 56 #[.agg #[.int .i64 R, .slice a n cap], .int .i64 i] w fun e w' => e = .returned (.int .i64 (faceOf R xs i)) ∧ w.grownBy w' none := by
  have hni : (n : Int) ≤ 1048576 := by omega
  have HN := Lib.hid hn; clear hn
  have HR := Lib.hid hr; clear hr
  have hok : ∀ u, Reads u a n xs → Calls Try.prog 60 #[.agg #[.int .i64 R, .slice a n cap]] u fun e w' => e = .returned (.bool (meshOk R xs)) ∧ u.grownBy w' none := fun u h => meshOk_is R a n cap xs u h HN.out
  have HOK := Lib.hid hok; clear hok
  cases hm : meshOk R xs with
  | false =>
    rw [hm] at HOK
    rw [show faceOf R xs i = -1 by simp [faceOf, hm]]
    clear hm
    go_enter Try.func56, Try.ntmps56
    go_wp2_with (go_at_call 60; (with_reducible refine (HOK.out _ (HR.out.past _)).mono ?_); rintro e w1 ⟨rfl, hg⟩; have hb := (boxM_new w 26 R (.slice a n cap)).on hg; have b1 := hb.c1; have HG1 := Lib.hid (grown_trans (g_alloc (grown_refl _) _) hg); clear hg hb)
    go_ret
    exact ⟨rfl, HG1.out⟩
  | true =>
    rw [hm] at HOK
    obtain ⟨ho, hl1, hl2⟩ := mesh_parts hm
    have hl := HR.out.len
    by_cases hi0 : i < 0
    · rw [show faceOf R xs i = -1 from if_neg (by omega)]
      clear hm ho
      go_enter Try.func56, Try.ntmps56
      go_wp2_with (go_at_call 60; (with_reducible refine (HOK.out _ (HR.out.past _)).mono ?_); rintro e w1 ⟨rfl, hg⟩; have hb := (boxM_new w 26 R (.slice a n cap)).on hg; have b1 := hb.c1; have HG1 := Lib.hid (grown_trans (g_alloc (grown_refl _) _) hg); clear hg hb)
      go_ret
      exact ⟨rfl, HG1.out⟩
    · by_cases hi1 : i < n - 1
      · obtain ⟨k, rfl⟩ : ∃ k : Nat, i = k := ⟨i.toNat, by omega⟩
        obtain ⟨r, l, j, hx⟩ := get_of_lt HR.out.len (k := k) (by omega)
        obtain ⟨r', l', j', hy⟩ := get_of_lt HR.out.len (k := k + 1) (by omega)
        have HC := Lib.hid (fun u h => faceLevel_is k a n cap xs _ _ u h HN.out hx hy)
        rw [show faceOf R xs k = faceAt xs k from if_pos ⟨hm, by omega, by omega⟩]
        clear hm ho hx hy
        go_enter Try.func56, Try.ntmps56
        go_wp2_with (first
          | (go_at_call 60; (with_reducible refine (HOK.out _ (HR.out.past _)).mono ?_); rintro e w1 ⟨rfl, hg⟩; have hb := (boxM_new w 26 R (.slice a n cap)).on hg; have b1 := hb.c1; have HR1 := Lib.hid ((HR.out.past _).on hg); have HG1 := Lib.hid (grown_trans (g_alloc (grown_refl _) _) hg); clear hg hb)
          | (go_at_call 61; (with_reducible refine (HC.out _ HR1.out).mono ?_); rintro e w2 ⟨rfl, hg⟩; have HG2 := Lib.hid (grown_trans HG1.out hg); clear hg))
        go_ret
        exact ⟨rfl, HG2.out⟩
      · rw [show faceOf R xs i = -1 from if_neg (by omega)]
        clear hm ho
        go_enter Try.func56, Try.ntmps56
        go_wp2_with (go_at_call 60; (with_reducible refine (HOK.out _ (HR.out.past _)).mono ?_); rintro e w1 ⟨rfl, hg⟩; have hb := (boxM_new w 26 R (.slice a n cap)).on hg; have b1 := hb.c1; have HG1 := Lib.hid (grown_trans (g_alloc (grown_refl _) _) hg); clear hg hb)
        go_ret
        exact ⟨rfl, HG1.out⟩

end Go.Proofs.Ytnaofcbbdlhjpaa.Mesh
