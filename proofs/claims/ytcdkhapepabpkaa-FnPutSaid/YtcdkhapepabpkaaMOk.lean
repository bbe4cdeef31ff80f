/- Meshes: MeshOk of the program, as a contract: what it answers; nothing that was there is written.
   Conditions: at most 2^20 leaves. -/
import Derived.Test.YtcdkhapepabpkaaMesh
set_option maxRecDepth 100000
namespace Go.Proofs.Ytcdkhapepabpkaa.Mesh
open Go.ChangeShapes Go.WideShapes Go.ChangeAt Go.RowKit Go.Proofs.Ytcdkhapepabpkaa.Cell

theorem beq_dec (a b : Int) : (a == b) = decide (a = b) := by by_cases h : a = b <;> simp [h]
theorem run_take_none {xs : List C3} {k : Nat} (h : run (xs.take k) = none) : run xs = none := by
  rw [← List.take_append_drop k xs]; exact run_none h
theorem run_next {xs : List C3} {k : Nat} {x : C3} {e : Int} (hx : xs[k]? = some x) (h : run (xs.take k) = some e) : run (xs.take (k + 1)) = step (some e) x := by
  rw [take_snoc hx, run_snoc, h]
theorem run_nonneg {xs : List C3} {e : Int} (h : run xs = some e) : 0 ≤ e ∧ e ≤ 128 := by
  obtain ⟨h1, h2, -⟩ := run_bounds e h; omega

theorem meshOk_is (R : Int) (a : Option Addr) (n cap : Nat) (xs : List C3) (w : World) (hr : Reads w a n xs) (hn : n ≤ 1048576) :
    Calls Try.prog 65 #[.agg #[.int .i64 R, .slice a n cap]] w fun e w' => e = .returned (.bool (meshOk R xs)) ∧ w.grownBy w' none := by
  have hni : (n : Int) ≤ 1048576 := by omega
  have HN := Lib.hid hn; clear hn
  have HR := Lib.hid hr; clear hr
  by_cases h1 : 1 ≤ R ∧ R ≤ 8
  · obtain ⟨h1, h2⟩ := h1
    have HM := Lib.hid (show meshOk R xs = decide (run xs = some (R * 16)) by simp [meshOk, h1, h2])
    rw [HM.out]
    go_enter Try.func65, Try.ntmps65
    go_wp2
    go_loopw [3, 17] (fun e i wr => ∃ (k : Nat) (e0 : Int), (k : Int) ≤ n ∧ i = .int .i64 k ∧ e = .int .i64 e0 ∧ Hid (run (xs.take k) = some e0) ∧ Hid (w.grownBy wr none) ∧ Hid (Reads wr a n xs) ∧ Hid (BoxM wr w.heap.size R (.slice a n cap))) (fun _ i _ => n - (intOf i).toNat)
    case atStart => exact ⟨0, 0, by omega, rfl, rfl, Lib.hid rfl, Lib.hid (g_alloc (grown_refl _) _), Lib.hid (HR.out.past _), Lib.hid (boxM_new _ _ _ _)⟩
    case round =>
      obtain ⟨k, e0, hk, rfl, rfl, HE, HG, HR, HB⟩ := hrel
      obtain ⟨z0, z1⟩ := run_nonneg HE.out
      by_cases hlt : (k : Int) < n
      · obtain ⟨r, l, i, hx⟩ := get_of_lt HR.out.len (k := k) (by omega)
        obtain ⟨g, rfl, hg, d0, d1, d2⟩ := HR.out.at_ k _ hx
        have HX := Lib.hid hx; clear hx
        obtain ⟨y0, y1⟩ := wd_bounds l
        dsimp only at d0 d1 d2
        by_cases hs : startOf r l i = e0
        · go_wp2_with (first
            | (go_at_call 78; (with_reducible refine (start_is _ _ _ _).mono ?_); rintro e w' ⟨rfl, hgc⟩; have hc1 := ((Cell.laid_new wr 36 r l i).on hgc).c1; have HGC := Lib.hid hgc; clear hgc)
            | (go_at_call 79; (with_reducible refine (width_is _ _).mono ?_); rintro e w' ⟨rfl, rfl⟩))
          go_roundw
          case rel => exact ⟨k + 1, e0 + widthOf l, by omega, by go_num, rfl, Lib.hid ((run_next HX.out HE.out).trans (step_yes hs)), Lib.hid (grown_trans (g_alloc HG.out _) HGC.out), Lib.hid ((HR.out.past _).on HGC.out), Lib.hid ((HB.out.on (World.grownBy_alloc _ _ _)).on HGC.out)⟩
          case measure => simp [intOf]; omega
        · go_wp2_with (first
            | (go_at_call 78; (with_reducible refine (start_is _ _ _ _).mono ?_); rintro e w' ⟨rfl, hgc⟩; have HGC := Lib.hid hgc; clear hgc))
          go_ret
          have hz : run xs = none := run_take_none ((run_next HX.out HE.out).trans (step_no hs))
          exact ⟨by simp [hz], grown_trans (g_alloc HG.out _) HGC.out⟩
      · have hke : k = n := by omega
        subst hke
        have hb0 := HB.out.c0
        go_wp2
        go_ret
        have hz : run xs = some e0 := by rw [← HE.out, ← HR.out.len, List.take_length]
        exact ⟨by simp [hz, beq_dec], HG.out⟩
  · have HM := Lib.hid (show meshOk R xs = false from decide_eq_false (by omega))
    rw [HM.out]
    go_enter Try.func65, Try.ntmps65
    go_wp2
    all_goals
      go_ret
      exact ⟨rfl, g_alloc (grown_refl _) _⟩
end Go.Proofs.Ytcdkhapepabpkaa.Mesh
