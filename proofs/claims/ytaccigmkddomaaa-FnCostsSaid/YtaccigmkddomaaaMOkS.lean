/- Meshes: l04End and MeshOk of the reference model, as contracts: what each answers; nothing that was there is written.
   Conditions: at most 2^20 leaves. -/
import Derived.Test.YtaccigmkddomaaaPkArg
import Derived.Test.YtaccigmkddomaaaPkMesh
set_option maxRecDepth 100000
namespace Go.Proofs.Ytaccigmkddomaaa.Mesh
open Go.ChangeShapes Go.WideShapes Go.ChangeAt Go.RowKit Go.Proofs.Ytaccigmkddomaaa.Cell

theorem specWidth_g (l : Int) (w : World) :
    Calls Try.prog 90 #[.int .i64 l] w fun e w' => e = .returned (.int .i64 (widthOf l)) ∧ w.grownBy w' none :=
  (specWidth_is l w).mono fun _ _ ⟨he, hw⟩ => ⟨he, hw ▸ grown_refl _⟩

set_option maxHeartbeats 2000000 in
theorem end_is (r l i : Int) (w : World) :
    Calls Try.prog 81 #[.agg #[.int .i64 r, .int .i64 l, .int .i64 i]] w fun e w' => e = .returned (.int .i64 (startOf r l i + widthOf l)) ∧ w.grownBy w' none := by
  obtain ⟨y0, y1⟩ := wd_bounds l
  obtain ⟨z0, z1⟩ := st_bounds r l i
  have e1 : IntKind.i64.wrap (startOf r l i + widthOf l) = startOf r l i + widthOf l := IntWalk.i64_in _ (by omega)
  obtain ⟨c0, c1, c2, -⟩ := Cell.laid_new w 35 r l i
  have hg : w.grownBy (w.alloc (.cells #[.int .i64 r, .int .i64 l, .int .i64 i] 35)) none := g_alloc (grown_refl _) _
  have HG := Lib.hid hg; clear hg
  go_enter Try.func81, Try.ntmps81
  go_wp2_with fail
  have hg := HG.out
  clear HG
  generalize w.alloc (.cells #[.int .i64 r, .int .i64 l, .int .i64 i] 35) = w1 at *
  go_region_held3 (fun w' => w'.cell? ⟨w.heap.size, 0, none⟩ = some (.int .i64 r) ∧ w'.cell? ⟨w.heap.size, 1, none⟩ = some (.int .i64 l) ∧ w'.cell? ⟨w.heap.size, 2, none⟩ = some (.int .i64 i) ∧ w.grownBy w' none)
    ((go_split_ands; refine ⟨?_, ?_, ?_, ?_⟩ <;> first | assumption | exact hgc.cell (by assumption) (by simp) | exact Cell.grown_trans (by assumption) hgc | exact g_drew (by assumption)))
    (first
      | (go_at_call 80; ((with_reducible refine (specStart_is r l i _).mono ?_); rintro e w'' ⟨rfl, hgc⟩))
      | (go_at_call 90; ((with_reducible refine (specWidth_g l _).mono ?_); rintro e w'' ⟨rfl, hgc⟩)))
  go_split_ands
  go_wp2
  go_ret
  exact ⟨rfl, by assumption⟩

set_option maxHeartbeats 2000000 in
theorem specMeshOk_is (R : Int) (a : Option Addr) (n cap : Nat) (xs : List C3) (w : World) (hr : Reads w a n xs) (hn : n ≤ 1048576) :
    Calls Try.prog 57 #[.agg #[.int .i64 R, .slice a n cap]] w fun e w' => e = .returned (.bool (meshOk R xs)) ∧ w.grownBy w' none := by
  have hni : (n : Int) ≤ 1048576 := by omega
  have HN := Lib.hid hn; clear hn
  have HR := Lib.hid hr; clear hr
  go_enter Try.func57, Try.ntmps57
  go_wp2
  go_loopw [3, 4] (fun e i wr => ∃ (k : Nat) (e0 : Int), (k : Int) ≤ n ∧ i = .int .i64 k ∧ e = .int .i64 e0 ∧ Hid (run (xs.take k) = some e0) ∧ Hid (w.grownBy wr none) ∧ Hid (Reads wr a n xs) ∧ Hid (BoxM wr w.heap.size R (.slice a n cap))) (fun _ i _ => n - (intOf i).toNat)
  case atStart => exact ⟨0, 0, by omega, rfl, rfl, Lib.hid rfl, Lib.hid (g_alloc (grown_refl _) _), Lib.hid (HR.out.past _), Lib.hid (boxM_new _ _ _ _)⟩
  case round =>
    obtain ⟨k, e0, hk, rfl, rfl, HE, HG, HR, HB⟩ := hrel
    obtain ⟨z0, z1⟩ := run_nonneg HE.out
    have hb0 := HB.out.c0
    have hb1 := HB.out.c1
    by_cases hlt : (k : Int) < n
    · obtain ⟨r, l, i, hx⟩ := get_of_lt HR.out.len (k := k) (by omega)
      obtain ⟨g, rfl, hg, d0, d1, d2⟩ := HR.out.at_ k _ hx
      have HX := Lib.hid hx; clear hx
      obtain ⟨y0, y1⟩ := wd_bounds l
      dsimp only at d0 d1 d2
      by_cases ho : okId r l i = true
      · by_cases hs : startOf r l i = e0
        · go_wp2_with (first
            | (go_at_call 79; (with_reducible refine (specOk_g _ _ _ _).mono ?_); rintro e w1 ⟨rfl, hg1⟩; have hb1' := (HB.out.on hg1).c1; obtain ⟨g_, hg_, -, d10, d11, d12⟩ := (HR.out.on hg1).at_ k _ HX.out; cases hg_; dsimp only at d10 d11 d12; have HG1 := Lib.hid hg1; clear hg1)
            | (go_at_call 80; (with_reducible refine (specStart_is _ _ _ _).mono ?_); rintro e w2 ⟨rfl, hg2⟩; have HG2 := Lib.hid (grown_trans HG1.out hg2); have hb2' := (HB.out.on HG2.out).c1; obtain ⟨g_, hg_, -, d20, d21, d22⟩ := (HR.out.on HG2.out).at_ k _ HX.out; cases hg_; dsimp only at d20 d21 d22; clear hg2)
            | (go_at_call 81; (with_reducible refine (end_is _ _ _ _).mono ?_); rintro e w3 ⟨rfl, hg3⟩; have HG3 := Lib.hid (grown_trans HG2.out hg3); clear hg3))
          go_roundw
          case rel => exact ⟨k + 1, e0 + widthOf l, by omega, by go_num, rfl, Lib.hid ((run_next HX.out HE.out).trans (step_yes hs)), Lib.hid (grown_trans HG.out HG3.out), Lib.hid (HR.out.on HG3.out), Lib.hid (HB.out.on HG3.out)⟩
          case measure => simp [intOf]; omega
        · go_wp2_with (first
            | (go_at_call 79; (with_reducible refine (specOk_g _ _ _ _).mono ?_); rintro e w1 ⟨rfl, hg1⟩; have hb1' := (HB.out.on hg1).c1; obtain ⟨g_, hg_, -, d10, d11, d12⟩ := (HR.out.on hg1).at_ k _ HX.out; cases hg_; dsimp only at d10 d11 d12; have HG1 := Lib.hid hg1; clear hg1)
            | (go_at_call 80; (with_reducible refine (specStart_is _ _ _ _).mono ?_); rintro e w2 ⟨rfl, hg2⟩; have HG2 := Lib.hid (grown_trans HG1.out hg2); clear hg2))
          go_ret
          have hz : run xs = none := run_take_none ((run_next HX.out HE.out).trans (step_no hs))
          exact ⟨by simp [meshOk, hz], grown_trans HG.out HG2.out⟩
      · have hs : startOf r l i ≠ e0 := by have e : startOf r l i = -1 := if_neg ho; omega
        rw [Bool.not_eq_true] at ho
        go_wp2_with (first
          | (go_at_call 79; (with_reducible refine (specOk_g _ _ _ _).mono ?_); rintro e w1 ⟨rfl, hg1⟩; have HG1 := Lib.hid hg1; clear hg1))
        go_ret
        have hz : run xs = none := run_take_none ((run_next HX.out HE.out).trans (step_no hs))
        exact ⟨by simp [meshOk, hz], grown_trans HG.out HG1.out⟩
    · have hke : k = n := by omega
      subst hke
      have hz : run xs = some e0 := by rw [← HE.out, ← HR.out.len, List.take_length]
      have HZ := Lib.hid hz; clear hz
      by_cases h1 : 1 ≤ R ∧ R ≤ 8
      · have q := decide_eq_true h1
        obtain ⟨h1, h2⟩ := h1
        go_wp2_with (go_at_call 44; (with_reducible refine (in_is R 1 8 true q _).mono ?_); rintro e w' ⟨rfl, rfl⟩)
        go_ret
        exact ⟨by simp [meshOk, HZ.out, beq_dec, h1, h2], HG.out⟩
      · have q := decide_eq_false h1
        go_wp2_with (go_at_call 44; (with_reducible refine (in_is R 1 8 false q _).mono ?_); rintro e w' ⟨rfl, rfl⟩)
        go_ret
        rw [show meshOk R xs = false from decide_eq_false (fun h => h1 ⟨h.1, h.2.1⟩)]
        exact ⟨rfl, HG.out⟩
end Go.Proofs.Ytaccigmkddomaaa.Mesh
