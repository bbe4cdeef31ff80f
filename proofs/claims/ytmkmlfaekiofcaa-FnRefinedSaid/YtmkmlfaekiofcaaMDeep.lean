/- Meshes: DeepestLevel of the reference model, as a contract: what it answers; nothing that was there is written.
   Conditions: at most 2^20 leaves. -/
import Derived.Test.YtmkmlfaekiofcaaMOkS
import Derived.Test.YtmkmlfaekiofcaaMLeafPure
namespace Go.Proofs.Ytmkmlfaekiofcaa.Mesh
open Go.ChangeShapes Go.WideShapes Go.ChangeAt Go.RowKit Go.Proofs.Ytmkmlfaekiofcaa.Cell

/-- The greatest level so far, from -1 on. -/
def deepS (xs : List C3) : Int := xs.foldl (fun m x => max m x.2.1) (-1)
theorem deepS_eq {R : Int} {xs : List C3} (h : meshOk R xs = true) : deepS xs = deepOf xs := by
  obtain ⟨h1, h2, h3⟩ : 1 ≤ R ∧ R ≤ 8 ∧ run xs = some (R * 16) := of_decide_eq_true h
  obtain ⟨-, -, b⟩ := run_bounds _ h3
  cases xs with
  | nil => simp [run] at h3; omega
  | cons x xs =>
    obtain ⟨-, -, b2, -⟩ := ok_bounds (b x (by simp))
    unfold deepS deepOf
    rw [List.foldl_cons, List.foldl_cons]
    congr 1
    omega
theorem deepS_ge (xs : List C3) : ∀ m : Int, m ≤ xs.foldl (fun m x => max m x.2.1) m := by
  induction xs with
  | nil => intro m; exact Int.le_refl _
  | cons x xs ih => intro m; exact Int.le_trans (by omega) (ih (max m x.2.1))

set_option maxHeartbeats 2000000 in
theorem specDeepest_is (R : Int) (a : Option Addr) (n cap : Nat) (xs : List C3) (w : World) (hr : Reads w a n xs) (hn : n ≤ 1048576) :
    Calls Try.prog 37 #[.agg #[.int .i64 R, .slice a n cap]] w fun e w' => e = .returned (.int .i64 (deepest R xs)) ∧ w.grownBy w' none := by
  have hni : (n : Int) ≤ 1048576 := by omega
  have HN := Lib.hid hn; clear hn
  have HR := Lib.hid hr; clear hr
  have HB := Lib.hid (boxM_new w 26 R (.slice a n cap))
  have hok : ∀ u, Reads u a n xs → Calls Try.prog 20 #[.agg #[.int .i64 R, .slice a n cap]] u fun e w' => e = .returned (.bool (meshOk R xs)) ∧ u.grownBy w' none := fun u h => specMeshOk_is R a n cap xs u h HN.out
  have HOK := Lib.hid hok; clear hok
  cases hm : meshOk R xs with
  | false =>
    rw [hm] at HOK
    rw [show deepest R xs = -1 by simp [deepest, hm]]
    clear hm
    by_cases hlt : 0 < (n : Int)
    · go_enter Try.func37, Try.ntmps37
      go_wp2_with fail
      go_loopw [3, 4] (fun d i wr => d = .int .i64 (-1) ∧ i = .int .i64 0 ∧ Hid (w.grownBy wr none) ∧ Hid (Reads wr a n xs) ∧ Hid (BoxM wr w.heap.size R (.slice a n cap))) (fun _ i _ => n - (intOf i).toNat)
      case atStart => exact ⟨rfl, rfl, Lib.hid (g_alloc (grown_refl _) _), Lib.hid (HR.out.past _), HB⟩
      case round =>
        obtain ⟨rfl, rfl, HG, HR, HB⟩ := hrel
        have hb0 := HB.out.c0
        have hb1 := HB.out.c1
        go_wp2_with (go_at_call 20; (with_reducible refine (HOK.out _ HR.out).mono ?_); rintro e w' ⟨rfl, hg⟩; have HG1 := Lib.hid hg; clear hg)
        go_ret
        exact ⟨rfl, grown_trans HG.out HG1.out⟩
    · go_enter Try.func37, Try.ntmps37
      go_wp2_with fail
      go_loopw [3, 4] (fun d i wr => d = .int .i64 (-1) ∧ i = .int .i64 0 ∧ Hid (w.grownBy wr none) ∧ Hid (BoxM wr w.heap.size R (.slice a n cap))) (fun _ i _ => n - (intOf i).toNat)
      case atStart => exact ⟨rfl, rfl, Lib.hid (g_alloc (grown_refl _) _), HB⟩
      case round =>
        obtain ⟨rfl, rfl, HG, HB⟩ := hrel
        have hb0 := HB.out.c0
        have hb1 := HB.out.c1
        go_wp2_with fail
        go_ret
        exact ⟨rfl, HG.out⟩
  | true =>
    rw [hm] at HOK
    rw [show deepest R xs = deepS xs by simp [deepest, hm, deepS_eq hm]]
    clear hm
    go_enter Try.func37, Try.ntmps37
    go_wp2_with fail
    go_loopw [3, 4] (fun d i wr => ∃ (k : Nat), (k : Int) ≤ n ∧ i = .int .i64 k ∧ d = .int .i64 (deepS (xs.take k)) ∧ Hid (w.grownBy wr none) ∧ Hid (Reads wr a n xs) ∧ Hid (BoxM wr w.heap.size R (.slice a n cap))) (fun _ i _ => n - (intOf i).toNat)
    case atStart => exact ⟨0, by omega, rfl, rfl, Lib.hid (g_alloc (grown_refl _) _), Lib.hid (HR.out.past _), HB⟩
    case round =>
      obtain ⟨k, hk, rfl, rfl, HG, HR, HB⟩ := hrel
      have hb0 := HB.out.c0
      have hb1 := HB.out.c1
      by_cases hlt : (k : Int) < n
      · obtain ⟨r, l, i, hx⟩ := get_of_lt HR.out.len (k := k) (by omega)
        obtain ⟨g, rfl, hg, d0, d1, d2⟩ := HR.out.at_ k _ hx
        have HX := Lib.hid hx; clear hx
        dsimp only at d0 d1 d2
        have HD := Lib.hid (show deepS (xs.take (k + 1)) = max (deepS (xs.take k)) l by rw [take_snoc HX.out]; simp [deepS])
        generalize deepS (xs.take k) = d at *
        go_wp2_with (first
          | (go_at_call 20; (with_reducible refine (HOK.out _ HR.out).mono ?_); rintro e w1 ⟨rfl, hg1⟩; have hb1' := (HB.out.on hg1).c1; obtain ⟨g_, hg_, -, d10, d11, d12⟩ := (HR.out.on hg1).at_ k _ HX.out; cases hg_; dsimp only at d10 d11 d12; have HG1 := Lib.hid hg1; clear hg1))
        go_roundw
        case rel => exact ⟨k + 1, by omega, by go_num, congrArg (Value.int IntKind.i64) ((max_if d l).trans HD.out.symm), Lib.hid (grown_trans HG.out HG1.out), Lib.hid (HR.out.on HG1.out), Lib.hid (HB.out.on HG1.out)⟩
        case measure => simp [intOf]; omega
      · obtain rfl : k = n := by omega
        have HD := Lib.hid (show deepS (xs.take k) = deepS xs by rw [← HR.out.len, List.take_length])
        rw [HD.out]
        go_wp2_with fail
        go_ret
        exact ⟨rfl, HG.out⟩

end Go.Proofs.Ytmkmlfaekiofcaa.Mesh
