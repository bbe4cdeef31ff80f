/- Meshes: MeshNew of the reference model at every two ints, as a contract.
   Conditions: none. -/
import Derived.Test.YtaccigmkddomaaaMNewI
import Derived.Test.YtaccigmkddomaaaPkArg
import Derived.Deep.CutRange
import Derived.Deep.DeepCutAuto
import Derived.Deep.AppendLies
set_option maxRecDepth 100000
namespace Go.Proofs.Ytaccigmkddomaaa.Mesh
open Go.ChangeShapes Go.WideShapes Go.ChangeAt Go.RowKit Go.Proofs.Ytaccigmkddomaaa.Cell

/-- A mesh that is being made: its box, the answer's box, its row. -/
structure Coll (w wr : World) (R : Int) (xs : List C3) (v : Value) : Prop where
  m1 : MBox wr (w.heap.size + 1) R v
  m0 : MBox wr w.heap.size 0 (.slice none 0 0)
  row : wr.ownsRow w.heap.size 35 3 v xs.length (flatC xs)
  gr : w.grownBy wr none
theorem Coll.start (w : World) (R : Int) : Coll w ((w.alloc (.cells #[.int .i64 0, .slice none 0 0] 26)).alloc (.cells #[.int .i64 R, .slice none 0 0] 26)) R [] (.slice none 0 0) :=
  ⟨by have h := MBox.new (w.alloc (.cells #[.int .i64 0, .slice none 0 0] 26)) R (.slice none 0 0); simpa using h, (MBox.new _ _ _).alloc _, World.ownsRow_nil _ _ _ _, g_alloc (g_alloc (grown_refl _) _) _⟩

set_option maxHeartbeats 4000000 in
theorem specNew_is (R L : Int) (w : World) : Calls Try.prog 17 #[.int .i64 R, .int .i64 L] w (NewPost R L w) := by
  cases h : newOk R L with
  | true =>
    obtain ⟨⟨h1, h2⟩, h3, h4⟩ : (1 ≤ R ∧ R ≤ 8) ∧ 0 ≤ L ∧ L ≤ 4 := of_decide_eq_true h
    have q1 : decide (1 ≤ R ∧ R ≤ 8) = true := decide_eq_true ⟨h1, h2⟩
    have q2 : decide (0 ≤ L ∧ L ≤ 4) = true := decide_eq_true ⟨h3, h4⟩
    go_enter Try.func17, Try.ntmps17
    go_wp2_with (first
      | (go_at_call 44; (with_reducible refine (in_is R 1 8 true q1 _).mono ?_); rintro e w' ⟨rfl, rfl⟩)
      | (go_at_call 44; (with_reducible refine (in_is L 0 4 true q2 _).mono ?_); rintro e w' ⟨rfl, rfl⟩))
    obtain ⟨i0, hi0, hz0, hz1, hz2⟩ := info_parts infoC
    obtain ⟨kR, rfl⟩ : ∃ kR : Nat, R = kR := ⟨R.toNat, by omega⟩
    have HE := Lib.hid (new_good h)
    rw [Int.toNat_natCast] at HE
    have hN := (powL_is h3 h4).1
    have h16 := (powL_is h3 h4).2.1
    obtain ⟨N, hNN⟩ : ∃ N, powL L = N := ⟨_, rfl⟩
    rw [hNN] at hN h16 HE
    clear hNN
    go_loopw [7] (fun p wr => ∃ (k : Nat) (v : Value), (k : Int) ≤ kR ∧ p = .int .i64 k ∧ Hid (Coll w wr kR (allC k L N) v)) (fun p _ => kR - (intOf p).toNat)
    case atStart => exact ⟨0, _, by omega, rfl, Lib.hid (Coll.start w kR)⟩
    case round =>
      obtain ⟨k, v, hk, rfl, HC⟩ := hrel
      by_cases hlt : (k : Int) < kR
      · go_wp2_with fail
        go_loopw [8] (fun p wr => ∃ (i : Nat) (v : Value), (i : Int) ≤ N ∧ p = .int .i64 i ∧ Hid (Coll w wr kR (allC k L N ++ rowC k L i) v)) (fun p _ => N - (intOf p).toNat)
        case atStart => exact ⟨0, v, by omega, rfl, by rw [rowC_zero, List.append_nil]; exact HC⟩
        case round =>
          obtain ⟨i, v, hi, rfl, HC⟩ := hrel
          by_cases hlt1 : (i : Int) < N
          · obtain ⟨ys, hys⟩ : ∃ ys, ys = allC k L N ++ rowC k L i := ⟨_, rfl⟩
            have HLn := Lib.hid (show ys.length < 128 by
              rw [hys, List.length_append, allC_len, rowC_len]
              have := Nat.mul_le_mul (show k ≤ 7 by omega) h16
              omega)
            rw [← hys] at HC
            have HY := Lib.hid hys; clear hys
            have hc1 := HC.out.m1.c1
            go_wp2_with (at_builtin; refine wpList_append_own _ rfl _ _ 24 rfl w.heap.size 35 i0 (.agg #[.int .i64 0, .int .i64 0, .int .i64 0]) 3 24 Try.underlying24 hi0 hz0 hz1 hz2 rfl (by decide) _ _ _ rfl (HC.out.row.alloc _) ⟨wr.heap.size, 0, none⟩ 1 1 [.int .i64 k, .int .i64 L, .int .i64 i] rfl rfl (World.news_of_block (cs := #[.int .i64 k, .int .i64 L, .int .i64 i]) (t := 35) (fr := (0, 0)) (heap_alloc_new wr _)) (by simp [Value.oneCell']) (by have := HLn.out; unfold maxLen; omega) (by have := HLn.out; omega) (by have := HC.out.gr.size; simp; omega) ?_; intro v' w1 hown' hgrow hnil; clear hnil; obtain ⟨g', cap', rfl⟩ := ownsRow_succ hown'; have hap := HC.out.m1.appended HC.out.row HC.out.gr.size (Nat.le_succ _) hown' hgrow; have hd1 := hap.1.c1; have hf1 := hap.1.f1; have HAP := Lib.hid hap; clear hap hown' hgrow)
            go_roundw
            case rel =>
              refine ⟨i + 1, .slice (some ⟨g', 0, none⟩) (ys.length + 1) cap', by omega, by go_num, Lib.hid ?_⟩
              obtain ⟨-, p2, p3, -, p5, p6⟩ := HAP.out
              have hg := grown_of_below' (Below.trans (grown_below HC.out.gr (Nat.le_refl _)) p5)
              rw [rowC_succ, ← List.append_assoc, ← HY.out]
              exact ⟨p2, (p6 _ (MBox.lt HC.out.m0) (MBox.not_row HC.out.m0 HC.out.row) (by omega)).trans HC.out.m0, by rw [flatC_snoc, List.length_append]; exact p3, hg⟩
            case measure => simp [intOf]; omega
          · obtain rfl : i = N := by omega
            go_wp2_with fail
            go_roundw
            case rel => exact ⟨k + 1, v, by omega, by go_num, by rw [allC_succ]; exact HC⟩
            case measure => simp [intOf]; omega
      · obtain rfl : k = kR := by omega
        obtain ⟨a, cap, rfl⟩ := own_form HC.out.row
        have hc0 := HC.out.m1.c0
        have hc1 := HC.out.m1.c1
        have d0 := MBox.c0 HC.out.m0
        have d1 := MBox.c1 HC.out.m0
        have f0 := MBox.f0 HC.out.m0
        have f1 := MBox.f1 HC.out.m0
        go_wp2_with fail
        have hg1 := grownBy_setC wr w.heap.size 0 (.int .i64 k)
        have hg2 := grownBy_setC (wr.setCell ⟨w.heap.size, 0, none⟩ (.int .i64 k)) w.heap.size 1 (.slice a (allC k L N).length cap)
        have ho1 := HC.out.row.kept hg1 (.inr (MBox.not_row HC.out.m0 HC.out.row).symm)
        have ho2 := ho1.kept hg2 (.inr (MBox.not_row (MBox.set0 HC.out.m0 k) ho1).symm)
        obtain ⟨e1, e2⟩ := HE.out
        refine bodyPost_ret_by (results_row_tmp rfl _ _ w.heap.size _ _ (0, 0) _ rfl (MBox.set1 (MBox.set0 HC.out.m0 k) _) Try.underlying26 rfl (by kernel_rfl)) rfl ⟨_, by rw [e1, h]; rfl, by rw [e2]; exact ho2, g_set (g_set HC.out.gr _ _ _ (Nat.le_refl _)) _ _ _ (Nat.le_refl _)⟩
  | false =>
    have hz : ¬ ((1 ≤ R ∧ R ≤ 8) ∧ 0 ≤ L ∧ L ≤ 4) := of_decide_eq_false h
    have HM := Lib.hid (MBox.new w 0 (.slice none 0 0))
    by_cases hr : 1 ≤ R ∧ R ≤ 8
    · have hl : ¬ (0 ≤ L ∧ L ≤ 4) := fun e => hz ⟨hr, e⟩
      have q1 := decide_eq_true hr
      have q2 := decide_eq_false hl
      have H := Lib.hid h; clear h hr hl hz
      go_enter Try.func17, Try.ntmps17
      go_wp2_with (first
        | (go_at_call 44; (with_reducible refine (in_is R 1 8 true q1 _).mono ?_); rintro e w' ⟨rfl, rfl⟩)
        | (go_at_call 44; (with_reducible refine (in_is L 0 4 false q2 _).mono ?_); rintro e w' ⟨rfl, rfl⟩))
      exact bodyPost_ret_by (results_row_tmp rfl _ _ w.heap.size _ _ (0, 0) _ rfl HM.out Try.underlying26 rfl (by kernel_rfl)) rfl (post_bad H.out (g_alloc (grown_refl _) _))
    · have q1 := decide_eq_false hr
      have H := Lib.hid h; clear h hr hz
      go_enter Try.func17, Try.ntmps17
      go_wp2_with (first
        | (go_at_call 44; (with_reducible refine (in_is R 1 8 false q1 _).mono ?_); rintro e w' ⟨rfl, rfl⟩))
      exact bodyPost_ret_by (results_row_tmp rfl _ _ w.heap.size _ _ (0, 0) _ rfl HM.out Try.underlying26 rfl (by kernel_rfl)) rfl (post_bad H.out (g_alloc (grown_refl _) _))
end Go.Proofs.Ytaccigmkddomaaa.Mesh
