/- Meshes: ParseMesh of the reference model at every string, as a contract.
   Conditions: none. -/
import Derived.Test.YtjhfjceieaanhaaMParseS
namespace Go.Proofs.Ytjhfjceieaanhaa.Mesh
open Go.ChangeShapes Go.WideShapes Go.ChangeAt Go.RowKit Go.Proofs.Ytjhfjceieaanhaa.Cell

theorem fmtOf_nil (R : Int) : fmtOf R [] = [] := by unfold fmtOf; split <;> rfl

set_option maxHeartbeats 4000000 in
theorem specParse_is (s : ByteArray) (w : World) : Calls Try.prog 36 #[.string s] w (Answer (pR s.data.toList) (pC s.data.toList) (pOk s.data.toList) w) := by
  by_cases h200 : s.size ≤ 200
  · exact specParse_in s h200 w
  · have hdat : s.data.toList.length = s.size := by simp
    have hlt : (200 : Int) < s.size := by omega
    have H := Lib.hid (pOk_long (t := s.data.toList) (by omega))
    have he : s.toList.isEmpty = false := by
      rw [ByteArray.toList_eq]
      cases h : s.data.toList with
      | nil => rw [h] at hdat; simp at hdat; omega
      | cons a r => rfl
    obtain ⟨F, hF⟩ : ∃ F : ByteArray, F = ⟨(fmtOf 1 []).toArray⟩ := ⟨_, rfl⟩
    have hFs : F ≠ s := fun e => by rw [hF, fmtOf_nil] at e; rw [← e] at hlt; exact absurd hlt (by decide)
    have hcmp := str_other hFs
    have HF := Lib.hid hF
    have HD := Lib.hid hdat; clear hdat h200 hF hFs
    go_enter Try.func36, Try.ntmps36
    go_wp2_with fail
    go_loopw [5, 6] (fun p q wr => q = .int .i64 0 ∧ Hid (Coll w wr 1 [] (.slice none 0 0))) (fun _ q _ => 1 - (intOf q).toNat)
    case atStart => exact ⟨rfl, Lib.hid (Coll.start w 1)⟩
    case round =>
      obtain ⟨rfl, HC⟩ := hrel
      have hc0 := HC.out.m1.c0
      have hc1 := HC.out.m1.c1
      go_wp2_with (go_at_call 35; (with_reducible refine (specFmt_is 1 none 0 0 [] _ (own_reads HC.out.row) (by omega)).mono ?_); rw [← HF.out]; rintro e' w1 ⟨rfl, hg⟩; have hm0 := MBox.kept HC.out.m0 hg (by simp); have d0 := MBox.c0 hm0; have d1 := MBox.c1 hm0; have f0 := MBox.f0 hm0; have f1 := MBox.f1 hm0; have HM0 := Lib.hid hm0; have HG1 := Lib.hid hg; clear hm0 hg)
      refine bodyPost_ret_by (results_row_tmp rfl _ _ w.heap.size _ _ (0, 0) _ rfl (MBox.set1 (MBox.set0 HM0.out 0) (.slice none 0 0)) Try.underlying26 rfl (by kernel_rfl)) rfl ?_
      exact (ans_bad H.out (g_set (g_set (grown_trans HC.out.gr HG1.out) _ _ _ (Nat.le_refl _)) _ _ _ (Nat.le_refl _)))
end Go.Proofs.Ytjhfjceieaanhaa.Mesh
