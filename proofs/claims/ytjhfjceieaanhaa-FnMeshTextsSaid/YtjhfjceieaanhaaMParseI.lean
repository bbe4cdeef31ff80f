/- Meshes: ParseMesh of the program at every string, as a contract.
   Conditions: none. -/
import Derived.Test.YtjhfjceieaanhaaMParse
import Derived.Test.YtjhfjceieaanhaaMAns
namespace Go.Proofs.Ytjhfjceieaanhaa.Mesh
open Go.ChangeShapes Go.WideShapes Go.ChangeAt Go.RowKit Go.Proofs.Ytjhfjceieaanhaa.Cell

theorem ans_bad {t : List UInt8} {w w' : World} (h : pOk t = false) (hg : w.grownBy w' none) : Answer (pR t) (pC t) (pOk t) w (.returned (.tuple #[.agg #[.int .i64 0, .slice none 0 0], .bool false])) w' := by
  obtain ⟨h1, h2⟩ := p_no h
  exact ⟨none, 0, by rw [h1, h2, h]; rfl, by rw [h2]; exact World.ownsRow_nil _ _ _ _, hg⟩
theorem grown_of_below2 {w w' : World} (h : Below w.heap.size w w') : w.grownBy w' none := ⟨h.os, h.tape, h.output, h.size, fun i hi _ => h.block i hi⟩

set_option maxHeartbeats 2000000 in
theorem parse_is (s : ByteArray) (w : World) : Calls Try.prog 20 #[.string s] w (Answer (pR s.data.toList) (pC s.data.toList) (pOk s.data.toList) w) := by
  have hdat : s.data.toList.length = s.size := by simp
  by_cases h0 : s.size = 0
  · have he : s.toList.isEmpty = true := by
      rw [ByteArray.toList_eq, List.isEmpty_iff]; exact List.eq_nil_of_length_eq_zero (by omega)
    have hbad : pOk s.data.toList = false := decide_eq_false fun e => e.1 (List.eq_nil_of_length_eq_zero (by omega))
    have H := Lib.hid hbad
    have HM := Lib.hid (MBox.new w 0 (.slice none 0 0))
    clear hbad h0 hdat
    go_enter Try.func20, Try.ntmps20
    go_wp2
    exact bodyPost_ret_by (results_row_tmp rfl _ _ w.heap.size _ _ (0, 0) _ rfl HM.out Try.underlying26 rfl (by kernel_rfl)) rfl (ans_bad H.out (g_alloc (grown_refl _) _))
  · by_cases h1 : s.size ≤ 135
    · refine (callsIn_wide (n := 6)).1 ((parse_in 6 (by omega) s (by omega) h1 w).mono ?_)
      rintro e w' ⟨v, rfl, ho, hb⟩
      obtain ⟨a, c, rfl⟩ := own_form ho
      exact ⟨a, c, rfl, ho, grown_of_below2 hb⟩
    · have he : s.toList.isEmpty = false := by
        rw [ByteArray.toList_eq]
        cases h : s.data.toList with
        | nil => rw [h] at hdat; simp at hdat; omega
        | cons a r => rfl
      have hlt : (135 : Int) < s.size := by omega
      have H := Lib.hid (pOk_long (t := s.data.toList) (by omega))
      have HM := Lib.hid (MBox.new w 0 (.slice none 0 0))
      clear h0 h1 hdat
      go_enter Try.func20, Try.ntmps20
      go_wp2
      exact bodyPost_ret_by (results_row_tmp rfl _ _ w.heap.size _ _ (0, 0) _ rfl HM.out Try.underlying26 rfl (by kernel_rfl)) rfl (ans_bad H.out (g_alloc (grown_refl _) _))
end Go.Proofs.Ytjhfjceieaanhaa.Mesh
