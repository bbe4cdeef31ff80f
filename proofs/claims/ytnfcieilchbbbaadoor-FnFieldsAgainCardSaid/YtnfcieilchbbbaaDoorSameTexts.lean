/- The laws' own comparison of two rows of texts, as a contract: rows that hold the same texts compare as equal. -/
import Derived.Test.YtnfcieilchbbbaaDoorRowsOwn
namespace Go.Proofs.YtnfcieilchbbbaaDoor.Fld
open Go.ChangeShapes Go.WideShapes Go.ChangeAt Go.RowKit

theorem same_texts {B1 B2 n : Nat} {a1 a2 : Option Addr} {c1 c2 : Nat} {fs : List (List UInt8)} {w : World} (hn : n ≤ 1000) (h1 : w.ownsRow B1 9 1 (.slice a1 n c1) n (strs fs)) (h2 : w.ownsRow B2 9 1 (.slice a2 n c2) n (strs fs)) :
    Calls Tryd.prog 18 #[.slice a1 n c1, .slice a2 n c2] w (EqDone w) := by
  have hni : (n : Int) ≤ 1000 := by omega
  have HN := Lib.hid hn; clear hn
  have HA := Lib.hid h1; clear h1
  have HB := Lib.hid h2; clear h2
  have hlf : Hid (fs.length = n) := Lib.hid (by have := HA.out.1; rw [strs_length] at this; omega)
  go_enter Tryd.func18, Tryd.ntmps18
  go_wp2_with fail
  go_loopw [5] (fun i wr => ∃ k : Nat, (k : Int) ≤ n ∧ i = .int .i64 k ∧ Still w wr) (fun i _ => n - (intOf i).toNat)
  case atStart => exact ⟨0, by omega, rfl, Still.refl w⟩
  case round =>
    obtain ⟨k, hk, rfl, hst⟩ := hrel
    have HS := Lib.hid hst; clear hst
    by_cases hlt : (k : Int) < n
    · obtain ⟨g1, ha1, _, _, hc1, _⟩ := own_cell HA.out (by omega)
      obtain ⟨g2, ha2, _, _, hc2, _⟩ := own_cell HB.out (by omega)
      subst ha1 ha2
      have hval : (strs fs)[k]? = some (.string ⟨(fs.getD k []).toArray⟩) := by
        have hl : k < fs.length := by rw [hlf.out]; omega
        simp [strs, List.getD_eq_getElem?_getD, List.getElem?_eq_getElem hl]
      have d1 : wr.cell? ⟨g1, k, none⟩ = some (.string ⟨(fs.getD k []).toArray⟩) := by rw [HS.out.cell, hc1 k (by omega), hval]
      have d2 : wr.cell? ⟨g2, k, none⟩ = some (.string ⟨(fs.getD k []).toArray⟩) := by rw [HS.out.cell, hc2 k (by omega), hval]
      generalize (⟨(fs.getD k []).toArray⟩ : ByteArray) = t at d1 d2
      clear hc1 hc2 hval
      go_wp2_with fail
      go_quiet (fail)
      go_wp2_with fail
      go_roundw
      case rel => exact ⟨k + 1, by omega, by go_num, HS.out⟩
      case measure => simp [intOf]; omega
    · go_wp2_with fail
      go_ret
      exact ⟨rfl, HS.out⟩
end Go.Proofs.YtnfcieilchbbbaaDoor.Fld
