/- Plain lists: what a text's hexadecimal text decodes to is the text. -/
import Derived.Test.YtnfcieilchbbbaaDoorHexDig
import Derived.Test.YtnfcieilchbbbaaDoorDecBase
namespace Go.Proofs.YtnfcieilchbbbaaDoor.Hex
open Go.RowKit

theorem hv_dig (n : Nat) (h : n < 16) : hv (dig n) = n := by
  have d := dig_val n h
  unfold hv
  split at d <;> (split <;> (try split) <;> omega)

theorem hexOf_get : ∀ (l : List UInt8) (j : Nat) (h : j < l.length), (hexOf l).getD (2 * j) 0 = dig (l[j].toNat / 16) ∧ (hexOf l).getD (2 * j + 1) 0 = dig (l[j].toNat % 16)
  | [], j, h => by simp at h
  | b :: l, 0, _ => by simp [hexOf]
  | b :: l, j + 1, h => by
    have ih := hexOf_get l j (by simpa using h)
    have e1 : 2 * (j + 1) = 2 * j + 1 + 1 := by omega
    have e2 : 2 * (j + 1) + 1 = 2 * j + 1 + 1 + 1 := by omega
    rw [e2, e1]
    simpa [hexOf] using ih

def hexStr (s : ByteArray) : ByteArray := ⟨(hexOf s.data.toList).toArray⟩
theorem hexStr_size (s : ByteArray) : (hexStr s).size = 2 * s.size := by
  show (hexOf s.data.toList).toArray.size = _
  simp [hexOf_length]

theorem hexStr_at (s : ByteArray) (j : Nat) (h : j < s.size) : hv (at_ (hexStr s) (2 * j)) = ((at_ s j).toNat / 16 : Nat) ∧ hv (at_ (hexStr s) (2 * j + 1)) = ((at_ s j).toNat % 16 : Nat) := by
  have hl : j < s.data.toList.length := by simpa using h
  have g := hexOf_get s.data.toList j hl
  have ha : at_ s j = s.data.toList[j] := by unfold at_; rw [List.getD_eq_getElem?_getD, List.getElem?_eq_getElem hl]; rfl
  have hb : (at_ s j).toNat < 256 := (at_ s j).toNat_lt
  rw [← ha] at g
  have e1 : at_ (hexStr s) (2 * j) = dig ((at_ s j).toNat / 16) := g.1
  have e2 : at_ (hexStr s) (2 * j + 1) = dig ((at_ s j).toNat % 16) := g.2
  rw [e1, e2]
  exact ⟨hv_dig _ (by omega), hv_dig _ (by omega)⟩

theorem hex_ok (s : ByteArray) : ∀ j, j < (hexStr s).size / 2 → okAt (hexStr s) j := by
  intro j hj
  have h := hexStr_at s j (by rw [hexStr_size] at hj; omega)
  exact ⟨by rw [h.1]; omega, by rw [h.2]; omega⟩

theorem hex_back (s : ByteArray) : (⟨(decOf (hexStr s) ((hexStr s).size / 2)).toArray⟩ : ByteArray) = s := by
  have hn : (hexStr s).size / 2 = s.size := by rw [hexStr_size]; omega
  rw [hn]
  have e : decOf (hexStr s) s.size = s.data.toList := by
    apply List.ext_getElem
    · simp [decOf]
    · intro j h1 h2
      have hj : j < s.size := by simpa [decOf] using h1
      have h := hexStr_at s j hj
      have hb : (at_ s j).toNat < 256 := (at_ s j).toNat_lt
      have hv1 := byteAt_val (hexStr s) j _ _ h.1 h.2 (by omega) (by omega)
      have ha : at_ s j = s.data.toList[j] := by unfold at_; rw [List.getD_eq_getElem?_getD, List.getElem?_eq_getElem h2]; rfl
      have hx : (byteAt (hexStr s) j).toNat = (at_ s j).toNat := by omega
      have hx2 : byteAt (hexStr s) j = at_ s j := UInt8.toNat_inj.1 hx
      simp only [decOf, List.getElem_map, List.getElem_range]
      rw [hx2, ha]
  rw [e]
end Go.Proofs.YtnfcieilchbbbaaDoor.Hex
