/- The model's SplitFields, as a contract: the fields of a good line; of another one nothing. -/
import Derived.Test.YtnfcieilchbbbaaDoorSplitImpl
namespace Go.Proofs.YtnfcieilchbbbaaDoor.Fld
open Go.ChangeShapes Go.WideShapes Go.ChangeAt Go.RowKit

/-- The state at place k of the model's loop, the one behind the end too. -/
def St (s : ByteArray) (k b : Nat) (done : List (List UInt8)) : Prop := (k ≤ s.size ∧ At s k b done) ∨ (k = s.size + 1 ∧ fieldsOf s.data.toList = done ∧ AllIn s.data.toList)
theorem St.len {s : ByteArray} {k b : Nat} {done : List (List UInt8)} (h : St s k b done) : done.length ≤ s.size + 1 := by
  rcases h with ⟨h0, h⟩ | ⟨_, h, _⟩
  · have := h.len; omega
  · rw [← h]
    have := scan_len s.data.toList
    simp at this
    unfold fieldsOf fin
    split
    · omega
    · simp; omega
theorem St.at {s : ByteArray} {k b : Nat} {done : List (List UInt8)} (h : St s k b done) (hk : k ≤ s.size) : At s k b done := by
  rcases h with ⟨_, h⟩ | ⟨h, _⟩
  · exact h
  · omega

theorem spec_split_long (s : ByteArray) (h : 600 < s.size) (w : World) :
    Calls Tryd.prog 17 #[.string s] w (SplitDone s w) := by
  have hle : (600 : Int) < (s.size : Int) := by omega
  have H := Lib.hid h; clear h
  go_enter Tryd.func17, Tryd.ntmps17
  go_wp2
  go_ret2
  exact ⟨_, _, [], rfl, .inr ⟨fun g => by have := H.out; have := g.1; omega, rfl, rfl⟩, World.ownsRow_lit w #[] 0 (Nat.le_refl _) (by unfold maxLen; omega) rfl, (Below.refl _ _).alloc (Nat.le_refl _) _⟩

theorem spec_split (s : ByteArray) (h : s.size ≤ 600) (w : World) :
    Calls Tryd.prog 17 #[.string s] w (SplitDone s w) := by
  have hle : (s.size : Int) ≤ 600 := by omega
  have H := Lib.hid h; clear h
  obtain ⟨i0, hi, hz0, hz1, hz2⟩ := info_parts info9
  go_enter Tryd.func17, Tryd.ntmps17
  go_wp2_with fail
  go_loopw [4, 5, 6] (fun v st i wr => ∃ (k b : Nat) (done : List (List UInt8)) (a : Option Addr) (cap : Nat), (k : Int) ≤ (s.size : Int) + 1 ∧ (b : Int) ≤ k ∧ i = .int .i64 k ∧ st = .int .i64 b ∧ v = .slice a done.length cap ∧ Hid (St s k b done) ∧ wr.ownsRow w.heap.size 9 1 (.slice a done.length cap) done.length (strs done) ∧ Below w.heap.size w wr) (fun _ _ i _ => s.size + 1 - (intOf i).toNat)
  case atStart => exact ⟨0, 0, [], _, _, by omega, by omega, rfl, rfl, rfl, Lib.hid (.inl ⟨Nat.zero_le _, At.start s⟩), World.ownsRow_lit w #[] 0 (Nat.le_refl _) (by unfold maxLen; omega) rfl, (Below.refl _ _).alloc (Nat.le_refl _) _⟩
  case round =>
    obtain ⟨k, b, done, a, cap, hk, hbk, rfl, rfl, rfl, HSt, hown, hbel⟩ := hrel
    have hk2 : done.length + 1 ≤ maxLen ∧ (done.length + 1) * 16 ≤ 140737488355328 := by have := HSt.out.len; have := H.out; unfold maxLen; omega
    have HK2 := Lib.hid hk2; clear hk2
    have HO := Lib.hid hown; clear hown
    have hsz : w.heap.size ≤ wr.heap.size := hbel.size
    have HSZ := Lib.hid hsz; clear hsz
    have HBel := Lib.hid hbel; clear hbel
    by_cases hlt : (k : Int) < s.size
    · have hlt' : k < s.size := by omega
      have hc0 : (s[k]).toNat < 256 := (s[k]).toNat_lt
      have HAt : Hid (At s k b done) := Lib.hid (HSt.out.at (by omega))
      by_cases hbad : (s[k]).toNat < 32 ∨ 126 < (s[k]).toNat
      · have hnot : Hid (¬ Good s) := Lib.hid (bad_at hlt' (by omega))
        by_cases hlo : (s[k]).toNat < 32
        · have hlo' : ((s[k]).toNat : Int) < 32 := by omega
          clear hbad hc0 hlo
          go_wp2_with fail
          go_ret2
          exact ⟨_, _, [], rfl, .inr ⟨hnot.out, rfl, rfl⟩, World.ownsRow_lit wr #[] 0 HSZ.out (by unfold maxLen; omega) rfl, HBel.out.alloc HSZ.out _⟩
        · have hlo' : ¬ ((s[k]).toNat : Int) < 32 := by omega
          have hhi' : 126 < ((s[k]).toNat : Int) := by omega
          clear hbad hc0 hlo
          go_wp2_with fail
          go_ret2
          exact ⟨_, _, [], rfl, .inr ⟨hnot.out, rfl, rfl⟩, World.ownsRow_lit wr #[] 0 HSZ.out (by unfold maxLen; omega) rfl, HBel.out.alloc HSZ.out _⟩
      · have hlo' : ¬ ((s[k]).toNat : Int) < 32 := by omega
        have hhi' : ¬ 126 < ((s[k]).toNat : Int) := by omega
        have HGC : Hid (32 ≤ (s[k]).toNat ∧ (s[k]).toNat ≤ 126) := Lib.hid (by omega)
        by_cases hsp : (s[k]).toNat = 32
        · have hsp' : (((s[k]).toNat : Int) != 32) = false := by simp; omega
          have HSP := Lib.hid hsp; clear hsp hbad hc0
          have hat2 := HAt.out.space hlt' HSP.out
          have HAt2 := Lib.hid hat2; clear hat2
          by_cases hbl : (b : Int) < k
          · have HBL : Hid (b < k) := Lib.hid (by omega)
            go_wp2_with (at_builtin; refine wpList_append_own _ rfl _ _ 31 rfl w.heap.size 9 i0 (.string ByteArray.empty) 1 16 Tryd.underlying31 hi hz0 hz1 hz2 rfl (by decide) _ _ _ rfl (HO.out.alloc _) ⟨wr.heap.size, 0, none⟩ 1 1 [.string (s.extract b k)] rfl rfl (cell_one_new _ _ _) (fun x hx => by simp at hx; subst hx; rfl) HK2.out.1 HK2.out.2 (by have := HSZ.out; simp; omega) ?_; intro v' w3 hown' hgrow' _; have HO3 := Lib.hid hown'; clear hown'; have HG3 := Lib.hid hgrow'; clear hgrow')
            go_roundw
            case rel =>
              have h2 := HAt2.out
              rw [if_pos HBL.out] at h2
              have hl : (done ++ [(s.data.toList.take k).drop b]).length = done.length + 1 := by simp
              obtain ⟨a3, cap3, rfl⟩ := own_form HO3.out
              refine ⟨k + 1, k + 1, _, a3, cap3, by omega, by omega, by go_num, by go_num, by rw [hl], Lib.hid (.inl ⟨hlt', h2⟩), ?_, (HBel.out.alloc HSZ.out _).grown HG3.out (by have := HSZ.out; simp; omega) (fun j hj => (HO.out.lt j hj).1)⟩
              rw [hl, strs_append]
              have h3 := HO3.out
              rw [piece s b k] at h3
              exact h3
            case measure => simp [intOf]; omega
          · have HBL : Hid (¬ b < k) := Lib.hid (by omega)
            go_wp2_with fail
            go_roundw
            case rel =>
              have h2 := HAt2.out
              rw [if_neg HBL.out] at h2
              exact ⟨k + 1, k + 1, done, a, cap, by omega, by omega, by go_num, by go_num, rfl, Lib.hid (.inl ⟨hlt', h2⟩), HO.out, HBel.out⟩
            case measure => simp [intOf]; omega
        · have hsp' : (((s[k]).toNat : Int) != 32) = true := by simp; omega
          have HSP := Lib.hid hsp; clear hsp hbad hc0
          have hat2 := HAt.out.byte hlt' HGC.out HSP.out
          have HAt2 := Lib.hid hat2; clear hat2
          go_wp2_with fail
          go_roundw
          case rel => exact ⟨k + 1, b, done, a, cap, by omega, by omega, by go_num, rfl, rfl, Lib.hid (.inl ⟨hlt', HAt2.out⟩), HO.out, HBel.out⟩
          case measure => simp [intOf]; omega
    · by_cases hend : (k : Int) = s.size
      · obtain rfl : k = s.size := by omega
        have HAt : Hid (At s s.size b done) := Lib.hid (HSt.out.at (Nat.le_refl _))
        clear hend
        by_cases hbl : (b : Int) < (s.size : Int)
        · have HBL : Hid (b < s.size) := Lib.hid (by omega)
          go_wp2_with (at_builtin; refine wpList_append_own _ rfl _ _ 31 rfl w.heap.size 9 i0 (.string ByteArray.empty) 1 16 Tryd.underlying31 hi hz0 hz1 hz2 rfl (by decide) _ _ _ rfl (HO.out.alloc _) ⟨wr.heap.size, 0, none⟩ 1 1 [.string (s.extract b s.size)] rfl rfl (cell_one_new _ _ _) (fun x hx => by simp at hx; subst hx; rfl) HK2.out.1 HK2.out.2 (by have := HSZ.out; simp; omega) ?_; intro v' w3 hown' hgrow' _; have HO3 := Lib.hid hown'; clear hown'; have HG3 := Lib.hid hgrow'; clear hgrow')
          go_roundw
          case rel =>
            have hf := HAt.out.fields
            rw [if_pos HBL.out] at hf
            have hl : (done ++ [s.data.toList.drop b]).length = done.length + 1 := by simp
            obtain ⟨a3, cap3, rfl⟩ := own_form HO3.out
            refine ⟨s.size + 1, s.size + 1, _, a3, cap3, by omega, by omega, by go_num, by go_num, by rw [hl], Lib.hid (.inr ⟨rfl, hf, HAt.out.all⟩), ?_, (HBel.out.alloc HSZ.out _).grown HG3.out (by have := HSZ.out; simp; omega) (fun j hj => (HO.out.lt j hj).1)⟩
            rw [hl, strs_append]
            have h3 := HO3.out
            rw [piece s b s.size, List.take_of_length_le (by simp)] at h3
            exact h3
          case measure => simp [intOf]
        · have HBL : Hid (¬ b < s.size) := Lib.hid (by omega)
          go_wp2_with fail
          go_roundw
          case rel =>
            have hf := HAt.out.fields
            rw [if_neg HBL.out] at hf
            exact ⟨s.size + 1, s.size + 1, done, a, cap, by omega, by omega, by go_num, by go_num, rfl, Lib.hid (.inr ⟨rfl, hf, HAt.out.all⟩), HO.out, HBel.out⟩
          case measure => simp [intOf]
      · have hlast : Hid (fieldsOf s.data.toList = done ∧ AllIn s.data.toList) := Lib.hid (by
          rcases HSt.out with ⟨h0, _⟩ | ⟨_, h1, h2⟩
          · omega
          · exact ⟨h1, h2⟩)
        have hgt : (s.size : Int) < k := by omega
        clear hend hlt
        by_cases hcnt : done.length ≤ 24
        · have hcnt' : ¬ (24 : Int) < (done.length : Int) := by omega
          have HC := Lib.hid hcnt; clear hcnt
          go_wp2_with fail
          go_ret2
          exact ⟨_, _, done, rfl, .inl ⟨⟨H.out, hlast.out.2, by rw [hlast.out.1]; exact HC.out⟩, rfl, hlast.out.1.symm⟩, HO.out, HBel.out⟩
        · have hcnt' : (24 : Int) < (done.length : Int) := by omega
          have HC := Lib.hid hcnt; clear hcnt
          go_wp2_with fail
          go_ret2
          exact ⟨_, _, [], rfl, .inr ⟨fun g => by have := g.2.2; rw [hlast.out.1] at this; exact HC.out this, rfl, rfl⟩, World.ownsRow_lit wr #[] 0 HSZ.out (by unfold maxLen; omega) rfl, HBel.out.alloc HSZ.out _⟩
end Go.Proofs.YtnfcieilchbbbaaDoor.Fld
