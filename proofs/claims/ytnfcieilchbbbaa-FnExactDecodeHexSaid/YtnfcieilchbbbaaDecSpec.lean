/- The model's DecodeHex, as a contract: where every pair of characters is a pair of digits, the bytes; else nothing. Up to 40000 characters, an even number; else nothing. -/
import Derived.Test.YtnfcieilchbbbaaHex
import Derived.Lib.Bytealg
namespace Go.Proofs.Ytnfcieilchbbbaa.Hex
open Go.ChangeShapes Go.WideShapes Go.ChangeAt Go.RowKit

/-- A digit's value, or -1. -/
def hv (c : UInt8) : Int := if 48 ≤ c.toNat ∧ c.toNat ≤ 57 then (c.toNat : Int) - 48 else if 97 ≤ c.toNat ∧ c.toNat ≤ 102 then (c.toNat : Int) - 97 + 10 else -1
theorem hv_range (c : UInt8) : -1 ≤ hv c ∧ hv c ≤ 15 := by unfold hv; split <;> (try split) <;> omega
/-- Character i of a string; 0 behind its end. -/
def at_ (s : ByteArray) (i : Nat) : UInt8 := s.data.toList.getD i 0
theorem at_eq (s : ByteArray) (i : Nat) (h : i < s.size) : s[i] = at_ s i := by
  unfold at_; rw [List.getD_eq_getElem?_getD, List.getElem?_eq_getElem (by simpa using h)]; rfl
def okAt (s : ByteArray) (j : Nat) : Prop := 0 ≤ hv (at_ s (2 * j)) ∧ 0 ≤ hv (at_ s (2 * j + 1))
def byteAt (s : ByteArray) (j : Nat) : UInt8 := UInt8.ofNat (16 * hv (at_ s (2 * j)) + hv (at_ s (2 * j + 1))).toNat
def decOf (s : ByteArray) (k : Nat) : List UInt8 := (List.range k).map (byteAt s)
theorem decOf_snoc (s : ByteArray) (k : Nat) : decOf s (k + 1) = decOf s k ++ [byteAt s k] := by simp [decOf, List.range_succ]
theorem byteAt_val (s : ByteArray) (j : Nat) (x y : Int) (hx : hv (at_ s (2 * j)) = x) (hy : hv (at_ s (2 * j + 1)) = y) (h0 : 0 ≤ x) (h1 : 0 ≤ y) : ((byteAt s j).toNat : Int) = 16 * x + y := by
  have a := hv_range (at_ s (2 * j))
  have b := hv_range (at_ s (2 * j + 1))
  unfold byteAt
  rw [hx, hy]
  rw [hx] at a
  rw [hy] at b
  simp [UInt8.toNat_ofNat']
  omega

def DecDone (s : ByteArray) (w : World) (e : Ending) (w' : World) : Prop :=
  ((∀ j, j < s.size / 2 → okAt s j) → e = .returned (.tuple #[.string ⟨(decOf s (s.size / 2)).toArray⟩, .bool true])) ∧
  (¬ (∀ j, j < s.size / 2 → okAt s j) → e = .returned (.tuple #[.string ⟨#[]⟩, .bool false])) ∧ Below w.heap.size w w'

theorem ret_i64 {a b : Int} (h : a = b) : Ending.returned (.int .i64 a) = .returned (.int .i64 b) := by rw [h]

theorem value_is (c : UInt8) (x : Int) (h : hv c = x) (w : World) :
    Calls Try.prog 26 #[.int .u8 (c.toNat : Int)] w fun e w' => e = .returned (.int .i64 x) ∧ w = w' := by
  have hc : c.toNat < 256 := c.toNat_lt
  obtain ⟨n, hn⟩ : ∃ n : Int, (c.toNat : Int) = n := ⟨_, rfl⟩
  have H : Hid (x = if 48 ≤ n ∧ n ≤ 57 then n - 48 else if 97 ≤ n ∧ n ≤ 102 then n - 97 + 10 else -1) := by
    refine Lib.hid ?_
    rw [← h, ← hn]; unfold hv
    split <;> split <;> (try split) <;> (try split) <;> omega
  have hn0 : 0 ≤ n := by omega
  have hn1 : n ≤ 255 := by omega
  rw [hn]
  clear hn hc h
  by_cases h1 : 48 ≤ n ∧ n ≤ 57
  · obtain ⟨a1, a2⟩ := h1
    go_enter Try.func26, Try.ntmps26
    go_wp2
    go_ret
    exact ⟨ret_i64 (by rw [H.out, if_pos ⟨a1, a2⟩]), rfl⟩
  · by_cases h2 : 97 ≤ n ∧ n ≤ 102
    · obtain ⟨a1, a2⟩ := h2
      have a3 : 57 < n := by omega
      have H1 := Lib.hid h1; clear h1
      go_enter Try.func26, Try.ntmps26
      go_wp2
      go_ret
      exact ⟨ret_i64 (by rw [H.out, if_neg H1.out, if_pos ⟨a1, a2⟩]), rfl⟩
    · have H1 := Lib.hid h1; clear h1
      have H2 := Lib.hid h2; clear h2
      go_enter Try.func26, Try.ntmps26
      go_wp2
      all_goals first
        | (exfalso; have := H1.out; have := H2.out; omega)
        | (go_ret; exact ⟨ret_i64 (by rw [H.out, if_neg H1.out, if_neg H2.out]), rfl⟩)

theorem info5' : (Try.prog.info? 5).map (fun i => (i.zero, i.size, i.bytes)) = some (some (.int .u8 0), 1, 1) := by kernel_rfl

theorem spec_dec_no (s : ByteArray) (w : World) (hs : 40000 < s.size ∨ s.size % 2 ≠ 0) :
    Calls Try.prog 13 #[.string s] w fun e w' => e = .returned (.tuple #[.string ⟨#[]⟩, .bool false]) ∧ w = w' := by
  by_cases h1 : 40000 < s.size
  · have hle : (40000 : Int) < (s.size : Int) := by omega
    clear hs h1
    go_enter Try.func13, Try.ntmps13
    go_wp2
    go_ret2
    exact ⟨rfl, rfl⟩
  · have hle : ¬ (40000 : Int) < (s.size : Int) := by omega
    have hodd : ((s.size : Int) % 2 != 0) = true := by simp; omega
    clear hs h1
    go_enter Try.func13, Try.ntmps13
    go_wp2
    go_ret2
    exact ⟨rfl, rfl⟩

theorem spec_dec (s : ByteArray) (w : World) (hs : s.size ≤ 40000) (he : s.size % 2 = 0) :
    Calls Try.prog 13 #[.string s] w (DecDone s w) := by
  have hle : (s.size : Int) ≤ 40000 := by omega
  have hev : ((s.size : Int) % 2 != 0) = false := by simp; omega
  have HS := Lib.hid hs; clear hs
  have HE := Lib.hid he; clear he
  obtain ⟨i0, hi, hz0, hz1, hz2⟩ := info_parts info5'
  go_enter Try.func13, Try.ntmps13
  go_wp2
  go_loopw [4, 5] (fun v i wr => ∃ k n : Nat, n = 2 * k ∧ (n : Int) ≤ s.size ∧ i = .int .i64 n ∧ (∀ j, j < k → okAt s j) ∧ wr.ownsRow w.heap.size 5 1 v k (Lib.byteCells (decOf s k)) ∧ Below w.heap.size w wr) (fun _ i _ => s.size - (intOf i).toNat)
  case atStart => exact ⟨0, 0, rfl, by omega, rfl, fun j hj => by omega, World.ownsRow_lit w #[] 0 (Nat.le_refl _) (by unfold maxLen; omega) rfl, (Below.refl _ _).alloc (Nat.le_refl _) _⟩
  case round =>
    obtain ⟨k, n, hn, hk, rfl, hok, hown, hbel⟩ := hrel
    have HN := Lib.hid hn; clear hn
    have HOK := Lib.hid hok; clear hok
    have HO := Lib.hid hown; clear hown
    have HBel := Lib.hid hbel
    by_cases hlt : (n : Int) < s.size
    · have hlt1 : (n : Int) + 1 < s.size := by have := HE.out; have := HN.out; omega
      have hl0 : n < s.size := by omega
      have hl1 : n + 1 < s.size := by omega
      obtain ⟨x, hx⟩ : ∃ x, hv s[n] = x := ⟨_, rfl⟩
      obtain ⟨y, hy⟩ : ∃ y, hv s[n + 1] = y := ⟨_, rfl⟩
      have bx := hv_range s[n]
      have b_y := hv_range s[n + 1]
      rw [hx] at bx
      rw [hy] at b_y
      obtain ⟨bx0, bx1⟩ := bx
      obtain ⟨by0, by1⟩ := b_y
      have HX := Lib.hid hx; clear hx
      have HY := Lib.hid hy; clear hy
      have hsz : w.heap.size ≤ wr.heap.size := hbel.size
      have HSZ := Lib.hid hsz; clear hsz hbel
      have hk2 : k + 1 ≤ maxLen ∧ (k + 1) * 1 ≤ 140737488355328 := by have := HS.out; have := HN.out; unfold maxLen; omega
      have HK2 := Lib.hid hk2; clear hk2
      go_wp2_with fail
      refine (value_is s[n] x HX.out _).mono ?_; rintro e w' ⟨rfl, rfl⟩
      go_wp2_with fail
      refine (value_is s[n + 1] y HY.out _).mono ?_; rintro e w' ⟨rfl, rfl⟩
      by_cases hbad : x < 0 ∨ y < 0
      · have hn : ¬ (∀ j, j < s.size / 2 → okAt s j) := by
          intro h
          have h2 := h k (by have := HE.out; have := HN.out; omega)
          have e1 := HX.out
          have e2 := HY.out
          rw [at_eq s n hl0] at e1
          rw [at_eq s (n + 1) hl1] at e2
          rw [HN.out] at e1 e2
          unfold okAt at h2
          omega
        have HNo := Lib.hid hn; clear hn
        by_cases hx0 : x < 0
        · clear hbad
          go_wp2_with fail
          go_ret2
          exact ⟨fun h => absurd h HNo.out, fun _ => rfl, HBel.out⟩
        · have hy0 : y < 0 := by omega
          clear hbad
          go_wp2_with fail
          go_ret2
          exact ⟨fun h => absurd h HNo.out, fun _ => rfl, HBel.out⟩
      · have hx0 : 0 ≤ x := by omega
        have hy0 : 0 ≤ y := by omega
        clear hbad bx0 by0
        go_wp2_with (at_builtin; refine wpList_append_own _ rfl _ _ 22 rfl w.heap.size 5 i0 (.int .u8 0) 1 1 Try.underlying22 hi hz0 hz1 hz2 rfl (by decide) _ _ _ rfl (HO.out.alloc _) ⟨wr.heap.size, 0, none⟩ 1 1 [.int .u8 (16 * x + y)] rfl rfl (cell_one_new _ _ _) (fun x hx => by simp at hx; subst hx; rfl) HK2.out.1 HK2.out.2 (by have := HSZ.out; simp; omega) ?_; intro v' w3 hown' hgrow' _; have HO3 := Lib.hid hown'; clear hown'; have HG3 := Lib.hid hgrow'; clear hgrow')
        go_roundw
        case rel =>
          refine ⟨k + 1, n + 2, by have := HN.out; omega, by omega, by go_num, ?_, ?_, ?_⟩
          · intro j hj
            by_cases hjk : j < k
            · exact HOK.out j hjk
            · obtain rfl : j = k := by omega
              have e1 := HX.out
              have e2 := HY.out
              rw [at_eq s n hl0, HN.out] at e1
              rw [at_eq s (n + 1) hl1, HN.out] at e2
              exact ⟨by omega, by omega⟩
          · have h := HO3.out
            have e1 := HX.out
            have e2 := HY.out
            rw [at_eq s n hl0, HN.out] at e1
            rw [at_eq s (n + 1) hl1, HN.out] at e2
            rw [decOf_snoc, Lib.byteCells_append, show Lib.byteCells [byteAt s k] = [.int .u8 (16 * x + y)] by rw [← byteAt_val s k x y e1 e2 hx0 hy0]; rfl]
            exact h
          · exact (HBel.out.alloc HSZ.out _).grown HG3.out (by have := HSZ.out; simp; omega) (fun j hj => (HO.out.lt j hj).1)
        case measure => simp [intOf]; omega
    · have hkk : k = s.size / 2 := by have := HE.out; have := HN.out; omega
      have hcv := conv_own (P := Try.prog) (dst := 9) Try.underlying22 Try.underlying5 Try.underlying9 HO.out
      go_wp2_with fail
      go_ret2
      subst hkk
      exact ⟨fun _ => rfl, fun h => absurd HOK.out h, hbel⟩
end Go.Proofs.Ytnfcieilchbbbaa.Hex
