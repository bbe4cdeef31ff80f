/- The program's DecodeHex, as a contract: where every pair of characters is a pair of digits, the bytes; else nothing. Up to 40000 characters, an even number; else nothing. -/
import Derived.Test.YtnfcieilchbbbaaDoorDecBase
namespace Go.Proofs.YtnfcieilchbbbaaDoor.Hex
open Go.ChangeShapes Go.WideShapes Go.ChangeAt Go.RowKit

theorem or_is (x y : Int) (h0 : 0 ≤ x) (h1 : x ≤ 15) (h2 : 0 ≤ y) (h3 : y ≤ 15) : bits .or .i64 (x * 16) y = 16 * x + y := by
  have h := bits_join .i64 62 (by decide) (fun n a b => IntWalk.i64_in n ⟨by omega, by omega⟩) 4 (x * 16) y (by omega) (by omega) (by omega) h2 (by omega) (by omega)
  rw [h]; omega

theorem hv_table : (List.range 256).all (fun n => decide (Lib.indexByte [48, 49, 50, 51, 52, 53, 54, 55, 56, 57, 97, 98, 99, 100, 101, 102] n.toUInt8 = hv n.toUInt8)) = true := by decide +kernel
theorem hv_index (c : UInt8) : Lib.indexByte [48, 49, 50, 51, 52, 53, 54, 55, 56, 57, 97, 98, 99, 100, 101, 102] c = hv c := by
  have h := List.all_eq_true.1 hv_table c.toNat (List.mem_range.2 c.toNat_lt)
  have e : c.toNat.toUInt8 = c := by simp
  rw [e] at h
  exact of_decide_eq_true h

theorem index_is (c : UInt8) (x : Int) (h : hv c = x) (w : World) :
    Calls Tryd.prog 27 #[.string ⟨#[48, 49, 50, 51, 52, 53, 54, 55, 56, 57, 97, 98, 99, 100, 101, 102]⟩, .int .u8 (c.toNat : Int)] w fun e w' => e = .returned (.int .i64 x) ∧ w = w' := by
  have hr := Lib.run_indexByteString (P := Tryd.prog) ⟨#[48, 49, 50, 51, 52, 53, 54, 55, 56, 57, 97, 98, 99, 100, 101, 102]⟩ (c.toNat : Int) w
  have e : ((c.toNat : Int)).toNat.toUInt8 = c := by simp
  rw [e, show (⟨#[48, 49, 50, 51, 52, 53, 54, 55, 56, 57, 97, 98, 99, 100, 101, 102]⟩ : ByteArray).data.toList = [48, 49, 50, 51, 52, 53, 54, 55, 56, 57, 97, 98, 99, 100, 101, 102] from rfl, hv_index, h] at hr
  go_enter Tryd.func27, Tryd.ntmps27
  go_wp2
  rw [run_callFunc_extern Tryd.func41 (by kernel_rfl) (by kernel_rfl) (by kernel_rfl) (e := Extern.BytealgIndexByte.indexByte) (by kernel_rfl), hr]
  simp only [Result.andThen]
  rw [Oper.upon_value]
  go_wp2
  go_ret
  exact ⟨rfl, rfl⟩

theorem impl_dec_no (s : ByteArray) (w : World) (hs : 40000 < s.size ∨ s.size % 2 ≠ 0) :
    Calls Tryd.prog 12 #[.string s] w fun e w' => e = .returned (.tuple #[.string ⟨#[]⟩, .bool false]) ∧ w = w' := by
  by_cases h1 : s.size % 2 ≠ 0
  · have hodd : ((s.size : Int) % 2 != 0) = true := by simp; omega
    clear hs h1
    go_enter Tryd.func12, Tryd.ntmps12
    go_wp2
    go_ret2
    exact ⟨rfl, rfl⟩
  · have hle : (40000 : Int) < (s.size : Int) := by omega
    have hev : ((s.size : Int) % 2 != 0) = false := by simp; omega
    clear hs h1
    go_enter Tryd.func12, Tryd.ntmps12
    go_wp2
    go_ret2
    exact ⟨rfl, rfl⟩

theorem impl_dec (s : ByteArray) (w : World) (hs : s.size ≤ 40000) (he : s.size % 2 = 0) :
    Calls Tryd.prog 12 #[.string s] w (DecDone s w) := by
  have hle : (s.size : Int) ≤ 40000 := by omega
  have hev : ((s.size : Int) % 2 != 0) = false := by simp; omega
  have HS := Lib.hid hs; clear hs
  have HE := Lib.hid he; clear he
  obtain ⟨i0, hi, hz0, hz1, hz2⟩ := info_parts info5'
  go_enter Tryd.func12, Tryd.ntmps12
  go_wp2_with (at_make; refine wpList_make_own _ rfl _ _ 22 rfl w.heap.size 5 i0 (.int .u8 0) 1 Tryd.underlying22 hi hz0 hz1 .i64 .i64 _ (s.size / 2) rfl rfl (by simp) (by rw [hz2]; have := HS.out; omega) (by have := HS.out; unfold maxLen; omega) (Nat.le_refl _) ?_; intro w0 hown0 hgrow0; have HO0 := Lib.hid hown0; clear hown0; have HG0 := Lib.hid hgrow0; clear hgrow0)
  go_loopw [4, 5] (fun v i wr => ∃ k n : Nat, n = 2 * k ∧ (n : Int) ≤ s.size ∧ i = .int .i64 n ∧ (∀ j, j < k → okAt s j) ∧ wr.ownsRow w.heap.size 5 1 v k (Lib.byteCells (decOf s k)) ∧ Below w.heap.size w wr) (fun _ i _ => s.size - (intOf i).toNat)
  case atStart => exact ⟨0, 0, rfl, by omega, rfl, fun j hj => by omega, HO0.out, (Below.refl _ _).grown HG0.out (Nat.le_refl _) (fun _ e => by cases e)⟩
  case round =>
    obtain ⟨k, n, hn, hk, rfl, hok, hown, hbel⟩ := hrel
    have HN := Lib.hid hn; clear hn
    have HOK := Lib.hid hok; clear hok
    have HO := Lib.hid hown; clear hown
    have HBel := Lib.hid hbel
    by_cases hlt : (n : Int) < s.size
    · have hlt1 : (n : Int) + 1 < s.size := by have := HE.out; have := HN.out; omega
      have hl0 : n < s.size := by omega
      have hl1 : n + 1 < s.size := by omega
      obtain ⟨x, hx⟩ : ∃ x, hv s[n] = x := ⟨_, rfl⟩
      obtain ⟨y, hy⟩ : ∃ y, hv s[n + 1] = y := ⟨_, rfl⟩
      have bx := hv_range s[n]
      have b_y := hv_range s[n + 1]
      rw [hx] at bx
      rw [hy] at b_y
      obtain ⟨bx0, bx1⟩ := bx
      obtain ⟨by0, by1⟩ := b_y
      have HX := Lib.hid hx; clear hx
      have HY := Lib.hid hy; clear hy
      have hsz : w.heap.size ≤ wr.heap.size := hbel.size
      have HSZ := Lib.hid hsz; clear hsz hbel
      have hk2 : k + 1 ≤ maxLen ∧ (k + 1) * 1 ≤ 140737488355328 := by have := HS.out; have := HN.out; unfold maxLen; omega
      have HK2 := Lib.hid hk2; clear hk2
      go_wp2_with fail
      refine (index_is s[n] x HX.out _).mono ?_; rintro e w' ⟨rfl, rfl⟩
      go_wp2_with fail
      refine (index_is s[n + 1] y HY.out _).mono ?_; rintro e w' ⟨rfl, rfl⟩
      by_cases hbad : x < 0 ∨ y < 0
      · have hn : ¬ (∀ j, j < s.size / 2 → okAt s j) := by
          intro h
          have h2 := h k (by have := HE.out; have := HN.out; omega)
          have e1 := HX.out
          have e2 := HY.out
          rw [at_eq s n hl0] at e1
          rw [at_eq s (n + 1) hl1] at e2
          rw [HN.out] at e1 e2
          unfold okAt at h2
          omega
        have HNo := Lib.hid hn; clear hn
        by_cases hx0 : x < 0
        · clear hbad
          go_wp2_with fail
          go_ret2
          exact ⟨fun h => absurd h HNo.out, fun _ => rfl, HBel.out⟩
        · have hy0 : y < 0 := by omega
          clear hbad
          go_wp2_with fail
          go_ret2
          exact ⟨fun h => absurd h HNo.out, fun _ => rfl, HBel.out⟩
      · have hx0 : 0 ≤ x := by omega
        have hy0 : 0 ≤ y := by omega
        have eor := or_is x y hx0 bx1 hy0 by1
        clear hbad bx0 by0
        go_wp2_with (at_builtin; refine wpList_append_own _ rfl _ _ 22 rfl w.heap.size 5 i0 (.int .u8 0) 1 1 Tryd.underlying22 hi hz0 hz1 hz2 rfl (by decide) _ _ _ rfl (HO.out.alloc _) ⟨wr.heap.size, 0, none⟩ 1 1 [.int .u8 (16 * x + y)] rfl rfl (cell_one_new _ _ _) (fun x hx => by simp at hx; subst hx; rfl) HK2.out.1 HK2.out.2 (by have := HSZ.out; simp; omega) ?_; intro v' w3 hown' hgrow' _; have HO3 := Lib.hid hown'; clear hown'; have HG3 := Lib.hid hgrow'; clear hgrow')
        go_roundw
        case rel =>
          refine ⟨k + 1, n + 2, by have := HN.out; omega, by omega, by go_num, ?_, ?_, ?_⟩
          · intro j hj
            by_cases hjk : j < k
            · exact HOK.out j hjk
            · obtain rfl : j = k := by omega
              have e1 := HX.out
              have e2 := HY.out
              rw [at_eq s n hl0, HN.out] at e1
              rw [at_eq s (n + 1) hl1, HN.out] at e2
              exact ⟨by omega, by omega⟩
          · have h := HO3.out
            have e1 := HX.out
            have e2 := HY.out
            rw [at_eq s n hl0, HN.out] at e1
            rw [at_eq s (n + 1) hl1, HN.out] at e2
            rw [decOf_snoc, Lib.byteCells_append, show Lib.byteCells [byteAt s k] = [.int .u8 (16 * x + y)] by rw [← byteAt_val s k x y e1 e2 hx0 hy0]; rfl]
            exact h
          · exact (HBel.out.alloc HSZ.out _).grown HG3.out (by have := HSZ.out; simp; omega) (fun j hj => (HO.out.lt j hj).1)
        case measure => simp [intOf]; omega
    · have hkk : k = s.size / 2 := by have := HE.out; have := HN.out; omega
      have hcv := conv_own (P := Tryd.prog) (dst := 9) Tryd.underlying22 Tryd.underlying5 Tryd.underlying9 HO.out
      go_wp2_with fail
      go_ret2
      subst hkk
      exact ⟨fun _ => rfl, fun h => absurd HOK.out h, hbel⟩
end Go.Proofs.YtnfcieilchbbbaaDoor.Hex
