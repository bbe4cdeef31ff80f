/- The program's EncodeHex, as a contract: the hexadecimal text of at most 20000 bytes; nothing of more. -/
import Derived.Test.YtnfcieilchbbbaaDoorHexDig
namespace Go.Proofs.YtnfcieilchbbbaaDoor.Hex
open Go.ChangeShapes Go.WideShapes Go.ChangeAt Go.RowKit

theorem digits_at : ∀ (n m : Nat) (_ : m = n) (hb : m < (⟨#[48, 49, 50, 51, 52, 53, 54, 55, 56, 57, 97, 98, 99, 100, 101, 102]⟩ : ByteArray).size), ((⟨#[48, 49, 50, 51, 52, 53, 54, 55, 56, 57, 97, 98, 99, 100, 101, 102]⟩ : ByteArray)[m]'hb).toNat = (dig n).toNat
  | 0, _, h, _ => by subst h; rfl
  | 1, _, h, _ => by subst h; rfl
  | 2, _, h, _ => by subst h; rfl
  | 3, _, h, _ => by subst h; rfl
  | 4, _, h, _ => by subst h; rfl
  | 5, _, h, _ => by subst h; rfl
  | 6, _, h, _ => by subst h; rfl
  | 7, _, h, _ => by subst h; rfl
  | 8, _, h, _ => by subst h; rfl
  | 9, _, h, _ => by subst h; rfl
  | 10, _, h, _ => by subst h; rfl
  | 11, _, h, _ => by subst h; rfl
  | 12, _, h, _ => by subst h; rfl
  | 13, _, h, _ => by subst h; rfl
  | 14, _, h, _ => by subst h; rfl
  | 15, _, h, _ => by subst h; rfl
  | n + 16, m, h, hb => absurd hb (by subst h; simp [ByteArray.size])

theorem impl_enc_no (s : ByteArray) (w : World) (hs : 20000 < s.size) :
    Calls Tryd.prog 10 #[.string s] w fun e w' => e = .returned (.tuple #[.string ⟨#[]⟩, .bool false]) ∧ w = w' := by
  have hle : 20000 < (s.size : Int) := by omega
  clear hs
  go_enter Tryd.func10, Tryd.ntmps10
  go_wp2
  go_ret2
  exact ⟨rfl, rfl⟩

theorem impl_enc (s : ByteArray) (w : World) (hs : s.size ≤ 20000) :
    Calls Tryd.prog 10 #[.string s] w (EncDone s w) := by
  have hle : (s.size : Int) ≤ 20000 := by omega
  have HS := Lib.hid hs; clear hs
  obtain ⟨i0, hi, hz0, hz1, hz2⟩ := info_parts info5
  go_enter Tryd.func10, Tryd.ntmps10
  go_wp2_with (at_make; refine wpList_make_own _ rfl _ _ 22 rfl w.heap.size 5 i0 (.int .u8 0) 1 Tryd.underlying22 hi hz0 hz1 .i64 .i64 _ (2 * s.size) rfl rfl (by simp) (by rw [hz2]; have := HS.out; omega) (by have := HS.out; unfold maxLen; omega) (Nat.le_refl _) ?_; intro w0 hown0 hgrow0; have HO0 := Lib.hid hown0; clear hown0; have HG0 := Lib.hid hgrow0; clear hgrow0)
  go_loopw [4, 5] (fun v i wr => ∃ k : Nat, (k : Int) ≤ s.size ∧ i = .int .i64 k ∧ wr.ownsRow w.heap.size 5 1 v (2 * k) (Lib.byteCells (hexOf (s.data.toList.take k))) ∧ Below w.heap.size w wr) (fun _ i _ => s.size - (intOf i).toNat)
  case atStart => exact ⟨0, by omega, rfl, HO0.out, (Below.refl _ _).grown HG0.out (Nat.le_refl _) (fun _ e => by cases e)⟩
  case round =>
    obtain ⟨k, hk, rfl, hown, hbel⟩ := hrel
    have HO := Lib.hid hown; clear hown
    have HBel := Lib.hid hbel
    by_cases hlt : (k : Int) < s.size
    · have hlt' : k < s.size := by omega
      have hx : s[k].toNat < 256 := s[k].toNat_lt
      have hd0 : 0 ≤ ((s[k].toNat : Nat) : Int) / 16 := by omega
      have hd1 : ((s[k].toNat : Nat) : Int) / 16 < 16 := by omega
      have hm0 : 0 ≤ ((s[k].toNat : Nat) : Int) % 16 := by omega
      have hm1 : ((s[k].toNat : Nat) : Int) % 16 < 16 := by omega
      have e3 : bits .and .u8 ((s[k].toNat : Nat) : Int) 15 = ((s[k].toNat : Nat) : Int) % 16 := u8_and15 _ (by omega) (by omega)
      have r1 := digits_at (s[k].toNat / 16) (((s[k].toNat : Nat) : Int) / 16).toNat (by omega)
      have r2 := digits_at (s[k].toNat % 16) (((s[k].toNat : Nat) : Int) % 16).toNat (by omega)
      have HX := Lib.hid hx; clear hx
      have hk2 : 2 * k + 2 ≤ maxLen ∧ (2 * k + 2) * 1 ≤ 140737488355328 := by have := HS.out; unfold maxLen; omega
      have HK2 := Lib.hid hk2; clear hk2
      have hsz : w.heap.size ≤ wr.heap.size := hbel.size
      have HSZ := Lib.hid hsz; clear hsz hbel
      go_wp2_with fail
      go_region_held3 (fun _ => True) (trivial)
        ((refine step_append_lies _ (by rfl) _ _ _ (by rfl) w.heap.size 5 i0 _ 1 1 Tryd.underlying22 hi hz0 hz1 hz2 rfl (by omega) _ _ _ (by rfl) ((HO.out.alloc _).drew) ⟨wr.heap.size, 0, none⟩ 2 2 [.int .u8 ((dig (s[k].toNat / 16)).toNat : Int), .int .u8 ((dig (s[k].toNat % 16)).toNat : Int)] (by rfl) (by rfl) (World.news_of_block (cs := #[.int .u8 ((dig (s[k].toNat / 16)).toNat : Int), .int .u8 ((dig (s[k].toNat % 16)).toNat : Int)]) (t := 5) (fr := (0, 0)) (heap_alloc_new wr _)) (by simp [Value.oneCell']) (by omega) HK2.out.1 HK2.out.2 (by have := HSZ.out; simp; omega) (wr.heap.size + 1) (by simp) ?_; intro gg cap w1 hown1 hgrow hat hlt2))
      clear r1 r2 e3 hd0 hd1 hm0 hm1
      all_goals
        have HO1 := Lib.hid hown1; clear hown1
        have HG1 := Lib.hid hgrow; clear hgrow
        clear hat
      all_goals go_wp2_with fail
      all_goals
        go_roundw
        case rel =>
          refine ⟨k + 1, by omega, by go_num, ?_, ?_⟩
          · have h := HO1.out
            rw [enc_step s k hlt']
            exact h
          · exact ((HBel.out.alloc HSZ.out _).drew).grown HG1.out (by have := HSZ.out; simp; omega) (fun j hj => (HO.out.lt j hj).1)
        case measure => simp [intOf]; omega
    · have hkk : k = s.size := by omega
      subst hkk
      have hcv := conv_own (P := Tryd.prog) (dst := 9) Tryd.underlying22 Tryd.underlying5 Tryd.underlying9 HO.out
      rw [List.take_of_length_le (by simp)] at hcv
      go_wp2_with fail
      go_ret2
      exact ⟨rfl, hbel⟩
end Go.Proofs.YtnfcieilchbbbaaDoor.Hex
