/- The model's EncodeHex, as a contract: the hexadecimal text of at most 20000 bytes; nothing of more. -/
import Derived.Test.YtnfcieilchbbbaaHex
namespace Go.Proofs.Ytnfcieilchbbbaa.Hex
open Go.ChangeShapes Go.WideShapes Go.ChangeAt Go.RowKit

theorem ret_u8 {a b : Int} (h : a = b) : Ending.returned (.int .u8 a) = .returned (.int .u8 b) := by rw [h]

theorem figure (m : Int) (x : UInt8) (h0 : 0 ≤ m) (h1 : m < 16) (hx : (x.toNat : Int) = if m < 10 then 48 + m else 87 + m) (w : World) :
    Calls Try.prog 25 #[.int .i64 m] w fun e w' => e = .returned (.int .u8 (x.toNat : Int)) ∧ w = w' := by
  have HX := Lib.hid hx; clear hx
  by_cases h : m < 10
  · have e : (x.toNat : Int) = 48 + m := by rw [HX.out, if_pos h]
    go_enter Try.func25, Try.ntmps25
    have HE := Lib.hid e; clear e
    go_wp2
    go_ret
    exact ⟨ret_u8 (by have := HE.out; omega), rfl⟩
  · have e : (x.toNat : Int) = 87 + m := by rw [HX.out, if_neg h]
    go_enter Try.func25, Try.ntmps25
    have HE := Lib.hid e; clear e
    go_wp2
    go_ret
    exact ⟨ret_u8 (by have := HE.out; omega), rfl⟩

def EncDone (s : ByteArray) (w : World) (e : Ending) (w' : World) : Prop :=
  e = .returned (.tuple #[.string ⟨(hexOf s.data.toList).toArray⟩, .bool true]) ∧ Below w.heap.size w w'

theorem info5 : (Try.prog.info? 5).map (fun i => (i.zero, i.size, i.bytes)) = some (some (.int .u8 0), 1, 1) := by kernel_rfl

theorem enc_step (s : ByteArray) (k : Nat) (h : k < s.size) :
    Lib.byteCells (hexOf (s.data.toList.take (k + 1))) = Lib.byteCells (hexOf (s.data.toList.take k)) ++ [.int .u8 ((dig (s[k].toNat / 16)).toNat : Int), .int .u8 ((dig (s[k].toNat % 16)).toNat : Int)] := by
  rw [take_snoc s k h, hexOf_append, Lib.byteCells_append]
  rfl

theorem spec_enc (s : ByteArray) (w : World) (hs : s.size ≤ 20000) :
    Calls Try.prog 11 #[.string s] w (EncDone s w) := by
  have hle : (s.size : Int) ≤ 20000 := by omega
  have HS := Lib.hid hs; clear hs
  obtain ⟨i0, hi, hz0, hz1, hz2⟩ := info_parts info5
  go_enter Try.func11, Try.ntmps11
  go_wp2
  go_loopw [4, 5] (fun v i wr => ∃ k : Nat, (k : Int) ≤ s.size ∧ i = .int .i64 k ∧ wr.ownsRow w.heap.size 5 1 v (2 * k) (Lib.byteCells (hexOf (s.data.toList.take k))) ∧ Below w.heap.size w wr) (fun _ i _ => s.size - (intOf i).toNat)
  case atStart => exact ⟨0, by omega, rfl, World.ownsRow_lit w #[] 0 (Nat.le_refl _) (by unfold maxLen; omega) rfl, (Below.refl _ _).alloc (Nat.le_refl _) _⟩
  case round =>
    obtain ⟨k, hk, rfl, hown, hbel⟩ := hrel
    have HO := Lib.hid hown; clear hown
    have HBel := Lib.hid hbel
    by_cases hlt : (k : Int) < s.size
    · have hlt' : k < s.size := by omega
      have hx : s[k].toNat < 256 := s[k].toNat_lt
      have e1 : IntKind.i64.wrap ((s[k].toNat : Nat) : Int) = ((s[k].toNat : Nat) : Int) := IntWalk.i64_in _ (by omega)
      have e2 : IntKind.i64.wrap (((s[k].toNat : Nat) : Int) / 16) = ((s[k].toNat : Nat) : Int) / 16 := IntWalk.i64_in _ (by omega)
      have et : ((s[k].toNat : Nat) : Int).tmod 16 = ((s[k].toNat : Nat) : Int) % 16 := Int.tmod_eq_emod_of_nonneg (by omega)
      have hd0 : 0 ≤ ((s[k].toNat : Nat) : Int) / 16 := by omega
      have hd1 : ((s[k].toNat : Nat) : Int) / 16 < 16 := by omega
      have hm0 : 0 ≤ ((s[k].toNat : Nat) : Int) % 16 := by omega
      have hm1 : ((s[k].toNat : Nat) : Int) % 16 < 16 := by omega
      have e3 : IntKind.i64.wrap (((s[k].toNat : Nat) : Int) % 16) = ((s[k].toNat : Nat) : Int) % 16 := IntWalk.i64_in _ (by omega)
      have d1 := dig_val (s[k].toNat / 16) (by omega)
      have d2 := dig_val (s[k].toNat % 16) (by omega)
      have D1 : Hid (((dig (s[k].toNat / 16)).toNat : Int) = if ((s[k].toNat : Nat) : Int) / 16 < 10 then 48 + ((s[k].toNat : Nat) : Int) / 16 else 87 + ((s[k].toNat : Nat) : Int) / 16) := Lib.hid (by simpa using d1)
      have D2 : Hid (((dig (s[k].toNat % 16)).toNat : Int) = if ((s[k].toNat : Nat) : Int) % 16 < 10 then 48 + ((s[k].toNat : Nat) : Int) % 16 else 87 + ((s[k].toNat : Nat) : Int) % 16) := Lib.hid (by simpa using d2)
      clear d1 d2
      have HX := Lib.hid hx; clear hx
      have hk2 : 2 * k + 2 ≤ maxLen ∧ (2 * k + 2) * 1 ≤ 140737488355328 := by have := HS.out; unfold maxLen; omega
      have HK2 := Lib.hid hk2; clear hk2
      have hsz : w.heap.size ≤ wr.heap.size := hbel.size
      have HSZ := Lib.hid hsz; clear hsz hbel
      go_wp2_with fail
      go_region_held3 (fun _ => True) (trivial)
        (first
          | (go_at_call 25; ((with_reducible refine (figure (((s[k].toNat : Nat) : Int) / 16) (dig (s[k].toNat / 16)) hd0 hd1 D1.out _).mono ?_); rintro e w' ⟨rfl, rfl⟩))
          | (go_at_call 25; ((with_reducible refine (figure (((s[k].toNat : Nat) : Int) % 16) (dig (s[k].toNat % 16)) hm0 hm1 D2.out _).mono ?_); rintro e w' ⟨rfl, rfl⟩))
          | (refine step_append_lies _ (by rfl) _ _ _ (by rfl) w.heap.size 5 i0 _ 1 1 Try.underlying22 hi hz0 hz1 hz2 rfl (by omega) _ _ _ (by rfl) ((HO.out.alloc _).drew) ⟨wr.heap.size, 0, none⟩ 2 2 [.int .u8 ((dig (s[k].toNat / 16)).toNat : Int), .int .u8 ((dig (s[k].toNat % 16)).toNat : Int)] (by rfl) (by rfl) (World.news_of_block (cs := #[.int .u8 ((dig (s[k].toNat / 16)).toNat : Int), .int .u8 ((dig (s[k].toNat % 16)).toNat : Int)]) (t := 5) (fr := (0, 0)) (heap_alloc_new wr _)) (by simp [Value.oneCell']) (by omega) HK2.out.1 HK2.out.2 (by have := HSZ.out; simp; omega) (wr.heap.size + 1) (by simp) ?_; intro gg cap w1 hown1 hgrow hat hlt2))
      clear e1 e2 e3 et hd0 hd1 hm0 hm1
      all_goals
        have HO1 := Lib.hid hown1; clear hown1
        have HG1 := Lib.hid hgrow; clear hgrow
        clear hat
      all_goals go_wp2_with fail
      all_goals
        go_roundw
        case rel =>
          refine ⟨k + 1, by omega, by go_num, ?_, ?_⟩
          · have h := HO1.out
            rw [enc_step s k hlt']
            exact h
          · exact ((HBel.out.alloc HSZ.out _).drew).grown HG1.out (by have := HSZ.out; simp; omega) (fun j hj => (HO.out.lt j hj).1)
        case measure => simp [intOf]; omega
    · have hkk : k = s.size := by omega
      subst hkk
      have hcv := conv_own (P := Try.prog) (dst := 9) Try.underlying22 Try.underlying5 Try.underlying9 HO.out
      rw [List.take_of_length_le (by simp)] at hcv
      go_wp2_with fail
      go_ret2
      exact ⟨rfl, hbel⟩

theorem spec_enc_no (s : ByteArray) (w : World) (hs : 20000 < s.size) :
    Calls Try.prog 11 #[.string s] w fun e w' => e = .returned (.tuple #[.string ⟨#[]⟩, .bool false]) ∧ w = w' := by
  have hle : 20000 < (s.size : Int) := by omega
  clear hs
  go_enter Try.func11, Try.ntmps11
  go_wp2
  go_ret2
  exact ⟨rfl, rfl⟩
end Go.Proofs.Ytnfcieilchbbbaa.Hex
