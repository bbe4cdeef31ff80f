/- The model's DrawSplitFields, as a contract: some text.
   Conditions: the bytes that are drawn from are at most 1048576. -/
import Derived.Test.YtnfcieilchbbbaaDoorDrawEnc
import Derived.Test.YtnfcieilchbbbaaDoorDec
namespace Go.Proofs.YtnfcieilchbbbaaDoor.Draw
open Go.ChangeShapes Go.WideShapes Go.ChangeAt Go.RowKit

def PickSome (B C : Nat) (a : Option Addr) (len cap : Nat) (most : Int) (w : World) (e : Ending) (w' : World) : Prop :=
  ∃ t : ByteArray, (t.size : Int) ≤ most ∧ e = .returned (.string t) ∧ Cur B w' C a len cap ∧ w.grownBy w' (some C)

theorem pick_text {B : Nat} {w : World} {C : Nat} {a : Option Addr} {len cap : Nat} {g m mc : Nat} (most : Int) (hm : 0 < m) (hm1 : (m : Int) ≤ 1000) (hg : g ≠ C)
    (hl : ∀ j, j < m → ∃ t : ByteArray, (t.size : Int) ≤ most ∧ w.cell? ⟨g, j, none⟩ = some (.string t)) (hC : Cur B w C a len cap) :
    Calls Tryd.prog 30 #[.pointer (some ⟨C, 0, none⟩), .slice (some ⟨g, 0, none⟩) m mc] w (PickSome B C a len cap most w) := by
  have HL := Lib.hid hl; clear hl
  have HM := Lib.hid hm; clear hm
  go_enter Tryd.func30, Tryd.ntmps30
  go_wp2_with fail
  refine (below_any m (by omega) hC).mono ?_; rintro e w1 ⟨x, hx0, hx1, rfl, hC1, hg1⟩
  have hx2 : x < m := by have := HM.out; omega
  obtain ⟨k, rfl⟩ := Int.eq_ofNat_of_zero_le hx0
  obtain ⟨t, ht, hv⟩ := HL.out k (by omega)
  have hv' : w1.cell? ⟨g, k, none⟩ = some (.string t) := hg1.cell hv (by simp; exact hg)
  have HX := Lib.hid hx1; clear hx1
  have HT := Lib.hid ht; clear ht
  clear hv
  go_wp2_with fail
  go_ret
  exact ⟨t, HT.out, rfl, hC1, hg1⟩
theorem cat_ok {a b : ByteArray} {p q : Int} (ha : (a.size : Int) ≤ p) (hb : (b.size : Int) ≤ q) (h : p + q ≤ 100000) : ¬ 9223372036854775807 < a.size + b.size := by omega
theorem cat_size (a b : ByteArray) : (a ++ b).size = a.size + b.size := ByteArray.size_append

set_option maxHeartbeats 1000000 in
theorem draw_split {B : Nat} {w : World} {a : Option Addr} {len cap : Nat} (hlen : len ≤ 1048576) (hy : Bytes B w a len) (hB : B ≤ w.heap.size) :
    Calls Tryd.prog 15 #[.slice a len cap] w (StrSome B 2000 w) := by
  have HY := Lib.hid hy; clear hy
  have HL := Lib.hid hlen; clear hlen
  have HB := Lib.hid hB; clear hB
  go_enter Tryd.func15, Tryd.ntmps15
  go_wp2_with fail
  refine (new_any HL.out HY.out HB.out).mono ?_; rintro e w1 ⟨rfl, hC1, hg1, hlt1⟩
  obtain ⟨C, hCe⟩ : ∃ C, C = w.heap.size := ⟨_, rfl⟩
  rw [← hCe] at hC1
  have HC := Lib.hid hCe
  rw [← hCe]
  clear hCe
  have HLT := Lib.hid hlt1; clear hlt1
  go_wp2_with fail
  refine (below_any 9 (by decide) hC1).mono ?_; rintro e w2 ⟨x, hx0, hx1, rfl, hC2, hg2⟩
  have HX := Lib.hid hx1; clear hx1
  go_wp2_with fail
  refine (once_any 15 (by decide) hC2).mono ?_; rintro e w3 ⟨bb, rfl, hC3, hg3⟩
  cases bb
  · obtain ⟨n, hn⟩ : ∃ n : Int, n = x := ⟨_, rfl⟩
    have hn0 : n ≤ 26 := by have := HX.out; omega
    rw [← hn]
    have hbel : Below B w w3 := below_of HB.out HC.out hg1 (grown_trans hg2 hg3)
    have HBel := Lib.hid hbel
    clear hC1 hC2 hg1 hg2 hg3 HX hx0 hn hbel x
    have HCur := Lib.hid hC3; clear hC3
    go_wp2_with fail
    go_loopw [5, 6] (fun s i wr => ∃ (k : Nat) (t : ByteArray), (k : Int) ≤ 26 ∧ i = .int .i64 k ∧ s = .string t ∧ (t.size : Int) ≤ 20 * (k : Int) ∧ Cur B wr C a len cap ∧ Hid (Below B w wr)) (fun _ i _ => (26 - intOf i).toNat)
    case atStart => exact ⟨0, ⟨#[]⟩, by omega, rfl, rfl, by show ((0 : Nat) : Int) ≤ _; omega, HCur.out, HBel⟩
    case round =>
      obtain ⟨k, t, hk, rfl, rfl, ht, hC5, HB5⟩ := hrel
      by_cases hlt : (k : Int) < n
      · by_cases hk0 : 0 < (k : Int)
        · go_wp2_with fail
          refine (below_any 2 (by decide) hC5).mono ?_; rintro e w4a ⟨y, hy0, hy1, rfl, hCa, hga⟩
          have hy2 : y ≤ 1 := by omega
          have HBa := Lib.hid (HB5.out.trans (grown_below hga hC5.lo (Nat.le_trans HB.out HB5.out.size)))
          clear hC5 hga hy1
          go_wp2_with fail
          refine (below_any 3 (by decide) hCa).mono ?_; rintro e w5a ⟨z, hz0, hz1, rfl, hCb, hgb⟩
          have hz2 : z ≤ 2 := by omega
          have HBb := Lib.hid (HBa.out.trans (grown_below hgb hCa.lo (Nat.le_trans HB.out HBa.out.size)))
          clear hCa hgb hz1
          have hyz0 : 0 ≤ y * z := Int.mul_nonneg hy0 hz0
          have hyz1 : y * z ≤ 2 := by
            have h := Int.mul_le_mul hy2 hz2 hz0 (by decide : (0 : Int) ≤ 1)
            omega
          have HCb := Lib.hid hCb; clear hCb
          go_wp2_with fail
          refine (long_any (1 + y * z) 32 (by omega) (by omega) (by decide) (by decide) _).mono ?_; rintro e w6 ⟨⟨v, hv, rfl⟩, hb6⟩
          have hts0 : ¬ 9223372036854775807 < t.size + v.size := cat_ok (p := 20 * (k : Int)) (q := 3) ht (by omega) (by omega)
          have HSZ : Hid (((t ++ v).size : Int) ≤ 20 * (k : Int) + 3 + ((0 : Nat) : Int)) := Lib.hid (by rw [cat_size]; omega)
          have HB6 := Lib.hid (HBb.out.trans (hb6.mono (Nat.le_trans HB.out HBb.out.size)))
          have HC6 := Lib.hid (HCb.out.kept (row := Option.none) ⟨hb6.os, hb6.tape, hb6.output, hb6.size, fun i hi _ => hb6.block i hi⟩ (by simp) (by simp))
          clear hv hb6 hyz0 hyz1 HCb
          go_wp2_with fail
          go_loopw [5, 7] (fun s q wx => ∃ (j : Nat) (u : ByteArray), (j : Int) ≤ 5 ∧ q = .int .i64 j ∧ s = .string u ∧ (u.size : Int) ≤ 20 * (k : Int) + 3 + (j : Int) ∧ Cur B wx C a len cap ∧ Hid (Below B w wx)) (fun _ q _ => (5 - intOf q).toNat)
          case atStart => exact ⟨0, _, by omega, rfl, rfl, HSZ.out, HC6.out, HB6⟩
          case round =>
            obtain ⟨j, u, hj, rfl, rfl, hu, hC7, HB7⟩ := hrel
            go_wp2_with fail
            refine (below_any 5 (by decide) hC7).mono ?_; rintro e w8 ⟨x, hx0, hx1, rfl, hC8, hg8⟩
            have HX8 := Lib.hid hx1; clear hx1
            have HB8 := Lib.hid (HB7.out.trans (grown_below hg8 hC7.lo (Nat.le_trans HB.out HB7.out.size)))
            clear hC7 hg8
            by_cases hjx : (j : Int) ≤ x
            · have hj5 : (j : Int) ≤ 4 := by have := HX8.out; omega
              go_wp2_with fail
              refine (below_any 94 (by decide) hC8).mono ?_; rintro e w9 ⟨y, hy0, hy1, rfl, hC9, hg9⟩
              have hy94 : y ≤ 94 := by omega
              have HB9 := Lib.hid (HB8.out.trans (grown_below hg9 hC8.lo (Nat.le_trans HB.out HB8.out.size)))
              clear hC8 hg9 hy1
              obtain ⟨b, hb⟩ := u8_back (33 + y) (by omega) (by omega)
              have hcv := Fmt.conv_val (33 + y) b hb w9
              clear hb
              have hts : ¬ 9223372036854775807 < u.size + 1 := by omega
              have HC9 := Lib.hid hC9; clear hC9
              go_wp2_with fail
              go_roundw
              case rel =>
                refine ⟨j + 1, u ++ ⟨#[b]⟩, by omega, by go_num, rfl, ?_, HC9.out.kept (World.grownBy_alloc w9 _ Option.none) (by simp) (by simp), Lib.hid (HB9.out.alloc (Nat.le_trans HB.out HB9.out.size) _)⟩
                rw [cat_size]
                show (((u.size + 1 : Nat)) : Int) ≤ _
                omega
              case measure => simp [intOf]; omega
            · have HC8 := Lib.hid hC8; clear hC8
              go_wp2_with fail
              go_roundw
              case rel => exact ⟨k + 1, u, by omega, by go_num, rfl, by omega, HC8.out, HB8⟩
              case measure => simp [intOf]; omega
        · go_wp2_with fail
          refine (once_any 5 (by decide) hC5).mono ?_; rintro e w5o ⟨bo, rfl, hCo, hgo⟩
          have HBo := Lib.hid (HB5.out.trans (grown_below hgo hC5.lo (Nat.le_trans HB.out HB5.out.size)))
          clear hC5 hgo HB5
          cases bo
          · have HSZ : Hid ((t.size : Int) ≤ 20 * (k : Int) + 3 + ((0 : Nat) : Int)) := Lib.hid (by omega)
            have HB6 := HBo
            have HC6 := Lib.hid hCo; clear hCo
            go_wp2_with fail
            go_loopw [5, 7] (fun s q wx => ∃ (j : Nat) (u : ByteArray), (j : Int) ≤ 5 ∧ q = .int .i64 j ∧ s = .string u ∧ (u.size : Int) ≤ 20 * (k : Int) + 3 + (j : Int) ∧ Cur B wx C a len cap ∧ Hid (Below B w wx)) (fun _ q _ => (5 - intOf q).toNat)
            case atStart => exact ⟨0, _, by omega, rfl, rfl, HSZ.out, HC6.out, HB6⟩
            case round =>
              obtain ⟨j, u, hj, rfl, rfl, hu, hC7, HB7⟩ := hrel
              go_wp2_with fail
              refine (below_any 5 (by decide) hC7).mono ?_; rintro e w8 ⟨x, hx0, hx1, rfl, hC8, hg8⟩
              have HX8 := Lib.hid hx1; clear hx1
              have HB8 := Lib.hid (HB7.out.trans (grown_below hg8 hC7.lo (Nat.le_trans HB.out HB7.out.size)))
              clear hC7 hg8
              by_cases hjx : (j : Int) ≤ x
              · have hj5 : (j : Int) ≤ 4 := by have := HX8.out; omega
                go_wp2_with fail
                refine (below_any 94 (by decide) hC8).mono ?_; rintro e w9 ⟨y, hy0, hy1, rfl, hC9, hg9⟩
                have hy94 : y ≤ 94 := by omega
                have HB9 := Lib.hid (HB8.out.trans (grown_below hg9 hC8.lo (Nat.le_trans HB.out HB8.out.size)))
                clear hC8 hg9 hy1
                obtain ⟨b, hb⟩ := u8_back (33 + y) (by omega) (by omega)
                have hcv := Fmt.conv_val (33 + y) b hb w9
                clear hb
                have hts : ¬ 9223372036854775807 < u.size + 1 := by omega
                have HC9 := Lib.hid hC9; clear hC9
                go_wp2_with fail
                go_roundw
                case rel =>
                  refine ⟨j + 1, u ++ ⟨#[b]⟩, by omega, by go_num, rfl, ?_, HC9.out.kept (World.grownBy_alloc w9 _ Option.none) (by simp) (by simp), Lib.hid (HB9.out.alloc (Nat.le_trans HB.out HB9.out.size) _)⟩
                  rw [cat_size]
                  show (((u.size + 1 : Nat)) : Int) ≤ _
                  omega
                case measure => simp [intOf]; omega
              · have HC8 := Lib.hid hC8; clear hC8
                go_wp2_with fail
                go_roundw
                case rel => exact ⟨k + 1, u, by omega, by go_num, rfl, by omega, HC8.out, HB8⟩
                case measure => simp [intOf]; omega
          · have HB5 := HBo
            have hC5 := hCo
            clear HBo hCo
            go_wp2_with fail
            refine (below_any 2 (by decide) hC5).mono ?_; rintro e w4a ⟨y, hy0, hy1, rfl, hCa, hga⟩
            have hy2 : y ≤ 1 := by omega
            have HBa := Lib.hid (HB5.out.trans (grown_below hga hC5.lo (Nat.le_trans HB.out HB5.out.size)))
            clear hC5 hga hy1
            go_wp2_with fail
            refine (below_any 3 (by decide) hCa).mono ?_; rintro e w5a ⟨z, hz0, hz1, rfl, hCb, hgb⟩
            have hz2 : z ≤ 2 := by omega
            have HBb := Lib.hid (HBa.out.trans (grown_below hgb hCa.lo (Nat.le_trans HB.out HBa.out.size)))
            clear hCa hgb hz1
            have hyz0 : 0 ≤ y * z := Int.mul_nonneg hy0 hz0
            have hyz1 : y * z ≤ 2 := by
              have h := Int.mul_le_mul hy2 hz2 hz0 (by decide : (0 : Int) ≤ 1)
              omega
            have HCb := Lib.hid hCb; clear hCb
            go_wp2_with fail
            refine (long_any (1 + y * z) 32 (by omega) (by omega) (by decide) (by decide) _).mono ?_; rintro e w6 ⟨⟨v, hv, rfl⟩, hb6⟩
            have hts0 : ¬ 9223372036854775807 < t.size + v.size := cat_ok (p := 20 * (k : Int)) (q := 3) ht (by omega) (by omega)
            have HSZ : Hid (((t ++ v).size : Int) ≤ 20 * (k : Int) + 3 + ((0 : Nat) : Int)) := Lib.hid (by rw [cat_size]; omega)
            have HB6 := Lib.hid (HBb.out.trans (hb6.mono (Nat.le_trans HB.out HBb.out.size)))
            have HC6 := Lib.hid (HCb.out.kept (row := Option.none) ⟨hb6.os, hb6.tape, hb6.output, hb6.size, fun i hi _ => hb6.block i hi⟩ (by simp) (by simp))
            clear hv hb6 hyz0 hyz1 HCb
            go_wp2_with fail
            go_loopw [5, 7] (fun s q wx => ∃ (j : Nat) (u : ByteArray), (j : Int) ≤ 5 ∧ q = .int .i64 j ∧ s = .string u ∧ (u.size : Int) ≤ 20 * (k : Int) + 3 + (j : Int) ∧ Cur B wx C a len cap ∧ Hid (Below B w wx)) (fun _ q _ => (5 - intOf q).toNat)
            case atStart => exact ⟨0, _, by omega, rfl, rfl, HSZ.out, HC6.out, HB6⟩
            case round =>
              obtain ⟨j, u, hj, rfl, rfl, hu, hC7, HB7⟩ := hrel
              go_wp2_with fail
              refine (below_any 5 (by decide) hC7).mono ?_; rintro e w8 ⟨x, hx0, hx1, rfl, hC8, hg8⟩
              have HX8 := Lib.hid hx1; clear hx1
              have HB8 := Lib.hid (HB7.out.trans (grown_below hg8 hC7.lo (Nat.le_trans HB.out HB7.out.size)))
              clear hC7 hg8
              by_cases hjx : (j : Int) ≤ x
              · have hj5 : (j : Int) ≤ 4 := by have := HX8.out; omega
                go_wp2_with fail
                refine (below_any 94 (by decide) hC8).mono ?_; rintro e w9 ⟨y, hy0, hy1, rfl, hC9, hg9⟩
                have hy94 : y ≤ 94 := by omega
                have HB9 := Lib.hid (HB8.out.trans (grown_below hg9 hC8.lo (Nat.le_trans HB.out HB8.out.size)))
                clear hC8 hg9 hy1
                obtain ⟨b, hb⟩ := u8_back (33 + y) (by omega) (by omega)
                have hcv := Fmt.conv_val (33 + y) b hb w9
                clear hb
                have hts : ¬ 9223372036854775807 < u.size + 1 := by omega
                have HC9 := Lib.hid hC9; clear hC9
                go_wp2_with fail
                go_roundw
                case rel =>
                  refine ⟨j + 1, u ++ ⟨#[b]⟩, by omega, by go_num, rfl, ?_, HC9.out.kept (World.grownBy_alloc w9 _ Option.none) (by simp) (by simp), Lib.hid (HB9.out.alloc (Nat.le_trans HB.out HB9.out.size) _)⟩
                  rw [cat_size]
                  show (((u.size + 1 : Nat)) : Int) ≤ _
                  omega
                case measure => simp [intOf]; omega
              · have HC8 := Lib.hid hC8; clear hC8
                go_wp2_with fail
                go_roundw
                case rel => exact ⟨k + 1, u, by omega, by go_num, rfl, by omega, HC8.out, HB8⟩
                case measure => simp [intOf]; omega
      · have HB6 := HB5
        clear HB5
        have ht6 : (t.size : Int) ≤ 520 := by omega
        clear ht
        go_wp2_with fail
        refine (below_any 12 (by decide) hC5).mono ?_; rintro e w7 ⟨z, hz0, hz1, rfl, hC7, hg7⟩
        have HZ := Lib.hid hz1; clear hz1
        have HB7 := Lib.hid (HB6.out.trans (grown_below hg7 hC5.lo (Nat.le_trans HB.out HB6.out.size)))
        clear hC5 hg7 HB6
        by_cases hzz : z = 0
        · subst hzz
          have hne7 : Hid (w7.heap.size ≠ C) := Lib.hid (by have := hC7.lt; omega)
          have HC7 := Lib.hid hC7; clear hC7
          go_wp2_with fail
          refine (pick_text (m := 6) 2 (by decide) (by decide) hne7.out ?_ (HC7.out.kept (World.grownBy_alloc w7 _ Option.none) (by simp) (by simp))).mono ?_
          · intro j hj
            match j, hj with
            | 0, _ => exact ⟨⟨#[32]⟩, by decide, by simp⟩
            | 1, _ => exact ⟨⟨#[32, 32]⟩, by decide, by simp⟩
            | 2, _ => exact ⟨⟨#[9]⟩, by decide, by simp⟩
            | 3, _ => exact ⟨⟨#[10]⟩, by decide, by simp⟩
            | 4, _ => exact ⟨⟨#[127]⟩, by decide, by simp⟩
            | 5, _ => exact ⟨⟨#[233]⟩, by decide, by simp⟩
          · rintro e w8 ⟨v, hv, rfl, hC8, hg8⟩
            have hts0 : ¬ 9223372036854775807 < t.size + v.size := cat_ok (p := 520) (q := 2) ht6 hv (by omega)
            have HSZ : Hid (((t ++ v).size : Int) ≤ 2000) := Lib.hid (by rw [cat_size]; omega)
            have HB8 := Lib.hid ((HB7.out.alloc (Nat.le_trans HB.out HB7.out.size) _).trans (grown_below hg8 HC7.out.lo (by have h := Nat.le_trans HB.out HB7.out.size; simp; omega)))
            clear hv hC8 hg8
            go_wp2_with fail
            go_ret
            exact ⟨_, HSZ.out, rfl, HB8.out⟩
        · by_cases hz1 : z = 1
          · subst hz1
            have hts : (t.size : Int) < 600 := by omega
            go_wp2_with fail
            refine (below_any 2 (by decide) hC7).mono ?_; rintro e w8 ⟨y, hy0, hy1, rfl, hC8, hg8⟩
            have hy2 : y ≤ 1 := by omega
            have HB8 := Lib.hid (HB7.out.trans (grown_below hg8 hC7.lo (Nat.le_trans HB.out HB7.out.size)))
            clear hC7 hg8 hy1
            go_wp2_with fail
            refine (long_any (600 - (t.size : Int) + y) 32 (by omega) (by omega) (by decide) (by decide) _).mono ?_; rintro e w9 ⟨⟨v, hv, rfl⟩, hb9⟩
            have hts0 : ¬ 9223372036854775807 < t.size + v.size := cat_ok (p := 520) (q := 601) ht6 (by omega) (by omega)
            have HSZ : Hid (((t ++ v).size : Int) ≤ 2000) := Lib.hid (by rw [cat_size]; omega)
            have HB9 := Lib.hid (HB8.out.trans (hb9.mono (Nat.le_trans HB.out HB8.out.size)))
            clear hv hb9
            go_wp2_with fail
            go_ret
            exact ⟨_, HSZ.out, rfl, HB9.out⟩
          · have hz0' : (z == 0) = false := by simp; omega
            have hz1' : (z == 1) = false := by simp; omega
            go_wp2_with fail
            go_ret
            exact ⟨t, by omega, rfl, HB7.out⟩
  · go_wp2_with fail
    refine (below_any 2 (by decide) hC3).mono ?_; rintro e w4 ⟨y, hy0, hy1, rfl, hC4, hg4⟩
    have HY1 := Lib.hid hy1; clear hy1
    have hy2 : y ≤ 2 := by have := HY1.out; omega
    obtain ⟨n, hn⟩ : ∃ n : Int, n = 24 + y := ⟨_, rfl⟩
    have hn0 : n ≤ 26 := by omega
    have hbel : Below B w w4 := below_of HB.out HC.out hg1 (grown_trans (grown_trans hg2 hg3) hg4)
    have HBel := Lib.hid hbel
    have HCur := Lib.hid hC4
    clear hC1 hC2 hC3 hC4 hg1 hg2 hg3 hg4 hbel HX hx0
    go_wp2_with fail
    rw [← hn]
    clear hn hy0 hy2
    go_loopw [5, 6] (fun s i wr => ∃ (k : Nat) (t : ByteArray), (k : Int) ≤ 26 ∧ i = .int .i64 k ∧ s = .string t ∧ (t.size : Int) ≤ 20 * (k : Int) ∧ Cur B wr C a len cap ∧ Hid (Below B w wr)) (fun _ i _ => (26 - intOf i).toNat)
    case atStart => exact ⟨0, ⟨#[]⟩, by omega, rfl, rfl, by show ((0 : Nat) : Int) ≤ _; omega, HCur.out, HBel⟩
    case round =>
      obtain ⟨k, t, hk, rfl, rfl, ht, hC5, HB5⟩ := hrel
      by_cases hlt : (k : Int) < n
      · by_cases hk0 : 0 < (k : Int)
        · go_wp2_with fail
          refine (below_any 2 (by decide) hC5).mono ?_; rintro e w4a ⟨y, hy0, hy1, rfl, hCa, hga⟩
          have hy2 : y ≤ 1 := by omega
          have HBa := Lib.hid (HB5.out.trans (grown_below hga hC5.lo (Nat.le_trans HB.out HB5.out.size)))
          clear hC5 hga hy1
          go_wp2_with fail
          refine (below_any 3 (by decide) hCa).mono ?_; rintro e w5a ⟨z, hz0, hz1, rfl, hCb, hgb⟩
          have hz2 : z ≤ 2 := by omega
          have HBb := Lib.hid (HBa.out.trans (grown_below hgb hCa.lo (Nat.le_trans HB.out HBa.out.size)))
          clear hCa hgb hz1
          have hyz0 : 0 ≤ y * z := Int.mul_nonneg hy0 hz0
          have hyz1 : y * z ≤ 2 := by
            have h := Int.mul_le_mul hy2 hz2 hz0 (by decide : (0 : Int) ≤ 1)
            omega
          have HCb := Lib.hid hCb; clear hCb
          go_wp2_with fail
          refine (long_any (1 + y * z) 32 (by omega) (by omega) (by decide) (by decide) _).mono ?_; rintro e w6 ⟨⟨v, hv, rfl⟩, hb6⟩
          have hts0 : ¬ 9223372036854775807 < t.size + v.size := cat_ok (p := 20 * (k : Int)) (q := 3) ht (by omega) (by omega)
          have HSZ : Hid (((t ++ v).size : Int) ≤ 20 * (k : Int) + 3 + ((0 : Nat) : Int)) := Lib.hid (by rw [cat_size]; omega)
          have HB6 := Lib.hid (HBb.out.trans (hb6.mono (Nat.le_trans HB.out HBb.out.size)))
          have HC6 := Lib.hid (HCb.out.kept (row := Option.none) ⟨hb6.os, hb6.tape, hb6.output, hb6.size, fun i hi _ => hb6.block i hi⟩ (by simp) (by simp))
          clear hv hb6 hyz0 hyz1 HCb
          go_wp2_with fail
          go_loopw [5, 7] (fun s q wx => ∃ (j : Nat) (u : ByteArray), (j : Int) ≤ 5 ∧ q = .int .i64 j ∧ s = .string u ∧ (u.size : Int) ≤ 20 * (k : Int) + 3 + (j : Int) ∧ Cur B wx C a len cap ∧ Hid (Below B w wx)) (fun _ q _ => (5 - intOf q).toNat)
          case atStart => exact ⟨0, _, by omega, rfl, rfl, HSZ.out, HC6.out, HB6⟩
          case round =>
            obtain ⟨j, u, hj, rfl, rfl, hu, hC7, HB7⟩ := hrel
            go_wp2_with fail
            refine (below_any 5 (by decide) hC7).mono ?_; rintro e w8 ⟨x, hx0, hx1, rfl, hC8, hg8⟩
            have HX8 := Lib.hid hx1; clear hx1
            have HB8 := Lib.hid (HB7.out.trans (grown_below hg8 hC7.lo (Nat.le_trans HB.out HB7.out.size)))
            clear hC7 hg8
            by_cases hjx : (j : Int) ≤ x
            · have hj5 : (j : Int) ≤ 4 := by have := HX8.out; omega
              go_wp2_with fail
              refine (below_any 94 (by decide) hC8).mono ?_; rintro e w9 ⟨y, hy0, hy1, rfl, hC9, hg9⟩
              have hy94 : y ≤ 94 := by omega
              have HB9 := Lib.hid (HB8.out.trans (grown_below hg9 hC8.lo (Nat.le_trans HB.out HB8.out.size)))
              clear hC8 hg9 hy1
              obtain ⟨b, hb⟩ := u8_back (33 + y) (by omega) (by omega)
              have hcv := Fmt.conv_val (33 + y) b hb w9
              clear hb
              have hts : ¬ 9223372036854775807 < u.size + 1 := by omega
              have HC9 := Lib.hid hC9; clear hC9
              go_wp2_with fail
              go_roundw
              case rel =>
                refine ⟨j + 1, u ++ ⟨#[b]⟩, by omega, by go_num, rfl, ?_, HC9.out.kept (World.grownBy_alloc w9 _ Option.none) (by simp) (by simp), Lib.hid (HB9.out.alloc (Nat.le_trans HB.out HB9.out.size) _)⟩
                rw [cat_size]
                show (((u.size + 1 : Nat)) : Int) ≤ _
                omega
              case measure => simp [intOf]; omega
            · have HC8 := Lib.hid hC8; clear hC8
              go_wp2_with fail
              go_roundw
              case rel => exact ⟨k + 1, u, by omega, by go_num, rfl, by omega, HC8.out, HB8⟩
              case measure => simp [intOf]; omega
        · go_wp2_with fail
          refine (once_any 5 (by decide) hC5).mono ?_; rintro e w5o ⟨bo, rfl, hCo, hgo⟩
          have HBo := Lib.hid (HB5.out.trans (grown_below hgo hC5.lo (Nat.le_trans HB.out HB5.out.size)))
          clear hC5 hgo HB5
          cases bo
          · have HSZ : Hid ((t.size : Int) ≤ 20 * (k : Int) + 3 + ((0 : Nat) : Int)) := Lib.hid (by omega)
            have HB6 := HBo
            have HC6 := Lib.hid hCo; clear hCo
            go_wp2_with fail
            go_loopw [5, 7] (fun s q wx => ∃ (j : Nat) (u : ByteArray), (j : Int) ≤ 5 ∧ q = .int .i64 j ∧ s = .string u ∧ (u.size : Int) ≤ 20 * (k : Int) + 3 + (j : Int) ∧ Cur B wx C a len cap ∧ Hid (Below B w wx)) (fun _ q _ => (5 - intOf q).toNat)
            case atStart => exact ⟨0, _, by omega, rfl, rfl, HSZ.out, HC6.out, HB6⟩
            case round =>
              obtain ⟨j, u, hj, rfl, rfl, hu, hC7, HB7⟩ := hrel
              go_wp2_with fail
              refine (below_any 5 (by decide) hC7).mono ?_; rintro e w8 ⟨x, hx0, hx1, rfl, hC8, hg8⟩
              have HX8 := Lib.hid hx1; clear hx1
              have HB8 := Lib.hid (HB7.out.trans (grown_below hg8 hC7.lo (Nat.le_trans HB.out HB7.out.size)))
              clear hC7 hg8
              by_cases hjx : (j : Int) ≤ x
              · have hj5 : (j : Int) ≤ 4 := by have := HX8.out; omega
                go_wp2_with fail
                refine (below_any 94 (by decide) hC8).mono ?_; rintro e w9 ⟨y, hy0, hy1, rfl, hC9, hg9⟩
                have hy94 : y ≤ 94 := by omega
                have HB9 := Lib.hid (HB8.out.trans (grown_below hg9 hC8.lo (Nat.le_trans HB.out HB8.out.size)))
                clear hC8 hg9 hy1
                obtain ⟨b, hb⟩ := u8_back (33 + y) (by omega) (by omega)
                have hcv := Fmt.conv_val (33 + y) b hb w9
                clear hb
                have hts : ¬ 9223372036854775807 < u.size + 1 := by omega
                have HC9 := Lib.hid hC9; clear hC9
                go_wp2_with fail
                go_roundw
                case rel =>
                  refine ⟨j + 1, u ++ ⟨#[b]⟩, by omega, by go_num, rfl, ?_, HC9.out.kept (World.grownBy_alloc w9 _ Option.none) (by simp) (by simp), Lib.hid (HB9.out.alloc (Nat.le_trans HB.out HB9.out.size) _)⟩
                  rw [cat_size]
                  show (((u.size + 1 : Nat)) : Int) ≤ _
                  omega
                case measure => simp [intOf]; omega
              · have HC8 := Lib.hid hC8; clear hC8
                go_wp2_with fail
                go_roundw
                case rel => exact ⟨k + 1, u, by omega, by go_num, rfl, by omega, HC8.out, HB8⟩
                case measure => simp [intOf]; omega
          · have HB5 := HBo
            have hC5 := hCo
            clear HBo hCo
            go_wp2_with fail
            refine (below_any 2 (by decide) hC5).mono ?_; rintro e w4a ⟨y, hy0, hy1, rfl, hCa, hga⟩
            have hy2 : y ≤ 1 := by omega
            have HBa := Lib.hid (HB5.out.trans (grown_below hga hC5.lo (Nat.le_trans HB.out HB5.out.size)))
            clear hC5 hga hy1
            go_wp2_with fail
            refine (below_any 3 (by decide) hCa).mono ?_; rintro e w5a ⟨z, hz0, hz1, rfl, hCb, hgb⟩
            have hz2 : z ≤ 2 := by omega
            have HBb := Lib.hid (HBa.out.trans (grown_below hgb hCa.lo (Nat.le_trans HB.out HBa.out.size)))
            clear hCa hgb hz1
            have hyz0 : 0 ≤ y * z := Int.mul_nonneg hy0 hz0
            have hyz1 : y * z ≤ 2 := by
              have h := Int.mul_le_mul hy2 hz2 hz0 (by decide : (0 : Int) ≤ 1)
              omega
            have HCb := Lib.hid hCb; clear hCb
            go_wp2_with fail
            refine (long_any (1 + y * z) 32 (by omega) (by omega) (by decide) (by decide) _).mono ?_; rintro e w6 ⟨⟨v, hv, rfl⟩, hb6⟩
            have hts0 : ¬ 9223372036854775807 < t.size + v.size := cat_ok (p := 20 * (k : Int)) (q := 3) ht (by omega) (by omega)
            have HSZ : Hid (((t ++ v).size : Int) ≤ 20 * (k : Int) + 3 + ((0 : Nat) : Int)) := Lib.hid (by rw [cat_size]; omega)
            have HB6 := Lib.hid (HBb.out.trans (hb6.mono (Nat.le_trans HB.out HBb.out.size)))
            have HC6 := Lib.hid (HCb.out.kept (row := Option.none) ⟨hb6.os, hb6.tape, hb6.output, hb6.size, fun i hi _ => hb6.block i hi⟩ (by simp) (by simp))
            clear hv hb6 hyz0 hyz1 HCb
            go_wp2_with fail
            go_loopw [5, 7] (fun s q wx => ∃ (j : Nat) (u : ByteArray), (j : Int) ≤ 5 ∧ q = .int .i64 j ∧ s = .string u ∧ (u.size : Int) ≤ 20 * (k : Int) + 3 + (j : Int) ∧ Cur B wx C a len cap ∧ Hid (Below B w wx)) (fun _ q _ => (5 - intOf q).toNat)
            case atStart => exact ⟨0, _, by omega, rfl, rfl, HSZ.out, HC6.out, HB6⟩
            case round =>
              obtain ⟨j, u, hj, rfl, rfl, hu, hC7, HB7⟩ := hrel
              go_wp2_with fail
              refine (below_any 5 (by decide) hC7).mono ?_; rintro e w8 ⟨x, hx0, hx1, rfl, hC8, hg8⟩
              have HX8 := Lib.hid hx1; clear hx1
              have HB8 := Lib.hid (HB7.out.trans (grown_below hg8 hC7.lo (Nat.le_trans HB.out HB7.out.size)))
              clear hC7 hg8
              by_cases hjx : (j : Int) ≤ x
              · have hj5 : (j : Int) ≤ 4 := by have := HX8.out; omega
                go_wp2_with fail
                refine (below_any 94 (by decide) hC8).mono ?_; rintro e w9 ⟨y, hy0, hy1, rfl, hC9, hg9⟩
                have hy94 : y ≤ 94 := by omega
                have HB9 := Lib.hid (HB8.out.trans (grown_below hg9 hC8.lo (Nat.le_trans HB.out HB8.out.size)))
                clear hC8 hg9 hy1
                obtain ⟨b, hb⟩ := u8_back (33 + y) (by omega) (by omega)
                have hcv := Fmt.conv_val (33 + y) b hb w9
                clear hb
                have hts : ¬ 9223372036854775807 < u.size + 1 := by omega
                have HC9 := Lib.hid hC9; clear hC9
                go_wp2_with fail
                go_roundw
                case rel =>
                  refine ⟨j + 1, u ++ ⟨#[b]⟩, by omega, by go_num, rfl, ?_, HC9.out.kept (World.grownBy_alloc w9 _ Option.none) (by simp) (by simp), Lib.hid (HB9.out.alloc (Nat.le_trans HB.out HB9.out.size) _)⟩
                  rw [cat_size]
                  show (((u.size + 1 : Nat)) : Int) ≤ _
                  omega
                case measure => simp [intOf]; omega
              · have HC8 := Lib.hid hC8; clear hC8
                go_wp2_with fail
                go_roundw
                case rel => exact ⟨k + 1, u, by omega, by go_num, rfl, by omega, HC8.out, HB8⟩
                case measure => simp [intOf]; omega
      · have HB6 := HB5
        clear HB5
        have ht6 : (t.size : Int) ≤ 520 := by omega
        clear ht
        go_wp2_with fail
        refine (below_any 12 (by decide) hC5).mono ?_; rintro e w7 ⟨z, hz0, hz1, rfl, hC7, hg7⟩
        have HZ := Lib.hid hz1; clear hz1
        have HB7 := Lib.hid (HB6.out.trans (grown_below hg7 hC5.lo (Nat.le_trans HB.out HB6.out.size)))
        clear hC5 hg7 HB6
        by_cases hzz : z = 0
        · subst hzz
          have hne7 : Hid (w7.heap.size ≠ C) := Lib.hid (by have := hC7.lt; omega)
          have HC7 := Lib.hid hC7; clear hC7
          go_wp2_with fail
          refine (pick_text (m := 6) 2 (by decide) (by decide) hne7.out ?_ (HC7.out.kept (World.grownBy_alloc w7 _ Option.none) (by simp) (by simp))).mono ?_
          · intro j hj
            match j, hj with
            | 0, _ => exact ⟨⟨#[32]⟩, by decide, by simp⟩
            | 1, _ => exact ⟨⟨#[32, 32]⟩, by decide, by simp⟩
            | 2, _ => exact ⟨⟨#[9]⟩, by decide, by simp⟩
            | 3, _ => exact ⟨⟨#[10]⟩, by decide, by simp⟩
            | 4, _ => exact ⟨⟨#[127]⟩, by decide, by simp⟩
            | 5, _ => exact ⟨⟨#[233]⟩, by decide, by simp⟩
          · rintro e w8 ⟨v, hv, rfl, hC8, hg8⟩
            have hts0 : ¬ 9223372036854775807 < t.size + v.size := cat_ok (p := 520) (q := 2) ht6 hv (by omega)
            have HSZ : Hid (((t ++ v).size : Int) ≤ 2000) := Lib.hid (by rw [cat_size]; omega)
            have HB8 := Lib.hid ((HB7.out.alloc (Nat.le_trans HB.out HB7.out.size) _).trans (grown_below hg8 HC7.out.lo (by have h := Nat.le_trans HB.out HB7.out.size; simp; omega)))
            clear hv hC8 hg8
            go_wp2_with fail
            go_ret
            exact ⟨_, HSZ.out, rfl, HB8.out⟩
        · by_cases hz1 : z = 1
          · subst hz1
            have hts : (t.size : Int) < 600 := by omega
            go_wp2_with fail
            refine (below_any 2 (by decide) hC7).mono ?_; rintro e w8 ⟨y, hy0, hy1, rfl, hC8, hg8⟩
            have hy2 : y ≤ 1 := by omega
            have HB8 := Lib.hid (HB7.out.trans (grown_below hg8 hC7.lo (Nat.le_trans HB.out HB7.out.size)))
            clear hC7 hg8 hy1
            go_wp2_with fail
            refine (long_any (600 - (t.size : Int) + y) 32 (by omega) (by omega) (by decide) (by decide) _).mono ?_; rintro e w9 ⟨⟨v, hv, rfl⟩, hb9⟩
            have hts0 : ¬ 9223372036854775807 < t.size + v.size := cat_ok (p := 520) (q := 601) ht6 (by omega) (by omega)
            have HSZ : Hid (((t ++ v).size : Int) ≤ 2000) := Lib.hid (by rw [cat_size]; omega)
            have HB9 := Lib.hid (HB8.out.trans (hb9.mono (Nat.le_trans HB.out HB8.out.size)))
            clear hv hb9
            go_wp2_with fail
            go_ret
            exact ⟨_, HSZ.out, rfl, HB9.out⟩
          · have hz0' : (z == 0) = false := by simp; omega
            have hz1' : (z == 1) = false := by simp; omega
            go_wp2_with fail
            go_ret
            exact ⟨t, by omega, rfl, HB7.out⟩
end Go.Proofs.YtnfcieilchbbbaaDoor.Draw
