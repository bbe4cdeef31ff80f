/- The drawing functions of the reference model that answer a text (l01Text, l01Long), as contracts: how long it is at most; and they write their own cursor alone.
   Conditions: the cursor is one that l01New has made in the same call. -/
import Derived.Test.YtnfcieilchbbbaaDoorDraw
import Derived.Test.YtnfcieilchbbbaaDoorHex
namespace Go.Proofs.YtnfcieilchbbbaaDoor.Draw
open Go.ChangeShapes Go.WideShapes Go.ChangeAt Go.RowKit

def TextSome (B C : Nat) (a : Option Addr) (len cap : Nat) (most : Int) (w : World) (e : Ending) (w' : World) : Prop :=
  ∃ s : ByteArray, (s.size : Int) ≤ most ∧ e = .returned (.string s) ∧ Cur B w' C a len cap ∧ Below B w w'

theorem infoU8 : (Tryd.prog.info? 5).map (fun i => (i.zero, i.size, i.bytes)) = some (some (.int .u8 0), 1, 1) := by kernel_rfl

theorem u8_back (x : Int) (h0 : 0 ≤ x) (h1 : x ≤ 255) : ∃ b : UInt8, (b.toNat : Int) = x := ⟨UInt8.ofNat x.toNat, by simp [UInt8.toNat_ofNat']; omega⟩

theorem text_any {B : Nat} {w : World} {C : Nat} {a : Option Addr} {len cap : Nat} (n : Int) (h0 : 0 ≤ n) (h1 : n ≤ 5000) (hC : Cur B w C a len cap) (hB : B ≤ w.heap.size) :
    Calls Tryd.prog 25 #[.pointer (some ⟨C, 0, none⟩), .int .i64 n] w (TextSome B C a len cap n w) := by
  have hlt := hC.lt
  have HLT := Lib.hid hlt; clear hlt
  have HB := Lib.hid hB; clear hB
  obtain ⟨i0, hi, hz0, hz1, hz2⟩ := info_parts infoU8
  go_enter Tryd.func25, Tryd.ntmps25
  go_wp2
  go_loopw [5, 6] (fun v i wr => ∃ k : Nat, (k : Int) ≤ n ∧ i = .int .i64 k ∧ (∃ l : List UInt8, wr.ownsRow w.heap.size 5 1 v k (Lib.byteCells l)) ∧ Cur B wr C a len cap ∧ Below B w wr) (fun _ i _ => (n - intOf i).toNat)
  case atStart => exact ⟨0, by omega, rfl, ⟨[], World.ownsRow_lit w #[] 0 (Nat.le_refl _) (by unfold maxLen; omega) rfl⟩, hC.kept (World.grownBy_alloc w _ Option.none) (by simp) (by simp), (Below.refl _ _).alloc HB.out _⟩
  case round =>
    obtain ⟨k, hk, rfl, ⟨l, hown⟩, hC1, hbel⟩ := hrel
    have HO := Lib.hid hown; clear hown
    have HBel := Lib.hid hbel; clear hbel
    by_cases hlt : (k : Int) < n
    · go_wp2_with fail
      refine (byte_any hC1).mono ?_; rintro e w1 ⟨x, hx0, hx1, rfl, hC2, hg1⟩
      have HO1 := Lib.hid (HO.out.kept hg1 (.inr (fun e => by have h := (HO.out.lt C e).1; have := HLT.out; omega)))
      have HBel1 := Lib.hid (HBel.out.trans (grown_below hg1 hC1.lo (Nat.le_trans HB.out (HBel.out.size))))
      clear hC1 hg1
      have hsz : w.heap.size ≤ w1.heap.size := HBel1.out.size
      have HSZ := Lib.hid hsz; clear hsz
      have HC2 := Lib.hid hC2; clear hC2
      have hk2 : k + 1 ≤ maxLen ∧ (k + 1) * 1 ≤ 140737488355328 := by unfold maxLen; omega
      have HK2 := Lib.hid hk2; clear hk2
      go_wp2_with (at_builtin; refine wpList_append_own _ rfl _ _ 22 rfl w.heap.size 5 i0 (.int .u8 0) 1 1 Tryd.underlying22 hi hz0 hz1 hz2 rfl (by decide) _ _ _ rfl (HO1.out.alloc _) ⟨w1.heap.size, 0, none⟩ 1 1 [.int .u8 x] rfl rfl (cell_one_new _ _ _) (fun x hx => by simp at hx; subst hx; rfl) HK2.out.1 HK2.out.2 (by have := HSZ.out; simp; omega) ?_; intro v' w3 hown' hgrow' _; have HO3 := Lib.hid hown'; clear hown'; have HG3 := Lib.hid hgrow'; clear hgrow')
      go_roundw
      case rel =>
        obtain ⟨b, hb⟩ := u8_back x hx0 hx1
        have hrow : ∀ j, u5.ownBlock = some j → w.heap.size ≤ j := fun j hj => (HO1.out.lt j hj).1
        refine ⟨k + 1, by omega, by go_num, ⟨l ++ [b], ?_⟩, ?_, ?_⟩
        · rw [Lib.byteCells_append, show Lib.byteCells [b] = [.int .u8 x] by rw [← hb]; rfl]
          exact HO3.out
        · exact (HC2.out.kept (World.grownBy_alloc w1 _ Option.none) (by simp) (by simp)).kept HG3.out (fun e => by have := hrow C e.symm; have := HLT.out; omega) (fun j hj => Nat.le_trans HB.out (hrow j hj))
        · exact (HBel1.out.alloc (Nat.le_trans HB.out HSZ.out) _).grown HG3.out (by have := HSZ.out; have := HB.out; simp; omega) (fun j hj => Nat.le_trans HB.out (hrow j hj))
      case measure => simp [intOf]; omega
    · have hcv := Hex.conv_own (P := Tryd.prog) (dst := 9) Tryd.underlying22 Tryd.underlying5 Tryd.underlying9 HO.out
      have hl : l.length = k := by have := HO.out.1; rw [Lib.byteCells_length] at this; omega
      have HL := Lib.hid hl; clear hl
      go_wp2_with fail
      go_ret
      exact ⟨_, by have := HL.out; simp [ByteArray.size]; omega, rfl, hC1, HBel.out⟩

theorem made_bytes (n : Nat) : ∃ l : List UInt8, (madeCells (Value.int .u8 0).cells (n * 1)).toList = Lib.byteCells l := by
  refine ⟨List.replicate n 0, ?_⟩
  rw [show (Value.int IntKind.u8 0).cells = #[.int .u8 0] from rfl, toList_madeCells_one]
  simp [Lib.byteCells]

theorem long_any (n x : Int) (h0 : 0 ≤ n) (h1 : n ≤ 100000) (hx0 : 0 ≤ x) (hx1 : x ≤ 255) (w : World) :
    Calls Tryd.prog 23 #[.int .i64 n, .int .u8 x] w fun e w' => (∃ s : ByteArray, (s.size : Int) = n ∧ e = .returned (.string s)) ∧ Below w.heap.size w w' := by
  obtain ⟨m, rfl⟩ := Int.eq_ofNat_of_zero_le h0
  obtain ⟨b, hb⟩ := u8_back x hx0 hx1
  have HBb := Lib.hid hb; clear hb
  have hm : m ≤ 100000 := by omega
  have HM := Lib.hid hm; clear hm h0
  obtain ⟨i0, hi, hz0, hz1, hz2⟩ := info_parts infoU8
  go_enter Tryd.func23, Tryd.ntmps23
  go_wp2_with (at_make; refine wpList_make_full _ rfl _ _ 22 rfl w.heap.size 5 i0 (.int .u8 0) 1 Tryd.underlying22 hi hz0 hz1 .i64 .i64 _ _ m rfl rfl rfl rfl (by rw [hz2]; have := HM.out; omega) (by have := HM.out; unfold maxLen; omega) (Nat.le_refl _) ?_; intro w0 hown0 hgrow0; have HO0 := Lib.hid hown0; clear hown0; have HG0 := Lib.hid hgrow0; clear hgrow0)
  go_loopw [6] (fun i wr => ∃ k : Nat, (k : Int) ≤ m ∧ i = .int .i64 k ∧ (∃ l : List UInt8, wr.ownsRow w.heap.size 5 1 (.slice (some ⟨w.heap.size, 0, none⟩) m m) m (Lib.byteCells l)) ∧ Below w.heap.size w wr) (fun i _ => m - (intOf i).toNat)
  case atStart =>
    obtain ⟨l, hl⟩ := made_bytes m
    exact ⟨0, by omega, rfl, ⟨l, by rw [← hl]; exact HO0.out⟩, (Below.refl _ _).grown HG0.out (Nat.le_refl _) (fun _ e => by cases e)⟩
  case round =>
    obtain ⟨k, hk, rfl, ⟨l, hown⟩, hbel⟩ := hrel
    have HO := Lib.hid hown; clear hown
    have HBel := Lib.hid hbel; clear hbel
    have hl : l.length = m := by have := HO.out.1; rw [Lib.byteCells_length] at this; omega
    have HL := Lib.hid hl; clear hl
    by_cases hlt : (k : Int) < m
    · have hc : wr.cell? ⟨w.heap.size, k, none⟩ = some (.int .u8 ((l.getD k 0).toNat : Int)) := by
        rw [HO.out.cellAt k (by omega)]
        simp [Lib.byteCells, List.getD_eq_getElem?_getD, List.getElem?_eq_getElem (show k < l.length by rw [HL.out]; omega)]
      have hf : wr.frozen? ⟨w.heap.size, k, none⟩ = false := HO.out.frozenAt k
      go_wp2_with fail
      go_roundw
      case rel =>
        refine ⟨k + 1, by omega, by go_num, ⟨l.set k b, ?_⟩, HBel.out.setCell (Nat.le_refl _) _⟩
        have h := (HO.out.stored k (.int .u8 x)).1
        rw [show (Lib.byteCells l).set k (.int .u8 x) = Lib.byteCells (l.set k b) by rw [← HBb.out]; simp [Lib.byteCells, List.map_set]] at h
        exact h
      case measure => simp [intOf]; omega
    · have hcv := Hex.conv_own (P := Tryd.prog) (dst := 9) Tryd.underlying22 Tryd.underlying5 Tryd.underlying9 HO.out
      go_wp2_with fail
      go_ret
      exact ⟨⟨_, by have := HL.out; simp [ByteArray.size]; omega, rfl⟩, HBel.out⟩
end Go.Proofs.YtnfcieilchbbbaaDoor.Draw
