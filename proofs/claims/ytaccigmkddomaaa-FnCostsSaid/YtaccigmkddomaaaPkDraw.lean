/- The drawing functions of the reference model (l01New, l01Byte, l01Below), as contracts: what they answer lies in its range, and they write their own cursor alone. The reference model's l01Once, as a contract: some bool, and it writes its own cursor alone. Rounded quotients in whole numbers: what the rest of a division towards 0 says of the others. The program's rounded quotients, as contracts. The program's DivFloor, DivTrunc, DivNear, as contracts. The reference model's DrawPlaces, as a contract: twelve numbers from 0 to 9999 in a row of its own; nothing that was there turns. The reference model's DivFloor, DivTrunc, DivNear, as contracts.
   Conditions: as each says. -/
import Derived.Test.YtaccigmkddomaaaChecked
import Derived.WalkKit
import Derived.ProofKit
import Derived.OpenShut
import Derived.BigQuiet
import Derived.Deep.QuietTactic
import Derived.WalkSmall
import Derived.Handy
import Derived.Lib.Hide
import Derived.Deep.AppendLies
set_option maxRecDepth 100000
namespace Go.Proofs.Ytaccigmkddomaaa.Draw
open Go.ChangeShapes Go.WideShapes Go.ChangeAt Go.RowKit

theorem and_range (y m : Int) (h0 : 0 ≤ m) (h1 : m ≤ 4611686018427387904) : 0 ≤ bits .and .i64 y m ∧ bits .and .i64 y m ≤ m := by
  have hm : (BitVec.ofInt 64 m).toNat = m.toNat := by
    obtain ⟨k, rfl⟩ := Int.eq_ofNat_of_zero_le h0
    rw [BitVec.ofInt_natCast, BitVec.toNat_ofNat]
    exact Nat.mod_eq_of_lt (by omega)
  have hle : ((BitVec.ofInt 64 y &&& BitVec.ofInt 64 m).toNat) ≤ m.toNat := by
    rw [BitVec.toNat_and, hm]
    exact Nat.and_le_right
  have e : bits .and .i64 y m = IntKind.i64.wrap ((BitVec.ofInt 64 y &&& BitVec.ofInt 64 m).toNat : Int) := rfl
  rw [e, IntKind.wrap_i64]
  omega

/-- The bytes that the draws are made of: none of them lies from B on. -/
def Bytes (B : Nat) (w : World) (a : Option Addr) (len : Nat) : Prop :=
  ∀ k, k < len → ∃ b off n, a = some ⟨b, off, none⟩ ∧ b < B ∧ w.cell? ⟨b, off + k, none⟩ = some (.int .u8 n) ∧ 0 ≤ n ∧ n ≤ 255

/-- A cursor in block C, over the bytes of a. -/
structure Cur (B : Nat) (w : World) (C : Nat) (a : Option Addr) (len cap : Nat) : Prop where
  lo : B ≤ C
  small : len ≤ 1048576
  blk : ∃ i h : Int, 0 ≤ i ∧ i ≤ len ∧ -9223372036854775808 ≤ h ∧ h ≤ 9223372036854775807 ∧ w.heap[C]? = some (.cells #[.slice a len cap, .int .i64 i, .int .i64 h] 79 (0, 0))
  bytes : Bytes B w a len

theorem Bytes.kept {B : Nat} {w w' : World} {a : Option Addr} {len : Nat} (h : Bytes B w a len) (hb : ∀ k, k < B → w'.heap[k]? = w.heap[k]?) : Bytes B w' a len := by
  intro k hk
  obtain ⟨b, off, n, ha, hlt, hc, h0, h1⟩ := h k hk
  exact ⟨b, off, n, ha, hlt, by rw [World.cell?_of_block (w := w) (hb b hlt)]; exact hc, h0, h1⟩

theorem Cur.lt {B : Nat} {w : World} {C : Nat} {a : Option Addr} {len cap : Nat} (h : Cur B w C a len cap) : C < w.heap.size := by
  obtain ⟨i, x, _, _, _, _, hb⟩ := h.blk
  exact lt_of_block hb

/-- What leaves the cursor's block and what lies below B alone leaves the cursor a cursor. -/
theorem Cur.kept {B : Nat} {w w' : World} {C : Nat} {a : Option Addr} {len cap : Nat} {row : Option Nat} (h : Cur B w C a len cap) (hg : w.grownBy w' row) (hne : some C ≠ row) (hr : ∀ k, row = some k → B ≤ k) : Cur B w' C a len cap := by
  have hlt := h.lt
  refine ⟨h.lo, h.small, ?_, h.bytes.kept fun k hk => hg.block k (by have := h.lo; omega) (fun e => by have := hr k e.symm; omega)⟩
  obtain ⟨i, x, h0, h1, h2, h3, hb⟩ := h.blk
  exact ⟨i, x, h0, h1, h2, h3, by rw [hg.block C hlt hne]; exact hb⟩

theorem grown_trans {a b c : World} {row : Option Nat} (h : a.grownBy b row) (k : b.grownBy c row) : a.grownBy c row :=
  ⟨k.os.trans h.os, k.tape.trans h.tape, k.output.trans h.output, Nat.le_trans h.size k.size, fun i hi hne => (k.block i (Nat.lt_of_lt_of_le hi h.size) hne).trans (h.block i hi hne)⟩

theorem grown_below {B : Nat} {w w' : World} {C : Nat} (hg : w.grownBy w' (some C)) (hB : B ≤ C) (hs : B ≤ w.heap.size) : Below B w w' :=
  (Below.refl B w).grown hg hs (fun k e => by cases e; exact hB)

theorem grown_set (w : World) (C j : Nat) (u : Value) : w.grownBy (w.setCell ⟨C, j, none⟩ u) (some C) :=
  ⟨rfl, rfl, rfl, by simp, fun k _ hk => heap_setCell_other w ⟨C, j, none⟩ k u (fun e => hk (by simp [e]))⟩
theorem grown_drewN (w : World) (n : Nat) (row : Option Nat) : w.grownBy (w.drewN n) row := ⟨rfl, rfl, rfl, Nat.le_refl _, fun _ _ _ => rfl⟩

theorem set2 {w : World} {C : Nat} {s u v : Value} {t : TypeId} (hb : w.heap[C]? = some (.cells #[s, u, v] t (0, 0))) (x : Value) : (w.setCell ⟨C, 2, none⟩ x).heap[C]? = some (.cells #[s, u, x] t (0, 0)) := by
  rw [heap_setCell_same w C 2 _ t x hb]; rfl
theorem set1 {w : World} {C : Nat} {s u v : Value} {t : TypeId} (hb : w.heap[C]? = some (.cells #[s, u, v] t (0, 0))) (x : Value) : (w.setCell ⟨C, 1, none⟩ x).heap[C]? = some (.cells #[s, x, v] t (0, 0)) := by
  rw [heap_setCell_same w C 1 _ t x hb]; rfl
theorem set12 {w : World} {C : Nat} {s u v : Value} {t : TypeId} (hb : w.heap[C]? = some (.cells #[s, u, v] t (0, 0))) (x y : Value) : ((w.setCell ⟨C, 2, none⟩ x).setCell ⟨C, 1, none⟩ y).heap[C]? = some (.cells #[s, y, x] t (0, 0)) := set1 (set2 hb x) y

/-- What a drawn byte's call leaves. -/
def ByteSome (B C : Nat) (a : Option Addr) (len cap : Nat) (w : World) (e : Ending) (w' : World) : Prop :=
  ∃ x : Int, 0 ≤ x ∧ x ≤ 255 ∧ e = .returned (.int .i64 x) ∧ Cur B w' C a len cap ∧ w.grownBy w' (some C)

theorem wrap_bounds (n : Int) : -9223372036854775808 ≤ wrap64 n ∧ wrap64 n ≤ 9223372036854775807 := by unfold wrap64; omega

theorem byte_any {B : Nat} {w : World} {C : Nat} {a : Option Addr} {len cap : Nat} (hC : Cur B w C a len cap) :
    Calls Try.prog 63 #[.pointer (some ⟨C, 0, none⟩)] w (ByteSome B C a len cap w) := by
  obtain ⟨lo, hs, ⟨i, h, hi0, hi1, hh0, hh1, hb⟩, hbytes⟩ := hC
  have c0 : w.cell? ⟨C, 0, none⟩ = some (.slice a len cap) := by simp [World.cell?, hb]
  have c1 : w.cell? ⟨C, 1, none⟩ = some (.int .i64 i) := by simp [World.cell?, hb]
  have c2 : w.cell? ⟨C, 2, none⟩ = some (.int .i64 h) := by simp [World.cell?, hb]
  have f1 : ∀ o, w.frozen? ⟨C, o, none⟩ = false := by intro o; simp [World.frozen?, hb]
  obtain ⟨k, rfl⟩ := Int.eq_ofNat_of_zero_le hi0
  have HB := Lib.hid hb; clear hb
  have HY := Lib.hid hbytes; clear hbytes
  by_cases hlt : k < len
  · obtain ⟨b, off, n, ha, hbB, hc, hn0, hn1⟩ := HY.out k hlt
    subst ha
    have hne : b ≠ C := by omega
    have hc' : ∀ u, (w.setCell ⟨C, 2, none⟩ u).cell? ⟨b, off + k, none⟩ = some (.int .u8 n) := by
      intro u
      rw [World.cell?_of_block (w := w) (heap_setCell_other w ⟨C, 2, none⟩ b u hne)]; exact hc
    go_enter Try.func63, Try.ntmps63
    go_wp2
    go_quiet (fail)
    go_wp2
    go_quiet (fail)
    go_wp2
    go_quiet (fail)
    go_wp2
    go_ret
    refine ⟨_, (and_range _ _ (by decide) (by decide)).1, (and_range _ _ (by decide) (by decide)).2, rfl, ⟨lo, hs, ⟨(k : Int) + 1, _, by omega, by omega, (wrap_bounds _).1, (wrap_bounds _).2, set12 HB.out _ _⟩, HY.out.kept fun j hj => ?_⟩, ?_⟩
    rotate_left
    · exact grown_trans (grown_trans (grown_set w C 2 _) (grown_drewN _ _ _)) (grown_set _ C 1 _)
    exact (heap_setCell_other _ ⟨C, 1, none⟩ j _ (by simp; omega)).trans (heap_setCell_other w ⟨C, 2, none⟩ j _ (by simp; omega))
  · go_enter Try.func63, Try.ntmps63
    go_wp2
    go_quiet (fail)
    go_wp2
    go_quiet (fail)
    go_wp2
    go_ret
    refine ⟨_, (and_range _ _ (by decide) (by decide)).1, (and_range _ _ (by decide) (by decide)).2, rfl, ⟨lo, hs, ⟨(k : Int), _, by omega, by omega, (wrap_bounds _).1, (wrap_bounds _).2, set2 HB.out _⟩, HY.out.kept fun j hj => ?_⟩, ?_⟩
    rotate_left
    · exact grown_trans (grown_trans (grown_set w C 2 _) (grown_drewN _ _ _)) (grown_drewN _ _ _)
    exact heap_setCell_other w ⟨C, 2, none⟩ j _ (by simp; omega)
/-- What a call of l01Below(c, n) leaves. -/
def BelowSome (B C : Nat) (a : Option Addr) (len cap : Nat) (n : Int) (w : World) (e : Ending) (w' : World) : Prop :=
  ∃ x : Int, 0 ≤ x ∧ (x < n ∨ (n ≤ 0 ∧ x = 0)) ∧ e = .returned (.int .i64 x) ∧ Cur B w' C a len cap ∧ w.grownBy w' (some C)

theorem grown_refl (w : World) (row : Option Nat) : w.grownBy w row := ⟨rfl, rfl, rfl, Nat.le_refl _, fun _ _ _ => rfl⟩

theorem below_any {B : Nat} {w : World} {C : Nat} {a : Option Addr} {len cap : Nat} (n : Int) (hn : n ≤ 9223372036854775807) (hC : Cur B w C a len cap) :
    Calls Try.prog 39 #[.pointer (some ⟨C, 0, none⟩), .int .i64 n] w (BelowSome B C a len cap n w) := by
  by_cases h0 : n ≤ 0
  · go_enter Try.func39, Try.ntmps39
    go_wp2_with fail
    go_ret
    exact ⟨0, by omega, .inr ⟨h0, rfl⟩, rfl, hC, grown_refl _ _⟩
  · by_cases h1 : n ≤ 256
    · have hp : 0 < n := by omega
      go_enter Try.func39, Try.ntmps39
      go_wp2_with (go_at_call 63; refine (byte_any hC).mono ?_; rintro e w' ⟨x, hx0, hx1, rfl, hC', hg⟩)
      go_ret
      exact ⟨_, Int.emod_nonneg _ (by omega), .inl (Int.emod_lt_of_pos _ hp), rfl, hC', hg⟩
    · have hp : 0 < n := by omega
      go_enter Try.func39, Try.ntmps39
      go_wp2_with fail
      refine (byte_any hC).mono ?_; rintro e w1 ⟨x, hx0, hx1, rfl, hC1, hg1⟩
      go_wp2_with fail
      refine (byte_any hC1).mono ?_; rintro e w2 ⟨y, hy0, hy1, rfl, hC2, hg2⟩
      go_wp2_with fail
      refine (byte_any hC2).mono ?_; rintro e w3 ⟨z, hz0, hz1, rfl, hC3, hg3⟩
      go_wp2_with fail
      refine (byte_any hC3).mono ?_; rintro e w4 ⟨u, hu0, hu1, rfl, hC4, hg4⟩
      go_wp2_with fail
      go_ret
      exact ⟨_, Int.emod_nonneg _ (by omega), .inl (Int.emod_lt_of_pos _ hp), rfl, hC4, grown_trans (grown_trans (grown_trans hg1 hg2) hg3) hg4⟩

/-- What a call that answers some bool, number or nothing of the kind leaves. -/
def BoolSome (B C : Nat) (a : Option Addr) (len cap : Nat) (w : World) (e : Ending) (w' : World) : Prop :=
  ∃ x : Bool, e = .returned (.bool x) ∧ Cur B w' C a len cap ∧ w.grownBy w' (some C)
def IntSome (B C : Nat) (a : Option Addr) (len cap : Nat) (w : World) (e : Ending) (w' : World) : Prop :=
  ∃ x : Int, -9223372036854775808 ≤ x ∧ x ≤ 9223372036854775807 ∧ e = .returned (.int .i64 x) ∧ Cur B w' C a len cap ∧ w.grownBy w' (some C)

/-- What l01New leaves: a cursor in a new block. -/
def NewSome (B : Nat) (a : Option Addr) (len cap : Nat) (w : World) (e : Ending) (w' : World) : Prop :=
  e = .returned (.pointer (some ⟨w.heap.size, 0, none⟩)) ∧ Cur B w' w.heap.size a len cap ∧ w.grownBy w' none ∧ w.heap.size < w'.heap.size

theorem new_any {B : Nat} {w : World} {a : Option Addr} {len cap : Nat} (hlen : len ≤ 1048576) (hy : Bytes B w a len) (hB : B ≤ w.heap.size) :
    Calls Try.prog 38 #[.slice a len cap] w (NewSome B a len cap w) := by
  have HY := Lib.hid hy; clear hy
  have hle : (len : Int) ≤ 1048576 := by omega
  have HL := Lib.hid hlen; clear hlen
  go_enter Try.func38, Try.ntmps38
  go_wp2
  go_loop [3, 4] (fun h i => ∃ k : Nat, k ≤ len ∧ i = .int .i64 k ∧ ∃ x : Int, 0 ≤ x ∧ x ≤ 281474976710656 ∧ h = .int .i64 x) (fun _ i => len - (intOf i).toNat)
  case atStart => exact ⟨0, Nat.zero_le _, rfl, _, by omega, by omega, rfl⟩
  case round =>
    obtain ⟨k, hk, rfl, x, hx0, hx1, rfl⟩ := hrel
    by_cases hlt : k < len ∧ k < 4000
    · obtain ⟨hlt1, hlt2'⟩ := hlt
      have hlt2 : (k : Int) < 4000 := by omega
      clear hlt2'
      obtain ⟨b, off, n, ha, hbB, hc, hn0, hn1⟩ := HY.out k hlt1
      subst ha
      go_wp2
      go_round
      case rel => exact ⟨k + 1, by omega, by go_num, _, (and_range _ _ (by decide) (by decide)).1, Int.le_trans (and_range _ _ (by decide) (by decide)).2 (by decide), rfl⟩
      case measure => simp [intOf]; omega
    · by_cases hlt1 : k < len
      · have hlt2 : ¬ (k : Int) < 4000 := by omega
        clear hlt
        go_wp2
        go_ret
        refine ⟨rfl, ⟨hB, HL.out, ⟨0, x, by omega, by omega, by omega, by omega, heap_alloc_new _ _⟩, HY.out.kept fun j hj => Below.heap_alloc _ _ _ (by omega)⟩, World.grownBy_alloc _ _ _, by simp⟩
      · clear hlt
        go_wp2
        go_ret
        refine ⟨rfl, ⟨hB, HL.out, ⟨0, x, by omega, by omega, by omega, by omega, heap_alloc_new _ _⟩, HY.out.kept fun j hj => Below.heap_alloc _ _ _ (by omega)⟩, World.grownBy_alloc _ _ _, by simp⟩

theorem big_any {w : World} {a : Option Addr} {len cap : Nat} :
    Calls Try.prog 10 #[.slice a len cap] w fun e w' => e = .returned (.bool (decide (1048576 < (len : Int)))) ∧ w = w' := by
  go_enter Try.func10, Try.ntmps10
  go_wp2
  go_ret
  exact ⟨rfl, rfl⟩
/-- From l01New's call and what follows it to the frame. -/
theorem below_of {B C : Nat} {w w1 w2 : World} (hB : B ≤ w.heap.size) (hC : C = w.heap.size) (h1 : w.grownBy w1 Option.none) (h2 : w1.grownBy w2 (some C)) : Below B w w2 := by
  subst hC
  exact ((Below.refl B w).grown h1 hB (fun _ e => by cases e)).trans (grown_below h2 hB (Nat.le_trans hB h1.size))
/-- A slice of bytes that came in, as a row of numbers, is what the draws are made of. -/
theorem bytes_of {w : World} {a : Option Addr} {len cap : Nat} {zs : List Int}
    (h : (a = none ∧ len = 0 ∧ cap = 0 ∧ zs = []) ∨ ∃ x, a = some x ∧ len ≤ cap ∧ cap ≤ maxLen ∧ zs.length = cap ∧ (∀ i, i < zs.length → w.cell? (x.add i) = some (.int .u8 (zs.getD i 0))) ∧ ∀ n ∈ zs, (Lit.int .u8 n).wf = true) : Bytes w.heap.size w a len := by
  rcases h with ⟨rfl, rfl, rfl, rfl⟩ | ⟨x, rfl, hl, hm, hz, hcell, hwz⟩
  · intro k hk; omega
  · intro k hk
    obtain ⟨b, off, spot⟩ := x
    have hc := hcell k (by omega)
    have hspot : spot = none := by simpa [Addr.add] using World.cell?_spot (hcell 0 (by omega))
    subst hspot
    have e : (⟨b, off, none⟩ : Addr).add k = ⟨b, off + k, none⟩ := by unfold Addr.add; split <;> simp_all
    rw [e] at hc
    have hw := hwz (zs.getD k 0) (by rw [List.getD_eq_getElem?_getD, List.getElem?_eq_getElem (by omega)]; exact List.getElem_mem _)
    have hr : 0 ≤ zs.getD k 0 ∧ zs.getD k 0 ≤ 255 := by simpa [Lit.wf, IntKind.min, IntKind.max, IntKind.signed, IntKind.bits] using hw
    exact ⟨b, off, _, rfl, World.block_lt_of_cell? w _ hc, hc, hr.1, hr.2⟩
end Go.Proofs.Ytaccigmkddomaaa.Draw

namespace Go.Proofs.Ytaccigmkddomaaa.Draw
open Go.ChangeShapes Go.WideShapes Go.ChangeAt Go.RowKit

theorem once_any {B : Nat} {w : World} {C : Nat} {a : Option Addr} {len cap : Nat} (n : Int) (hn : n ≤ 9223372036854775807) (hC : Cur B w C a len cap) :
    Calls Try.prog 62 #[.pointer (some ⟨C, 0, none⟩), .int .i64 n] w (BoolSome B C a len cap w) := by
  go_enter Try.func62, Try.ntmps62
  go_wp2_with (go_at_call 39; refine (below_any n hn hC).mono ?_; rintro e w' ⟨x, hx0, hx1, rfl, hC', hg⟩; have HX := Lib.hid hx1; clear hx1)
  go_ret
  exact ⟨_, rfl, hC', hg⟩
end Go.Proofs.Ytaccigmkddomaaa.Draw

namespace Go.Proofs.Ytaccigmkddomaaa.Quot

theorem parts {a b : Int} (hb : 0 < b) : (a.tdiv b = a / b ∧ a.tmod b = a % b ∧ (0 ≤ a ∨ a % b = 0)) ∨ (a.tdiv b = a / b + 1 ∧ a.tmod b = a % b - b ∧ a < 0 ∧ a % b ≠ 0) := by
  have h1 := Int.tdiv_eq_ediv (a := a) (b := b)
  have h2 := Int.tmod_eq_emod (a := a) (b := b)
  by_cases h : 0 ≤ a ∨ b ∣ a
  · rw [if_pos h] at h1 h2
    refine .inl ⟨by omega, by omega, ?_⟩
    rcases h with h | h
    · exact .inl h
    · exact .inr (Int.emod_eq_zero_of_dvd h)
  · rw [if_neg h] at h1 h2
    rw [Int.sign_eq_one_of_pos hb] at h1
    refine .inr ⟨by omega, by omega, by omega, fun e => h (.inr (Int.dvd_of_emod_eq_zero e))⟩

/-- Rounding down, by the rest alone. -/
theorem floor_rest {a b : Int} (hb : 0 < b) : (if a.tmod b < 0 then a.tdiv b - 1 else a.tdiv b) = a / b := by
  have h0 := Int.emod_nonneg a (show b ≠ 0 by omega)
  have h1 := Int.emod_lt_of_pos a hb
  rcases parts (a := a) hb with ⟨e1, e2, _⟩ | ⟨e1, e2, _, hn⟩
  · rw [e1, e2, if_neg (by omega)]
  · rw [e1, e2, if_pos (by omega)]; omega

theorem tdiv_range {a b : Int} (hb : 0 < b) (h0 : -9223372036854775808 ≤ a) (h1 : a ≤ 9223372036854775807) : -9223372036854775808 ≤ a.tdiv b ∧ a.tdiv b ≤ 9223372036854775807 := by
  rcases Int.lt_or_le a 0 with h | h
  · have e : a.tdiv b = -((-a).tdiv b) := by rw [Int.neg_tdiv, Int.neg_neg]
    rw [Int.tdiv_eq_ediv_of_nonneg (a := -a) (by omega)] at e
    have h2 := Int.ediv_nonneg (show 0 ≤ -a by omega) (show 0 ≤ b by omega)
    have h3 := Int.ediv_le_self b (show 0 ≤ -a by omega)
    omega
  · rw [Int.tdiv_eq_ediv_of_nonneg h]
    have h2 := Int.ediv_nonneg h (show 0 ≤ b by omega)
    have h3 := Int.ediv_le_self b h
    omega
theorem tdiv_small {a b : Int} (hb : 0 < b) (h0 : -1000000000000000 ≤ a) (h1 : a ≤ 1000000000000000) : -4611686018427387904 < a.tdiv b ∧ a.tdiv b ≤ 4611686018427387903 := by
  rcases Int.lt_or_le a 0 with h | h
  · have e : a.tdiv b = -((-a).tdiv b) := by rw [Int.neg_tdiv, Int.neg_neg]
    rw [Int.tdiv_eq_ediv_of_nonneg (a := -a) (by omega)] at e
    have h2 := Int.ediv_nonneg (show 0 ≤ -a by omega) (show 0 ≤ b by omega)
    have h3 := Int.ediv_le_self b (show 0 ≤ -a by omega)
    omega
  · rw [Int.tdiv_eq_ediv_of_nonneg h]
    have h2 := Int.ediv_nonneg h (show 0 ≤ b by omega)
    have h3 := Int.ediv_le_self b h
    omega
/-- Where a rest is left below 0, the quotient is not the least int. -/
theorem tdiv_room {a b : Int} (hb : 0 < b) (h0 : -9223372036854775808 ≤ a) (hr : a.tmod b < 0) : -9223372036854775808 < a.tdiv b := by
  have e := Int.mul_tdiv_add_tmod a b
  have h : a < 0 := by
    rcases Int.lt_or_le a 0 with h | h
    · exact h
    · have := Int.tmod_nonneg b h; omega
  have hq : a.tdiv b ≤ 0 := by
    have e1 : a.tdiv b = -((-a).tdiv b) := by rw [Int.neg_tdiv, Int.neg_neg]
    rw [Int.tdiv_eq_ediv_of_nonneg (a := -a) (by omega)] at e1
    have h2 := Int.ediv_nonneg (show 0 ≤ -a by omega) (show 0 ≤ b by omega)
    omega
  have : b * a.tdiv b ≤ 1 * a.tdiv b := Int.mul_le_mul_of_nonpos_right (by omega) hq
  omega
theorem tmod_range {a b : Int} (hb : 0 < b) : -b < a.tmod b ∧ a.tmod b < b := by
  have h0 := Int.emod_nonneg a (show b ≠ 0 by omega)
  have h1 := Int.emod_lt_of_pos a hb
  rcases parts (a := a) hb with ⟨_, e2, _⟩ | ⟨_, e2, _, hn⟩ <;> rw [e2] <;> omega

theorem tmod_sign {a b : Int} (hb : 0 < b) (h : a < 0) : a.tmod b ≤ 0 := by
  have h1 := Int.emod_lt_of_pos a hb
  rcases parts (a := a) hb with ⟨_, e2, h2⟩ | ⟨_, e2, _, hn⟩ <;> rw [e2] <;> omega

/-- The nearest integer, by the rest. -/
theorem near_rest {a b : Int} (hb : 0 < b) : (if b ≤ 2 * a.tmod b then a.tdiv b + 1 else if 2 * a.tmod b < -b then a.tdiv b - 1 else a.tdiv b) = (2 * a + b) / (2 * b) := by
  have e := Int.mul_tdiv_add_tmod a b
  have hr := tmod_range (a := a) hb
  have key : ∀ q r : Int, b * q + r = a → ∀ k : Int, 0 ≤ 2 * r + b - 2 * b * k → 2 * r + b - 2 * b * k < 2 * b → (2 * a + b) / (2 * b) = q + k := by
    intro q r hq k h0 h1
    have e1 : 2 * a + b = (2 * r + b - 2 * b * k) + (2 * b) * (q + k) := by rw [← hq, Int.mul_add (2 * b) q k, Int.mul_add 2 (b * q) r, Int.mul_assoc 2 b q]; omega
    rw [e1, Int.add_mul_ediv_left _ _ (show (2 * b) ≠ 0 by omega), Int.ediv_eq_zero_of_lt h0 h1]; omega
  by_cases h1 : b ≤ 2 * a.tmod b
  · rw [if_pos h1, key _ _ e 1 (by omega) (by omega)]
  · rw [if_neg h1]
    by_cases h2 : 2 * a.tmod b < -b
    · rw [if_pos h2, key _ _ e (-1) (by omega) (by omega)]; omega
    · rw [if_neg h2, key _ _ e 0 (by omega) (by omega)]; omega
end Go.Proofs.Ytaccigmkddomaaa.Quot

namespace Go.Proofs.Ytaccigmkddomaaa.Draw
open Go.ChangeShapes Go.WideShapes Go.ChangeAt Go.RowKit

end Go.Proofs.Ytaccigmkddomaaa.Draw

namespace Go.Proofs.Ytaccigmkddomaaa.Draw
open Go.ChangeShapes Go.WideShapes Go.ChangeAt Go.RowKit

/-- The limits of DivNear, and its answer. -/
def near (a b : Int) : Int := if 1 ≤ b ∧ b ≤ 2147483647 ∧ -1000000000000000 ≤ a ∧ a ≤ 1000000000000000 then (2 * a + b) / (2 * b) else 0

end Go.Proofs.Ytaccigmkddomaaa.Draw

namespace Go.Proofs.Ytaccigmkddomaaa.Draw
open Go.ChangeShapes Go.WideShapes Go.ChangeAt Go.RowKit

theorem infoI64 : (Try.prog.info? 3).map (fun i => (i.zero, i.size, i.bytes)) = some (some (.int .i64 0), 1, 8) := by kernel_rfl

def PlacesSome (B : Nat) (w : World) (e : Ending) (w' : World) : Prop :=
  ∃ (g cap : Nat) (f : Nat → Int), e = .returned (.slice (some ⟨g, 0, none⟩) 12 cap) ∧ w.heap.size ≤ g ∧ g < w'.heap.size ∧ (∀ j, j < 12 → 0 ≤ f j ∧ f j ≤ 9999 ∧ w'.cell? ⟨g, j, none⟩ = some (.int .i64 (f j))) ∧ Below B w w'

theorem draw_places {B : Nat} {w : World} {a : Option Addr} {len cap : Nat} (hlen : len ≤ 1048576) (hy : Bytes B w a len) (hB : B ≤ w.heap.size) :
    Calls Try.prog 12 #[.slice a len cap] w (PlacesSome B w) := by
  have HY := Lib.hid hy; clear hy
  have HL := Lib.hid hlen; clear hlen
  have HB := Lib.hid hB; clear hB
  obtain ⟨i0, hi, hz0, hz1, hz2⟩ := info_parts infoI64
  go_enter Try.func12, Try.ntmps12
  go_wp2_with fail
  refine (new_any HL.out HY.out HB.out).mono ?_; rintro e w1 ⟨rfl, hC1, hg1, hlt1⟩
  obtain ⟨C, hCe⟩ : ∃ C, C = w.heap.size := ⟨_, rfl⟩
  rw [← hCe] at hC1
  have HC := Lib.hid hCe
  rw [← hCe]
  clear hCe
  have HLT := Lib.hid hlt1; clear hlt1
  have HBel := Lib.hid ((Below.refl B w).grown hg1 HB.out (fun _ e => by cases e))
  clear hg1
  have HCur := Lib.hid hC1; clear hC1
  go_wp2_with fail
  go_loopw [4, 5] (fun v i wr => ∃ k : Nat, (k : Int) ≤ 12 ∧ i = .int .i64 k ∧ (∃ l : List Int, (∀ x ∈ l, 0 ≤ x ∧ x ≤ 9999) ∧ wr.ownsRow w1.heap.size 3 1 v k (l.map (.int .i64 ·))) ∧ Cur B wr C a len cap ∧ Below B w wr ∧ w1.heap.size ≤ wr.heap.size) (fun _ i _ => (12 - intOf i).toNat)
  case atStart => exact ⟨0, by omega, rfl, ⟨[], by simp, World.ownsRow_lit w1 #[] 0 (Nat.le_refl _) (by unfold maxLen; omega) rfl⟩, HCur.out.kept (World.grownBy_alloc w1 _ Option.none) (by simp) (by simp), HBel.out.alloc (Nat.le_trans HB.out HBel.out.size) _, by simp⟩
  case round =>
    obtain ⟨k, hk, rfl, ⟨l, hl, hown⟩, hC1, hbel, hws⟩ := hrel
    have HWS := Lib.hid hws; clear hws
    have HO := Lib.hid hown; clear hown
    have HBl := Lib.hid hbel; clear hbel
    have HLL := Lib.hid hl; clear hl
    by_cases hlt : (k : Int) < 12
    · go_wp2_with fail
      refine (below_any 10000 (by decide) hC1).mono ?_; rintro e w2 ⟨x, hx0, hx1, rfl, hC2, hg1⟩
      have hCs : C < w1.heap.size := by have := HLT.out; have := HC.out; omega
      have HO1 := Lib.hid (HO.out.kept hg1 (.inr (fun e => by have h := (HO.out.lt C e).1; omega)))
      have HBl1 := Lib.hid (HBl.out.trans (grown_below hg1 hC1.lo (Nat.le_trans HB.out HBl.out.size)))
      have HCs := Lib.hid hCs
      clear hC1 hCs
      have HS1 := Lib.hid HBel.out.size
      have HC2 := Lib.hid hC2; clear hC2
      have hk2 : k + 1 ≤ maxLen ∧ (k + 1) * 8 ≤ 140737488355328 := by unfold maxLen; omega
      have HK2 := Lib.hid hk2; clear hk2
      have hsz : w1.heap.size ≤ w2.heap.size := Nat.le_trans HWS.out hg1.size
      have HSZ := Lib.hid hsz; clear hsz hg1
      go_wp2_with (at_builtin; refine wpList_append_own _ rfl _ _ 27 rfl w1.heap.size 3 i0 (.int .i64 0) 1 8 Try.underlying27 hi hz0 hz1 hz2 rfl (by decide) _ _ _ rfl (HO1.out.alloc _) ⟨w2.heap.size, 0, none⟩ 1 1 [.int .i64 x] rfl rfl (cell_one_new _ _ _) (fun x hx => by simp at hx; subst hx; rfl) HK2.out.1 HK2.out.2 (by have := HSZ.out; simp; omega) ?_; intro v' w3 hown' hgrow' _; have HO3 := Lib.hid hown'; clear hown'; have HG3 := Lib.hid hgrow'; clear hgrow')
      go_roundw
      case rel =>
        have hrow : ∀ j, u4.ownBlock = some j → w1.heap.size ≤ j := fun j hj => (HO1.out.lt j hj).1
        have hlow : B ≤ w1.heap.size := Nat.le_trans HB.out HS1.out
        refine ⟨k + 1, by omega, by go_num, ⟨l ++ [x], ?_, ?_⟩, ?_, ?_, ?_⟩
        · intro y hy
          rcases List.mem_append.1 hy with h | h
          · exact HLL.out y h
          · simp at h; subst h; omega
        · rw [List.map_append]; exact HO3.out
        · exact (HC2.out.kept (World.grownBy_alloc w2 _ Option.none) (by simp) (by simp)).kept HG3.out (fun e => by have := hrow C e.symm; have := HCs.out; omega) (fun j hj => Nat.le_trans hlow (hrow j hj))
        · exact (HBl1.out.alloc (Nat.le_trans hlow HSZ.out) _).grown HG3.out (by have := HSZ.out; simp; omega) (fun j hj => Nat.le_trans hlow (hrow j hj))
        · exact Nat.le_trans HSZ.out (Nat.le_trans (by simp) HG3.out.size)
      case measure => simp [intOf]; omega
    · obtain rfl : k = 12 := by omega
      obtain ⟨g, c, rfl, hb, hgl⟩ := HO.out.form (by omega)
      have hlen : l.length = 12 := by have := HO.out.1; simpa using this
      have HR : Hid (∀ j, j < 12 → 0 ≤ l.getD j 0 ∧ l.getD j 0 ≤ 9999 ∧ wr.cell? ⟨g, j, none⟩ = some (.int .i64 (l.getD j 0))) := Lib.hid fun j hj => by
        have hj' : j < l.length := by omega
        have e : l.getD j 0 = l[j] := by rw [List.getD_eq_getElem?_getD, List.getElem?_eq_getElem hj']; rfl
        have hm := HLL.out l[j] (List.getElem_mem hj')
        rw [e]
        refine ⟨hm.1, hm.2, ?_⟩
        rw [HO.out.cellAt j (by omega), List.getElem?_map, List.getElem?_eq_getElem hj']; rfl
      have HGE : Hid (w.heap.size ≤ g) := Lib.hid (Nat.le_trans HBel.out.size hb)
      have HGL := Lib.hid hgl
      clear hb hgl hlen HO HLL hC1
      go_wp2_with fail
      go_ret
      exact ⟨g, c, _, rfl, HGE.out, HGL.out, HR.out, HBl.out⟩
end Go.Proofs.Ytaccigmkddomaaa.Draw

namespace Go.Proofs.Ytaccigmkddomaaa.Draw
open Go.ChangeShapes Go.WideShapes Go.ChangeAt Go.RowKit

theorem in_is (n lo hi : Int) (w : World) :
    Calls Try.prog 44 #[.int .i64 n, .int .i64 lo, .int .i64 hi] w fun e w' => e = .returned (.bool (decide (lo ≤ n ∧ n ≤ hi))) ∧ w' = w := by
  by_cases h1 : lo ≤ n
  · by_cases h2 : n ≤ hi
    · rw [decide_eq_true (by omega : lo ≤ n ∧ n ≤ hi)]
      go_enter Try.func44, Try.ntmps44
      go_wp2
      go_ret
      exact ⟨rfl, rfl⟩
    · rw [decide_eq_false (by omega : ¬ (lo ≤ n ∧ n ≤ hi))]
      go_enter Try.func44, Try.ntmps44
      go_wp2
      go_ret
      exact ⟨rfl, rfl⟩
  · rw [decide_eq_false (by omega : ¬ (lo ≤ n ∧ n ≤ hi))]
    go_enter Try.func44, Try.ntmps44
    go_wp2
    go_ret
    exact ⟨rfl, rfl⟩

end Go.Proofs.Ytaccigmkddomaaa.Draw
