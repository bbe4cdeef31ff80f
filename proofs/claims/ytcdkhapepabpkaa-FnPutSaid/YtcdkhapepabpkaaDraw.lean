/- The drawing functions of the reference model (l01New, l01Byte, l01Below), as contracts: what they answer lies in its range, and they write their own cursor alone.
   Conditions: the cursor is one that l01New has made in the same call. -/
import Derived.Test.YtcdkhapepabpkaaChecked
import Derived.WalkKit
import Derived.ProofKit
import Derived.OpenShut
import Derived.BigQuiet
import Derived.Deep.QuietTactic
import Derived.WalkSmall
import Derived.Handy
import Derived.Lib.Hide
set_option maxRecDepth 100000
namespace Go.Proofs.Ytcdkhapepabpkaa.Draw
open Go.ChangeShapes Go.WideShapes Go.ChangeAt Go.RowKit

theorem and_range (y m : Int) (h0 : 0 ≤ m) (h1 : m ≤ 4611686018427387904) : 0 ≤ bits .and .i64 y m ∧ bits .and .i64 y m ≤ m := by
  have hm : (BitVec.ofInt 64 m).toNat = m.toNat := by
    obtain ⟨k, rfl⟩ := Int.eq_ofNat_of_zero_le h0
    rw [BitVec.ofInt_natCast, BitVec.toNat_ofNat]
    exact Nat.mod_eq_of_lt (by omega)
  have hle : ((BitVec.ofInt 64 y &&& BitVec.ofInt 64 m).toNat) ≤ m.toNat := by
    rw [BitVec.toNat_and, hm]
    exact Nat.and_le_right
  have e : bits .and .i64 y m = IntKind.i64.wrap ((BitVec.ofInt 64 y &&& BitVec.ofInt 64 m).toNat : Int) := rfl
  rw [e, IntKind.wrap_i64]
  omega

/-- The bytes that the draws are made of: none of them lies from B on. -/
def Bytes (B : Nat) (w : World) (a : Option Addr) (len : Nat) : Prop :=
  ∀ k, k < len → ∃ b off n, a = some ⟨b, off, none⟩ ∧ b < B ∧ w.cell? ⟨b, off + k, none⟩ = some (.int .u8 n) ∧ 0 ≤ n ∧ n ≤ 255

/-- A cursor in block C, over the bytes of a. -/
structure Cur (B : Nat) (w : World) (C : Nat) (a : Option Addr) (len cap : Nat) : Prop where
  lo : B ≤ C
  small : len ≤ 1048576
  blk : ∃ i h : Int, 0 ≤ i ∧ i ≤ len ∧ -9223372036854775808 ≤ h ∧ h ≤ 9223372036854775807 ∧ w.heap[C]? = some (.cells #[.slice a len cap, .int .i64 i, .int .i64 h] 86 (0, 0))
  bytes : Bytes B w a len

theorem Bytes.kept {B : Nat} {w w' : World} {a : Option Addr} {len : Nat} (h : Bytes B w a len) (hb : ∀ k, k < B → w'.heap[k]? = w.heap[k]?) : Bytes B w' a len := by
  intro k hk
  obtain ⟨b, off, n, ha, hlt, hc, h0, h1⟩ := h k hk
  exact ⟨b, off, n, ha, hlt, by rw [World.cell?_of_block (w := w) (hb b hlt)]; exact hc, h0, h1⟩

theorem Cur.lt {B : Nat} {w : World} {C : Nat} {a : Option Addr} {len cap : Nat} (h : Cur B w C a len cap) : C < w.heap.size := by
  obtain ⟨i, x, _, _, _, _, hb⟩ := h.blk
  exact lt_of_block hb

/-- What leaves the cursor's block and what lies below B alone leaves the cursor a cursor. -/
theorem Cur.kept {B : Nat} {w w' : World} {C : Nat} {a : Option Addr} {len cap : Nat} {row : Option Nat} (h : Cur B w C a len cap) (hg : w.grownBy w' row) (hne : some C ≠ row) (hr : ∀ k, row = some k → B ≤ k) : Cur B w' C a len cap := by
  have hlt := h.lt
  refine ⟨h.lo, h.small, ?_, h.bytes.kept fun k hk => hg.block k (by have := h.lo; omega) (fun e => by have := hr k e.symm; omega)⟩
  obtain ⟨i, x, h0, h1, h2, h3, hb⟩ := h.blk
  exact ⟨i, x, h0, h1, h2, h3, by rw [hg.block C hlt hne]; exact hb⟩

theorem grown_trans {a b c : World} {row : Option Nat} (h : a.grownBy b row) (k : b.grownBy c row) : a.grownBy c row :=
  ⟨k.os.trans h.os, k.tape.trans h.tape, k.output.trans h.output, Nat.le_trans h.size k.size, fun i hi hne => (k.block i (Nat.lt_of_lt_of_le hi h.size) hne).trans (h.block i hi hne)⟩

theorem grown_below {B : Nat} {w w' : World} {C : Nat} (hg : w.grownBy w' (some C)) (hB : B ≤ C) (hs : B ≤ w.heap.size) : Below B w w' :=
  (Below.refl B w).grown hg hs (fun k e => by cases e; exact hB)

theorem grown_set (w : World) (C j : Nat) (u : Value) : w.grownBy (w.setCell ⟨C, j, none⟩ u) (some C) :=
  ⟨rfl, rfl, rfl, by simp, fun k _ hk => heap_setCell_other w ⟨C, j, none⟩ k u (fun e => hk (by simp [e]))⟩
theorem grown_drewN (w : World) (n : Nat) (row : Option Nat) : w.grownBy (w.drewN n) row := ⟨rfl, rfl, rfl, Nat.le_refl _, fun _ _ _ => rfl⟩

theorem set2 {w : World} {C : Nat} {s u v : Value} {t : TypeId} (hb : w.heap[C]? = some (.cells #[s, u, v] t (0, 0))) (x : Value) : (w.setCell ⟨C, 2, none⟩ x).heap[C]? = some (.cells #[s, u, x] t (0, 0)) := by
  rw [heap_setCell_same w C 2 _ t x hb]; rfl
theorem set1 {w : World} {C : Nat} {s u v : Value} {t : TypeId} (hb : w.heap[C]? = some (.cells #[s, u, v] t (0, 0))) (x : Value) : (w.setCell ⟨C, 1, none⟩ x).heap[C]? = some (.cells #[s, x, v] t (0, 0)) := by
  rw [heap_setCell_same w C 1 _ t x hb]; rfl
theorem set12 {w : World} {C : Nat} {s u v : Value} {t : TypeId} (hb : w.heap[C]? = some (.cells #[s, u, v] t (0, 0))) (x y : Value) : ((w.setCell ⟨C, 2, none⟩ x).setCell ⟨C, 1, none⟩ y).heap[C]? = some (.cells #[s, y, x] t (0, 0)) := set1 (set2 hb x) y

/-- What a drawn byte's call leaves. -/
def ByteSome (B C : Nat) (a : Option Addr) (len cap : Nat) (w : World) (e : Ending) (w' : World) : Prop :=
  ∃ x : Int, 0 ≤ x ∧ x ≤ 255 ∧ e = .returned (.int .i64 x) ∧ Cur B w' C a len cap ∧ w.grownBy w' (some C)

theorem wrap_bounds (n : Int) : -9223372036854775808 ≤ wrap64 n ∧ wrap64 n ≤ 9223372036854775807 := by unfold wrap64; omega

theorem byte_any {B : Nat} {w : World} {C : Nat} {a : Option Addr} {len cap : Nat} (hC : Cur B w C a len cap) :
    Calls Try.prog 64 #[.pointer (some ⟨C, 0, none⟩)] w (ByteSome B C a len cap w) := by
  obtain ⟨lo, hs, ⟨i, h, hi0, hi1, hh0, hh1, hb⟩, hbytes⟩ := hC
  have c0 : w.cell? ⟨C, 0, none⟩ = some (.slice a len cap) := by simp [World.cell?, hb]
  have c1 : w.cell? ⟨C, 1, none⟩ = some (.int .i64 i) := by simp [World.cell?, hb]
  have c2 : w.cell? ⟨C, 2, none⟩ = some (.int .i64 h) := by simp [World.cell?, hb]
  have f1 : ∀ o, w.frozen? ⟨C, o, none⟩ = false := by intro o; simp [World.frozen?, hb]
  obtain ⟨k, rfl⟩ := Int.eq_ofNat_of_zero_le hi0
  have HB := Lib.hid hb; clear hb
  have HY := Lib.hid hbytes; clear hbytes
  by_cases hlt : k < len
  · obtain ⟨b, off, n, ha, hbB, hc, hn0, hn1⟩ := HY.out k hlt
    subst ha
    have hne : b ≠ C := by omega
    have hc' : ∀ u, (w.setCell ⟨C, 2, none⟩ u).cell? ⟨b, off + k, none⟩ = some (.int .u8 n) := by
      intro u
      rw [World.cell?_of_block (w := w) (heap_setCell_other w ⟨C, 2, none⟩ b u hne)]; exact hc
    go_enter Try.func64, Try.ntmps64
    go_wp2
    go_quiet (fail)
    go_wp2
    go_quiet (fail)
    go_wp2
    go_quiet (fail)
    go_wp2
    go_ret
    refine ⟨_, (and_range _ _ (by decide) (by decide)).1, (and_range _ _ (by decide) (by decide)).2, rfl, ⟨lo, hs, ⟨(k : Int) + 1, _, by omega, by omega, (wrap_bounds _).1, (wrap_bounds _).2, set12 HB.out _ _⟩, HY.out.kept fun j hj => ?_⟩, ?_⟩
    rotate_left
    · exact grown_trans (grown_trans (grown_set w C 2 _) (grown_drewN _ _ _)) (grown_set _ C 1 _)
    exact (heap_setCell_other _ ⟨C, 1, none⟩ j _ (by simp; omega)).trans (heap_setCell_other w ⟨C, 2, none⟩ j _ (by simp; omega))
  · go_enter Try.func64, Try.ntmps64
    go_wp2
    go_quiet (fail)
    go_wp2
    go_quiet (fail)
    go_wp2
    go_ret
    refine ⟨_, (and_range _ _ (by decide) (by decide)).1, (and_range _ _ (by decide) (by decide)).2, rfl, ⟨lo, hs, ⟨(k : Int), _, by omega, by omega, (wrap_bounds _).1, (wrap_bounds _).2, set2 HB.out _⟩, HY.out.kept fun j hj => ?_⟩, ?_⟩
    rotate_left
    · exact grown_trans (grown_trans (grown_set w C 2 _) (grown_drewN _ _ _)) (grown_drewN _ _ _)
    exact heap_setCell_other w ⟨C, 2, none⟩ j _ (by simp; omega)
/-- What a call of l01Below(c, n) leaves. -/
def BelowSome (B C : Nat) (a : Option Addr) (len cap : Nat) (n : Int) (w : World) (e : Ending) (w' : World) : Prop :=
  ∃ x : Int, 0 ≤ x ∧ (x < n ∨ (n ≤ 0 ∧ x = 0)) ∧ e = .returned (.int .i64 x) ∧ Cur B w' C a len cap ∧ w.grownBy w' (some C)

theorem grown_refl (w : World) (row : Option Nat) : w.grownBy w row := ⟨rfl, rfl, rfl, Nat.le_refl _, fun _ _ _ => rfl⟩

theorem below_any {B : Nat} {w : World} {C : Nat} {a : Option Addr} {len cap : Nat} (n : Int) (hn : n ≤ 9223372036854775807) (hC : Cur B w C a len cap) :
    Calls Try.prog 38 #[.pointer (some ⟨C, 0, none⟩), .int .i64 n] w (BelowSome B C a len cap n w) := by
  by_cases h0 : n ≤ 0
  · go_enter Try.func38, Try.ntmps38
    go_wp2_with fail
    go_ret
    exact ⟨0, by omega, .inr ⟨h0, rfl⟩, rfl, hC, grown_refl _ _⟩
  · by_cases h1 : n ≤ 256
    · have hp : 0 < n := by omega
      go_enter Try.func38, Try.ntmps38
      go_wp2_with (go_at_call 64; refine (byte_any hC).mono ?_; rintro e w' ⟨x, hx0, hx1, rfl, hC', hg⟩)
      go_ret
      exact ⟨_, Int.emod_nonneg _ (by omega), .inl (Int.emod_lt_of_pos _ hp), rfl, hC', hg⟩
    · have hp : 0 < n := by omega
      go_enter Try.func38, Try.ntmps38
      go_wp2_with fail
      refine (byte_any hC).mono ?_; rintro e w1 ⟨x, hx0, hx1, rfl, hC1, hg1⟩
      go_wp2_with fail
      refine (byte_any hC1).mono ?_; rintro e w2 ⟨y, hy0, hy1, rfl, hC2, hg2⟩
      go_wp2_with fail
      refine (byte_any hC2).mono ?_; rintro e w3 ⟨z, hz0, hz1, rfl, hC3, hg3⟩
      go_wp2_with fail
      refine (byte_any hC3).mono ?_; rintro e w4 ⟨u, hu0, hu1, rfl, hC4, hg4⟩
      go_wp2_with fail
      go_ret
      exact ⟨_, Int.emod_nonneg _ (by omega), .inl (Int.emod_lt_of_pos _ hp), rfl, hC4, grown_trans (grown_trans (grown_trans hg1 hg2) hg3) hg4⟩

/-- What a call that answers some bool, number or nothing of the kind leaves. -/
def BoolSome (B C : Nat) (a : Option Addr) (len cap : Nat) (w : World) (e : Ending) (w' : World) : Prop :=
  ∃ x : Bool, e = .returned (.bool x) ∧ Cur B w' C a len cap ∧ w.grownBy w' (some C)
def IntSome (B C : Nat) (a : Option Addr) (len cap : Nat) (w : World) (e : Ending) (w' : World) : Prop :=
  ∃ x : Int, -9223372036854775808 ≤ x ∧ x ≤ 9223372036854775807 ∧ e = .returned (.int .i64 x) ∧ Cur B w' C a len cap ∧ w.grownBy w' (some C)

/-- What l01New leaves: a cursor in a new block. -/
def NewSome (B : Nat) (a : Option Addr) (len cap : Nat) (w : World) (e : Ending) (w' : World) : Prop :=
  e = .returned (.pointer (some ⟨w.heap.size, 0, none⟩)) ∧ Cur B w' w.heap.size a len cap ∧ w.grownBy w' none ∧ w.heap.size < w'.heap.size

theorem new_any {B : Nat} {w : World} {a : Option Addr} {len cap : Nat} (hlen : len ≤ 1048576) (hy : Bytes B w a len) (hB : B ≤ w.heap.size) :
    Calls Try.prog 36 #[.slice a len cap] w (NewSome B a len cap w) := by
  have HY := Lib.hid hy; clear hy
  have hle : (len : Int) ≤ 1048576 := by omega
  have HL := Lib.hid hlen; clear hlen
  go_enter Try.func36, Try.ntmps36
  go_wp2
  go_loop [3, 4] (fun h i => ∃ k : Nat, k ≤ len ∧ i = .int .i64 k ∧ ∃ x : Int, 0 ≤ x ∧ x ≤ 281474976710656 ∧ h = .int .i64 x) (fun _ i => len - (intOf i).toNat)
  case atStart => exact ⟨0, Nat.zero_le _, rfl, _, by omega, by omega, rfl⟩
  case round =>
    obtain ⟨k, hk, rfl, x, hx0, hx1, rfl⟩ := hrel
    by_cases hlt : k < len ∧ k < 4000
    · obtain ⟨hlt1, hlt2'⟩ := hlt
      have hlt2 : (k : Int) < 4000 := by omega
      clear hlt2'
      obtain ⟨b, off, n, ha, hbB, hc, hn0, hn1⟩ := HY.out k hlt1
      subst ha
      go_wp2
      go_round
      case rel => exact ⟨k + 1, by omega, by go_num, _, (and_range _ _ (by decide) (by decide)).1, Int.le_trans (and_range _ _ (by decide) (by decide)).2 (by decide), rfl⟩
      case measure => simp [intOf]; omega
    · by_cases hlt1 : k < len
      · have hlt2 : ¬ (k : Int) < 4000 := by omega
        clear hlt
        go_wp2
        go_ret
        refine ⟨rfl, ⟨hB, HL.out, ⟨0, x, by omega, by omega, by omega, by omega, heap_alloc_new _ _⟩, HY.out.kept fun j hj => heap_alloc_old _ _ (by omega)⟩, World.grownBy_alloc _ _ _, by simp⟩
      · clear hlt
        go_wp2
        go_ret
        refine ⟨rfl, ⟨hB, HL.out, ⟨0, x, by omega, by omega, by omega, by omega, heap_alloc_new _ _⟩, HY.out.kept fun j hj => heap_alloc_old _ _ (by omega)⟩, World.grownBy_alloc _ _ _, by simp⟩

theorem big_any {w : World} {a : Option Addr} {len cap : Nat} :
    Calls Try.prog 10 #[.slice a len cap] w fun e w' => e = .returned (.bool (decide (1048576 < (len : Int)))) ∧ w = w' := by
  go_enter Try.func10, Try.ntmps10
  go_wp2
  go_ret
  exact ⟨rfl, rfl⟩
/-- From l01New's call and what follows it to the frame. -/
theorem below_of {B C : Nat} {w w1 w2 : World} (hB : B ≤ w.heap.size) (hC : C = w.heap.size) (h1 : w.grownBy w1 Option.none) (h2 : w1.grownBy w2 (some C)) : Below B w w2 := by
  subst hC
  exact ((Below.refl B w).grown h1 hB (fun _ e => by cases e)).trans (grown_below h2 hB (Nat.le_trans hB h1.size))
/-- A slice of bytes that came in, as a row of numbers, is what the draws are made of. -/
theorem bytes_of {w : World} {a : Option Addr} {len cap : Nat} {zs : List Int}
    (h : (a = none ∧ len = 0 ∧ cap = 0 ∧ zs = []) ∨ ∃ x, a = some x ∧ len ≤ cap ∧ cap ≤ maxLen ∧ zs.length = cap ∧ (∀ i, i < zs.length → w.cell? (x.add i) = some (.int .u8 (zs.getD i 0))) ∧ ∀ n ∈ zs, (Lit.int .u8 n).wf = true) : Bytes w.heap.size w a len := by
  rcases h with ⟨rfl, rfl, rfl, rfl⟩ | ⟨x, rfl, hl, hm, hz, hcell, hwz⟩
  · intro k hk; omega
  · intro k hk
    obtain ⟨b, off, spot⟩ := x
    have hc := hcell k (by omega)
    have hspot : spot = none := by simpa [Addr.add] using World.cell?_spot (hcell 0 (by omega))
    subst hspot
    have e : (⟨b, off, none⟩ : Addr).add k = ⟨b, off + k, none⟩ := by unfold Addr.add; split <;> simp_all
    rw [e] at hc
    have hw := hwz (zs.getD k 0) (by rw [List.getD_eq_getElem?_getD, List.getElem?_eq_getElem (by omega)]; exact List.getElem_mem _)
    have hr : 0 ≤ zs.getD k 0 ∧ zs.getD k 0 ≤ 255 := by simpa [Lit.wf, IntKind.min, IntKind.max, IntKind.signed, IntKind.bits] using hw
    exact ⟨b, off, _, rfl, World.block_lt_of_cell? w _ hc, hc, hr.1, hr.2⟩
end Go.Proofs.Ytcdkhapepabpkaa.Draw
