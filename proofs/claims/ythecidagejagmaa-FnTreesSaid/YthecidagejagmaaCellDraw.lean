/- The reference model's draws of a cell (l03Id, l03Any, DrawId, DrawContains), as contracts: l03Id and DrawId answer a valid cell, the others any; they write their own cursor alone.
   Conditions: the cursor is one that l01New has made in the same call. -/
import Derived.Test.YthecidagejagmaaPickInt
import Derived.Test.YthecidagejagmaaCellSib
namespace Go.Proofs.Ythecidagejagmaa.Draw
open Go.ChangeShapes Go.WideShapes Go.ChangeAt Go.RowKit
open Go.Proofs.Ythecidagejagmaa.Cell (okId ok_true cellOf)

theorem g_setC {w a : World} {row : Option Nat} (h : w.grownBy a row) (D j : Nat) (u : Value) (hD : w.heap.size ≤ D) : w.grownBy (a.setCell ⟨D, j, none⟩ u) row :=
  ⟨h.os, h.tape, h.output, by simpa using h.size, fun i hi hne => (heap_setCell_other a ⟨D, j, none⟩ i u (by simp; omega)).trans (h.block i hi hne)⟩
theorem set3 {w : World} {C : Nat} {s u v : Value} {t : TypeId} (hb : w.heap[C]? = some (.cells #[s, u, v] t (0, 0))) (x y z : Value) :
    (((w.setCell ⟨C, 0, none⟩ x).setCell ⟨C, 1, none⟩ y).setCell ⟨C, 2, none⟩ z).heap[C]? = some (.cells #[x, y, z] t (0, 0)) := by
  have h0 : (w.setCell ⟨C, 0, none⟩ x).heap[C]? = some (.cells #[x, u, v] t (0, 0)) := by rw [heap_setCell_same w C 0 _ t x hb]; rfl
  have h1 : ((w.setCell ⟨C, 0, none⟩ x).setCell ⟨C, 1, none⟩ y).heap[C]? = some (.cells #[x, y, v] t (0, 0)) := by rw [heap_setCell_same _ C 1 _ t y h0]; rfl
  rw [heap_setCell_same _ C 2 _ t z h1]; rfl
theorem Cur.set {B : Nat} {w : World} {C : Nat} {a : Option Addr} {len cap : Nat} (h : Cur B w C a len cap) (D j : Nat) (u : Value) (hne : C ≠ D) (hB : B ≤ D) : Cur B (w.setCell ⟨D, j, none⟩ u) C a len cap :=
  h.kept (grown_set w D j u) (by simp [hne]) (fun k e => by cases e; exact hB)
/-- A block of three cells: its cells, and that it isn't frozen. -/
theorem row3 {w : World} {C : Nat} {s u v : Value} {t : TypeId} (hb : w.heap[C]? = some (.cells #[s, u, v] t (0, 0))) :
    w.cell? ⟨C, 0, none⟩ = some s ∧ w.cell? ⟨C, 1, none⟩ = some u ∧ w.cell? ⟨C, 2, none⟩ = some v ∧ ∀ o, w.frozen? ⟨C, o, none⟩ = false :=
  ⟨by simp [World.cell?, hb], by simp [World.cell?, hb], by simp [World.cell?, hb], fun o => by simp [World.frozen?, hb]⟩

/-- What a draw of a valid cell leaves. -/
def IdSome (B C : Nat) (a : Option Addr) (len cap : Nat) (w : World) (e : Ending) (w' : World) : Prop :=
  ∃ r l i : Int, okId r l i = true ∧ e = .returned (.agg #[.int .i64 r, .int .i64 l, .int .i64 i]) ∧ Cur B w' C a len cap ∧ w.grownBy w' (some C)
/-- What a draw of any cell leaves. -/
def AnySome (B C : Nat) (a : Option Addr) (len cap : Nat) (w : World) (e : Ending) (w' : World) : Prop :=
  ∃ r l i : Int, e = .returned (.agg #[.int .i64 r, .int .i64 l, .int .i64 i]) ∧ Cur B w' C a len cap ∧ w.grownBy w' (some C)

set_option maxHeartbeats 2000000 in
theorem id_any {B : Nat} {w : World} {C : Nat} {a : Option Addr} {len cap : Nat} (hC : Cur B w C a len cap) :
    Calls Try.prog 31 #[.pointer (some ⟨C, 0, none⟩)] w (IdSome B C a len cap w) := by
  have hlt := hC.lt
  have hlo := hC.lo
  go_enter Try.func31, Try.ntmps31
  go_wp2_with fail
  refine (below_any 5 (by decide) (hC.kept (World.grownBy_alloc w _ Option.none) (by simp) (by simp))).mono ?_; rintro e w1 ⟨l, hl0, hl1, rfl, hC1, hg1⟩
  have hR1 : w1.heap[w.heap.size]? = some (cellOf 25 0 0 0) := (hg1.block _ (by simp) (by simp; omega)).trans (heap_alloc_new _ _)
  have hl : l = 0 ∨ l = 1 ∨ l = 2 ∨ l = 3 ∨ l = 4 := by omega
  have HR := Lib.hid hR1; have HC := Lib.hid hC; clear hR1 hC hl1
  rcases hl with rfl | rfl | rfl | rfl | rfl
  all_goals
    go_wp2_with fail
    refine (below_any 4 (by decide) hC1).mono ?_; rintro e w2 ⟨r, hr0, hr1, rfl, hC2, hg2⟩
    have HR1 := Lib.hid hr1; clear hr1
    go_wp2_with fail
    refine (below_any _ (by decide) hC2).mono ?_; rintro e w3 ⟨i, hi0, hi1, rfl, hC3, hg3⟩
    have HI := Lib.hid hi1; clear hi1
    have hsz1 := hg1.size
    have hsz2 := hg2.size
    simp at hsz1
    have hR : w3.heap[w.heap.size]? = some (cellOf 25 0 0 0) := (hg3.block _ (by omega) (by simp; omega)).trans ((hg2.block _ (by omega) (by simp; omega)).trans HR.out)
    obtain ⟨c0, c1, c2, hf⟩ := row3 hR
    have HG : Hid (w.grownBy w3 (some C)) := Lib.hid (grown_trans (World.grownBy_alloc w _ _) (grown_trans hg1 (grown_trans hg2 hg3)))
    have HR3 := Lib.hid hR; clear hR hg1 hg2 hg3 hsz1 hsz2
    have HC3 := Lib.hid hC3; clear hC3 hC2 hC1
    go_wp2
    have := HR1.out
    have := HI.out
    exact bodyPost_ret_by (results_cell_row (fn := Try.f31) rfl _ _ w.heap.size _ _ (0, 0) _ rfl (set3 HR3.out _ _ _) Try.underlying25 rfl (by kernel_rfl)) rfl
      ⟨_, _, _, ok_true ⟨by omega, by omega, by omega, by omega, by omega, by simp; omega⟩, rfl, ((HC3.out.set _ 0 _ (by omega) (by omega)).set _ 1 _ (by omega) (by omega)).set _ 2 _ (by omega) (by omega),
        g_setC (g_setC (g_setC HG.out _ _ _ (Nat.le_refl _)) _ _ _ (Nat.le_refl _)) _ _ _ (Nat.le_refl _)⟩

/-- What DrawId leaves: a valid cell; nothing that was there is written. -/
theorem draw_id {w : World} {a : Option Addr} {len cap : Nat} (hlen : len ≤ 1048576) (hy : Bytes w.heap.size w a len) :
    Calls Try.prog 13 #[.slice a len cap] w fun e w' => ∃ r l i : Int, okId r l i = true ∧ e = .returned (.agg #[.int .i64 r, .int .i64 l, .int .i64 i]) ∧ w.grownBy w' none := by
  have hy' : Bytes w.heap.size (w.alloc (cellOf 25 0 0 0)) a len := hy.kept fun k hk => heap_alloc_old _ _ hk
  have HY := Lib.hid hy'; have HL := Lib.hid hlen; clear hy hy' hlen
  go_enter Try.func13, Try.ntmps13
  go_wp2_with fail
  refine (new_any (B := w.heap.size) HL.out HY.out (by simp)).mono ?_; rintro e w1 ⟨rfl, hC1, hg1, hz1⟩
  have HG1 := Lib.hid hg1; have HC1 := Lib.hid hC1
  have hR1 : w1.heap[w.heap.size]? = some (cellOf 25 0 0 0) := (hg1.block _ (by simp) (by simp)).trans (heap_alloc_new _ _)
  clear hg1 hC1
  go_wp2_with fail
  refine (id_any (by simpa using HC1.out)).mono ?_; rintro e w2 ⟨r, l, i, hok, rfl, hC2, hg2⟩
  have hlt := lt_of_block hR1
  have hR2 : w2.heap[w.heap.size]? = some (cellOf 25 0 0 0) := (hg2.block _ hlt (by simp)).trans hR1
  obtain ⟨c0, c1, c2, hf⟩ := row3 hR2
  have hg : w.grownBy w2 none := by
    refine ⟨hg2.os.trans (HG1.out.os.trans rfl), hg2.tape.trans (HG1.out.tape.trans rfl), hg2.output.trans (HG1.out.output.trans rfl), ?_, fun k hk _ => ?_⟩
    · have := hg2.size; have := HG1.out.size; simp at this; omega
    · rw [hg2.block k (by omega) (by simp; omega), HG1.out.block k (by simp; omega) (by simp), heap_alloc_old _ _ hk]
  have HG := Lib.hid hg; have HR := Lib.hid hR2; have HO := Lib.hid hok; clear hg hg2 hC2 hR1 hR2 hok
  go_wp2
  exact bodyPost_ret_by (results_cell_row (fn := Try.f13) rfl _ _ w.heap.size _ _ (0, 0) _ rfl (set3 HR.out _ _ _) Try.underlying25 rfl (by kernel_rfl)) rfl
    ⟨_, _, _, HO.out, rfl, g_setC (g_setC (g_setC HG.out _ _ _ (Nat.le_refl _)) _ _ _ (Nat.le_refl _)) _ _ _ (Nat.le_refl _)⟩

end Go.Proofs.Ythecidagejagmaa.Draw
