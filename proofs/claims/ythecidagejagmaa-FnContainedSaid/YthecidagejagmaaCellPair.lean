/- The reference model's DrawContains, as a contract: it answers two cells, and nothing that was there is written.
   Conditions: at most 1048576 bytes. -/
import Derived.Test.YthecidagejagmaaCellAny
import Derived.Test.YthecidagejagmaaCellPar
namespace Go.Proofs.Ythecidagejagmaa.Draw
open Go.ChangeShapes Go.WideShapes Go.ChangeAt Go.RowKit
open Go.Proofs.Ythecidagejagmaa.Cell (okId ok_true cellOf parR parL parI parB pairOf)

theorem results_row_row {P : Program} {fn : Func} {p u : Tmp} {ty : TypeId} (h : fn.results = #[.cell p ty, .cell u ty]) (tmps : Array Value) (w : World) (g g' : Nat) (t t' : TypeId) (cs cs' : Array Value) (fr fr' : Nat × Nat) (d : TypeDesc)
    (hp : tmps.getD p undef = .pointer (some ⟨g, 0, none⟩)) (hu : tmps.getD u undef = .pointer (some ⟨g', 0, none⟩)) (hg : w.heap[g]? = some (.cells cs t fr)) (hg' : w.heap[g']? = some (.cells cs' t' fr'))
    (ht : P.underlying ty = some d) (hd : (match d with | .struct _ | .array _ _ => true | _ => false) = true) (hi : (P.info? ty).map (·.size) = some cs.size) (hi' : (P.info? ty).map (·.size) = some cs'.size) :
    (results fn tmps).run P w = .ok (.tuple #[.agg cs, .agg cs']) w := by
  simp only [results, h]
  simp only [Array.getD_eq_getD_getElem?] at hp hu
  simp [Sem.run_bind, hp, hu, asAddr, run_loadVar_row w g t ty cs fr d hg ht hd hi, run_loadVar_row w g' t' ty cs' fr' d hg' ht hd hi']

/-- What DrawContains' loop keeps. -/
structure Held (w wr : World) (C X Y : Nat) (a : Option Addr) (len cap : Nat) (r l i r2 l2 i2 : Int) : Prop where
  cur : Cur w.heap.size wr C a len cap
  p : wr.heap[w.heap.size]? = some (cellOf 25 0 0 0)
  q : wr.heap[w.heap.size + 1]? = some (cellOf 25 0 0 0)
  x : wr.heap[X]? = some (cellOf 25 r l i)
  y : wr.heap[Y]? = some (cellOf 25 r2 l2 i2)
  g : w.grownBy wr none
  sep : C ≠ w.heap.size ∧ C ≠ w.heap.size + 1 ∧ C ≠ X ∧ C ≠ Y ∧ w.heap.size + 1 < X ∧ X < Y

theorem Held.draw {w wr w1 : World} {C X Y : Nat} {a : Option Addr} {len cap : Nat} {r l i r2 l2 i2 : Int} (h : Held w wr C X Y a len cap r l i r2 l2 i2) (hc : Cur w.heap.size w1 C a len cap) (hg : wr.grownBy w1 (some C)) :
    Held w w1 C X Y a len cap r l i r2 l2 i2 := by
  obtain ⟨s0, s1, s2, s3, s4, s5⟩ := h.sep
  refine ⟨hc, (hg.block _ (lt_of_block h.p) (by simp; omega)).trans h.p, (hg.block _ (lt_of_block h.q) (by simp; omega)).trans h.q, (hg.block _ (lt_of_block h.x) (by simp; omega)).trans h.x, (hg.block _ (lt_of_block h.y) (by simp; omega)).trans h.y, ?_, h.sep⟩
  have hlo := hc.lo
  exact ⟨hg.os.trans h.g.os, hg.tape.trans h.g.tape, hg.output.trans h.g.output, Nat.le_trans h.g.size hg.size, fun k hk hne => (hg.block k (Nat.lt_of_lt_of_le hk h.g.size) (by simp; omega)).trans (h.g.block k hk hne)⟩
theorem Held.quiet {w wr w1 : World} {C X Y : Nat} {a : Option Addr} {len cap : Nat} {r l i r2 l2 i2 : Int} (h : Held w wr C X Y a len cap r l i r2 l2 i2) (hg : wr.grownBy w1 none) :
    Held w w1 C X Y a len cap r l i r2 l2 i2 :=
  h.draw (h.cur.kept hg (by simp) (by simp)) ⟨hg.os, hg.tape, hg.output, hg.size, fun k hk _ => hg.block k hk (by simp)⟩
theorem Held.put {w wr : World} {C X Y : Nat} {a : Option Addr} {len cap : Nat} {r l i r2 l2 i2 : Int} (h : Held w wr C X Y a len cap r l i r2 l2 i2) (x y z : Int) :
    Held w (((wr.setCell ⟨Y, 0, none⟩ (.int .i64 x)).setCell ⟨Y, 1, none⟩ (.int .i64 y)).setCell ⟨Y, 2, none⟩ (.int .i64 z)) C X Y a len cap r l i x y z := by
  obtain ⟨s0, s1, s2, s3, s4, s5⟩ := h.sep
  have hlo := h.cur.lo
  have far : ∀ k, k ≠ Y → (((wr.setCell ⟨Y, 0, none⟩ (.int .i64 x)).setCell ⟨Y, 1, none⟩ (.int .i64 y)).setCell ⟨Y, 2, none⟩ (.int .i64 z)).heap[k]? = wr.heap[k]? := fun k hk => by
    rw [heap_setCell_other _ ⟨Y, 2, none⟩ _ _ (by simp; omega), heap_setCell_other _ ⟨Y, 1, none⟩ _ _ (by simp; omega), heap_setCell_other _ ⟨Y, 0, none⟩ _ _ (by simp; omega)]
  exact ⟨((h.cur.set Y 0 _ s3 (by omega)).set Y 1 _ s3 (by omega)).set Y 2 _ s3 (by omega), (far _ (by omega)).trans h.p, (far _ (by omega)).trans h.q, (far _ (by omega)).trans h.x, set3 h.y _ _ _,
    g_setC (g_setC (g_setC h.g _ _ _ (by omega)) _ _ _ (by omega)) _ _ _ (by omega), h.sep⟩

theorem Held.fin {w wr : World} {C X Y : Nat} {a : Option Addr} {len cap : Nat} {r l i r2 l2 i2 : Int} (h : Held w wr C X Y a len cap r l i r2 l2 i2) (x0 x1 x2 y0 y1 y2 : Value) :
    ((((((wr.setCell ⟨w.heap.size, 0, none⟩ x0).setCell ⟨w.heap.size, 1, none⟩ x1).setCell ⟨w.heap.size, 2, none⟩ x2).setCell ⟨w.heap.size + 1, 0, none⟩ y0).setCell ⟨w.heap.size + 1, 1, none⟩ y1).setCell ⟨w.heap.size + 1, 2, none⟩ y2).heap[w.heap.size]? = some (.cells #[x0, x1, x2] 25 (0, 0)) ∧
    ((((((wr.setCell ⟨w.heap.size, 0, none⟩ x0).setCell ⟨w.heap.size, 1, none⟩ x1).setCell ⟨w.heap.size, 2, none⟩ x2).setCell ⟨w.heap.size + 1, 0, none⟩ y0).setCell ⟨w.heap.size + 1, 1, none⟩ y1).setCell ⟨w.heap.size + 1, 2, none⟩ y2).heap[w.heap.size + 1]? = some (.cells #[y0, y1, y2] 25 (0, 0)) ∧
    w.grownBy ((((((wr.setCell ⟨w.heap.size, 0, none⟩ x0).setCell ⟨w.heap.size, 1, none⟩ x1).setCell ⟨w.heap.size, 2, none⟩ x2).setCell ⟨w.heap.size + 1, 0, none⟩ y0).setCell ⟨w.heap.size + 1, 1, none⟩ y1).setCell ⟨w.heap.size + 1, 2, none⟩ y2) none := by
  have hq : (((wr.setCell ⟨w.heap.size, 0, none⟩ x0).setCell ⟨w.heap.size, 1, none⟩ x1).setCell ⟨w.heap.size, 2, none⟩ x2).heap[w.heap.size + 1]? = some (cellOf 25 0 0 0) := by
    rw [heap_setCell_other _ ⟨w.heap.size, 2, none⟩ _ _ (by simp), heap_setCell_other _ ⟨w.heap.size, 1, none⟩ _ _ (by simp), heap_setCell_other _ ⟨w.heap.size, 0, none⟩ _ _ (by simp)]
    exact h.q
  refine ⟨?_, set3 hq _ _ _, (g_setC (g_setC (g_setC (g_setC (g_setC (g_setC h.g _ _ _ (Nat.le_refl _)) _ _ _ (Nat.le_refl _)) _ _ _ (Nat.le_refl _)) _ _ _ (by omega)) _ _ _ (by omega)) _ _ _ (by omega))⟩
  rw [heap_setCell_other _ ⟨w.heap.size + 1, 2, none⟩ _ _ (by simp), heap_setCell_other _ ⟨w.heap.size + 1, 1, none⟩ _ _ (by simp), heap_setCell_other _ ⟨w.heap.size + 1, 0, none⟩ _ _ (by simp)]
  exact set3 h.p _ _ _

theorem heap_drew (w : World) : w.drew.heap = w.heap := rfl
theorem Held.find {w wr : World} {C X Y : Nat} {a : Option Addr} {len cap : Nat} {r l i r2 l2 i2 : Int} (h : Held w wr C X Y a len cap r l i r2 l2 i2) (x0 x1 x2 y0 y1 y2 : Value) :
    ((((((wr.setCell ⟨w.heap.size, 0, none⟩ x0).setCell ⟨w.heap.size, 1, none⟩ x1).setCell ⟨w.heap.size, 2, none⟩ x2).setCell ⟨w.heap.size + 1, 0, none⟩ y0).setCell ⟨w.heap.size + 1, 1, none⟩ y1).setCell ⟨w.heap.size + 1, 2, none⟩ y2).drew.heap[w.heap.size]? = some (.cells #[x0, x1, x2] 25 (0, 0)) ∧
    ((((((wr.setCell ⟨w.heap.size, 0, none⟩ x0).setCell ⟨w.heap.size, 1, none⟩ x1).setCell ⟨w.heap.size, 2, none⟩ x2).setCell ⟨w.heap.size + 1, 0, none⟩ y0).setCell ⟨w.heap.size + 1, 1, none⟩ y1).setCell ⟨w.heap.size + 1, 2, none⟩ y2).drew.heap[w.heap.size + 1]? = some (.cells #[y0, y1, y2] 25 (0, 0)) ∧
    w.grownBy ((((((wr.setCell ⟨w.heap.size, 0, none⟩ x0).setCell ⟨w.heap.size, 1, none⟩ x1).setCell ⟨w.heap.size, 2, none⟩ x2).setCell ⟨w.heap.size + 1, 0, none⟩ y0).setCell ⟨w.heap.size + 1, 1, none⟩ y1).setCell ⟨w.heap.size + 1, 2, none⟩ y2).drew none := by
  obtain ⟨h0, h1, h2⟩ := h.fin x0 x1 x2 y0 y1 y2
  exact ⟨(congrArg (fun q : Array Obj => q[w.heap.size]?) (heap_drew _)).trans h0, (congrArg (fun q : Array Obj => q[w.heap.size + 1]?) (heap_drew _)).trans h1, Cell.g_drew h2⟩

theorem Cur.drewn {B : Nat} {w : World} {C : Nat} {a : Option Addr} {len cap : Nat} (h : Cur B w C a len cap) : Cur B w.drew C a len cap := h.kept (Cell.g_drew (Cell.grown_refl w)) (by simp) (by simp)
theorem grown_drew {w w' : World} {row : Option Nat} (h : w.drew.grownBy w' row) : w.grownBy w' row := ⟨h.os, h.tape, h.output, h.size, h.block⟩

set_option maxHeartbeats 4000000 in
theorem pair_any {w : World} {a : Option Addr} {len cap : Nat} (hlen : len ≤ 1048576) (hy : Bytes w.heap.size w a len) :
    Calls Try.prog 20 #[.slice a len cap] w fun e w' => ∃ r l i r' l' i' : Int, e = .returned (.tuple #[.agg #[.int .i64 r, .int .i64 l, .int .i64 i], .agg #[.int .i64 r', .int .i64 l', .int .i64 i']]) ∧ w.grownBy w' none := by
  have hy' : Bytes w.heap.size ((w.alloc (cellOf 25 0 0 0)).alloc (cellOf 25 0 0 0)) a len := hy.kept fun k hk => (heap_alloc_old _ _ (by simp; omega)).trans (heap_alloc_old _ _ hk)
  have HY := Lib.hid hy'; have HL := Lib.hid hlen; clear hy hy' hlen
  go_enter Try.func20, Try.ntmps20
  go_wp2_with fail
  refine (new_any (B := w.heap.size) HL.out HY.out (by simp; omega)).mono ?_; rintro e w1 ⟨rfl, hC1, hg1, hz1⟩
  have hp1 : w1.heap[w.heap.size]? = some (cellOf 25 0 0 0) := (hg1.block _ (by simp; omega) (by simp)).trans ((heap_alloc_old _ _ (by simp)).trans (heap_alloc_new _ _))
  have hq1 : w1.heap[w.heap.size + 1]? = some (cellOf 25 0 0 0) := (hg1.block _ (by simp) (by simp)).trans (heap_alloc2_new _ _ _)
  have G1 : w.grownBy w1 none := grown_trans (World.grownBy_alloc w _ _) (grown_trans (World.grownBy_alloc _ _ _) hg1)
  have hC1' : Cur w.heap.size w1 (w.heap.size + 2) a len cap := by simpa using hC1
  have HC1 := Lib.hid hC1'; have HP1 := Lib.hid hp1; have HQ1 := Lib.hid hq1; have HG1 := Lib.hid G1
  have hs1 : w.heap.size + 2 < w1.heap.size := hC1'.lt
  clear hC1 hC1' hp1 hq1 G1 hg1 hz1
  go_wp2_with fail
  refine (any_any (B := w.heap.size) (C := w.heap.size + 2) HC1.out).mono ?_; rintro e w2 ⟨r, l, i, rfl, hC2, hg2⟩
  have hsz2 := hg2.size
  have HH : Hid (Held w ((w2.alloc (cellOf 25 r l i)).alloc (cellOf 25 r l i)) (w.heap.size + 2) w2.heap.size (w2.heap.size + 1) a len cap r l i r l i) := by
    have e1 := (hg2.block _ (lt_of_block HP1.out) (by simp)).trans HP1.out
    have e2 := (hg2.block _ (lt_of_block HQ1.out) (by simp)).trans HQ1.out
    refine Lib.hid ⟨(hC2.kept (World.grownBy_alloc _ _ none) (by simp) (by simp)).kept (World.grownBy_alloc _ _ none) (by simp) (by simp), ?_, ?_, ?_, heap_alloc2_new _ _ _, ?_, by omega⟩
    · exact (heap_alloc_old _ _ (by simp; omega)).trans ((heap_alloc_old _ _ (by omega)).trans e1)
    · exact (heap_alloc_old _ _ (by simp; omega)).trans ((heap_alloc_old _ _ (by omega)).trans e2)
    · exact (heap_alloc_old _ _ (by simp)).trans (heap_alloc_new _ _)
    · refine grown_trans (grown_trans (b := w2) ⟨hg2.os.trans HG1.out.os, hg2.tape.trans HG1.out.tape, hg2.output.trans HG1.out.output, Nat.le_trans HG1.out.size hg2.size, fun k hk hne => (hg2.block k (by omega) (by simp; omega)).trans (HG1.out.block k hk hne)⟩ (World.grownBy_alloc _ _ _)) (World.grownBy_alloc _ _ _)
  clear hC2 hg2
  go_wp2
  go_loopw [7] (fun j wr => ∃ k : Nat, (k : Int) ≤ 4 ∧ j = .int .i64 k ∧ ∃ r2 l2 i2, Hid (Held w wr (w.heap.size + 2) w2.heap.size (w2.heap.size + 1) a len cap r l i r2 l2 i2)) (fun j _ => (4 - intOf j).toNat)
  case atStart => exact ⟨0, by omega, rfl, r, l, i, HH⟩
  case round =>
    obtain ⟨k, hk, rfl, r2, l2, i2, HR⟩ := hrel
    go_wp2_with fail
    refine (below_any (B := w.heap.size) (C := w.heap.size + 2) 4 (by decide) HR.out.cur).mono ?_; rintro e w3 ⟨x, hx0, hx1, rfl, hC3, hg3⟩
    have HR3 := Lib.hid (HR.out.draw hC3 hg3)
    have hx2 : x < 4 := by omega
    clear hC3 hg3 hx1
    by_cases hlt : (k : Int) < x
    · obtain ⟨y0, y1, y2, hfy⟩ := row3 HR3.out.y
      go_wp2_with fail
      refine (Cell.specPar_is r2 l2 i2 _).mono ?_; rintro e w4 ⟨rfl, hg4⟩
      have HR4 := Lib.hid (HR3.out.quiet hg4)
      clear y0 y1 y2 hfy hg4
      obtain ⟨y0, y1, y2, hfy⟩ := row3 HR4.out.y
      have hl4 := lt_of_block HR4.out.y
      cases hb : parB r2 l2 i2
      · go_wp2
        go_roundw
        case rel => exact ⟨k + 1, by omega, by go_num, r2, l2, i2, Lib.hid (HR4.out.quiet (World.grownBy_alloc _ _ _))⟩
        case measure => simp [intOf]; omega
      · go_wp2
        go_roundw
        case rel => exact ⟨k + 1, by omega, by go_num, _, _, _, Lib.hid ((HR4.out.put _ _ _).quiet (World.grownBy_alloc _ _ _))⟩
        case measure => simp [intOf]; omega
    · go_wp2_with fail
      refine (once_any (B := w.heap.size) (C := w.heap.size + 2) 4 (by decide) HR3.out.cur).mono ?_; rintro e w4 ⟨b, rfl, hC4, hg4⟩
      have HR4 := Lib.hid (HR3.out.draw hC4 hg4)
      clear hC4 hg4
      obtain ⟨s0, s1, s2, s3, s4, s5⟩ := HR4.out.sep
      cases b
      · obtain ⟨x0, x1, x2, hfx⟩ := row3 HR4.out.x
        obtain ⟨y0, y1, y2, hfy⟩ := row3 HR4.out.y
        obtain ⟨p0, p1, p2, hfp⟩ := row3 HR4.out.p
        obtain ⟨q0, q1, q2, hfq⟩ := row3 HR4.out.q
        go_wp2
        go_region
        go_wp2
        obtain ⟨f0, f1, f2⟩ := HR4.out.find (.int .i64 r2) (.int .i64 l2) (.int .i64 i2) (.int .i64 r) (.int .i64 l) (.int .i64 i)
        exact bodyPost_ret_by (results_row_row (fn := Try.f20) rfl _ _ w.heap.size (w.heap.size + 1) _ _ _ _ (0, 0) (0, 0) _ rfl rfl f0 f1 Try.underlying25 rfl (by kernel_rfl) (by kernel_rfl)) rfl ⟨_, _, _, _, _, _, rfl, f2⟩
      · obtain ⟨x0, x1, x2, hfx⟩ := row3 HR4.out.x
        go_wp2_with fail
        go_region_with (go_at_call 36; ((with_reducible refine (any_any (B := w.heap.size) (C := w.heap.size + 1 + 1) HR4.out.cur.drewn).mono ?_); rintro e w5 ⟨r3, l3, i3, rfl, hC5, hg5⟩; have HR5 := Lib.hid (HR4.out.draw hC5 (grown_drew hg5)); clear hC5 hg5; obtain ⟨x0, x1, x2, hfx⟩ := row3 HR5.out.x; obtain ⟨p0, p1, p2, hfp⟩ := row3 HR5.out.p; obtain ⟨q0, q1, q2, hfq⟩ := row3 HR5.out.q))
        all_goals go_wp2
        all_goals
          obtain ⟨f0, f1, f2⟩ := HR5.out.fin (.int .i64 r3) (.int .i64 l3) (.int .i64 i3) (.int .i64 r) (.int .i64 l) (.int .i64 i)
          exact bodyPost_ret_by (results_row_row (fn := Try.f20) rfl _ _ w.heap.size (w.heap.size + 1) _ _ _ _ (0, 0) (0, 0) _ rfl rfl f0 f1 Try.underlying25 rfl (by kernel_rfl) (by kernel_rfl)) rfl ⟨_, _, _, _, _, _, rfl, f2⟩
end Go.Proofs.Ythecidagejagmaa.Draw
