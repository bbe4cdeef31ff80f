/- Meshes: the reference model's l04Root, as a contract: it appends leaves that cover the cell; it writes the cursor, the box and the row alone.
   Conditions: the cursor is one that l01New has made in the same call; the box and the row are the call's own. -/
import Derived.Test.YtaccigmkddomaaaPkMesh
import Derived.Test.YtaccigmkddomaaaPkDraw
import Derived.Deep.RegionLaw
import Derived.Deep.AppendLies
import Derived.Deep.CutRange
import Derived.Deep.DeepCutAuto
set_option maxRecDepth 100000
namespace Go.Proofs.Ytaccigmkddomaaa.Mesh
open Go.ChangeShapes Go.WideShapes Go.ChangeAt Go.RowKit Go.Proofs.Ytaccigmkddomaaa.Cell

set_option maxHeartbeats 1000000 in
theorem specChild_yes (r l i s : Int) (h : okId r l i = true) (hl : l ≠ 4) (hs : s = 0 ∨ s = 1) (w : World) :
    Calls Try.prog 70 #[.agg #[.int .i64 r, .int .i64 l, .int .i64 i], .int .i64 s] w fun e w' =>
      e = .returned (.tuple #[.agg #[.int .i64 r, .int .i64 (l + 1), .int .i64 (2 * i + s)], .bool true]) ∧ w.grownBy w' none := by
  obtain ⟨h0, h1, h2, h3, h4, h5, h6, h7⟩ := bounds h
  clear h6 h7
  have q : decide (0 ≤ s ∧ s ≤ 1) = true := decide_eq_true (by omega)
  rcases hs with rfl | rfl
  · go_enter Try.func70, Try.ntmps70
    go_wp2_with (first
    | (go_at_call 79; (with_reducible refine (specOk_is r l i _).mono ?_); rintro e w' ⟨rfl, n, rfl⟩)
    | (go_at_call 44; (with_reducible refine (in_is 0 0 1 true q _).mono ?_); rintro e w' ⟨rfl, rfl⟩))
    refine bodyPost_ret_by (v := .tuple #[.agg #[.int .i64 r, .int .i64 (l + 1), .int .i64 (2 * i + 0)], .bool true]) (by rw [results_cell_tmp rfl]; go_simp) rfl ⟨rfl, ?_⟩
    repeat (first | exact grown_refl _ | refine g_alloc ?_ _ | refine g_drewN ?_ _ | refine g_set ?_ _ _ _ (by omega))
  · go_enter Try.func70, Try.ntmps70
    go_wp2_with (first
    | (go_at_call 79; (with_reducible refine (specOk_is r l i _).mono ?_); rintro e w' ⟨rfl, n, rfl⟩)
    | (go_at_call 44; (with_reducible refine (in_is 1 0 1 true q _).mono ?_); rintro e w' ⟨rfl, rfl⟩))
    refine bodyPost_ret_by (v := .tuple #[.agg #[.int .i64 r, .int .i64 (l + 1), .int .i64 (2 * i + 1)], .bool true]) (by rw [results_cell_tmp rfl]; go_simp) rfl ⟨rfl, ?_⟩
    repeat (first | exact grown_refl _ | refine g_alloc ?_ _ | refine g_drewN ?_ _ | refine g_set ?_ _ _ _ (by omega))

/-- The two children of a cell. -/
theorem kid {r l i s : Int} (h : okId r l i = true) (hl : l ≠ 4) (hs : s = 0 ∨ s = 1) :
    okId r (l + 1) (2 * i + s) = true ∧ startOf r (l + 1) (2 * i + s) = startOf r l i + s * widthOf (l + 1) ∧ widthOf l = 2 * widthOf (l + 1) := by
  obtain ⟨h0, h1, h2, h3, h4, h5⟩ := of_ok h
  have hk : okId r (l + 1) (2 * i + s) = true := by
    apply ok_true
    rcases lvl h2 h3 with rfl | rfl | rfl | rfl | rfl
    all_goals
      simp at h5 ⊢
      omega
  refine ⟨hk, ?_, ?_⟩
  · rw [show startOf r l i = r * 16 + i * widthOf l from if_pos h, show startOf r (l + 1) (2 * i + s) = r * 16 + (2 * i + s) * widthOf (l + 1) from if_pos hk]
    rcases lvl h2 h3 with rfl | rfl | rfl | rfl | rfl
    all_goals
      simp [widthOf]
      try omega
  · rcases lvl h2 h3 with rfl | rfl | rfl | rfl | rfl
    all_goals first | rfl | omega

theorem infoId2 : (Try.prog.info? 35).map (fun i => (i.zero, i.size, i.bytes)) = some (some (.agg #[.int .i64 0, .int .i64 0, .int .i64 0]), 3, 24) := by kernel_rfl
theorem Cur_not_row {B : Nat} {w : World} {C : Nat} {a : Option Addr} {len cap : Nat} (h : Draw.Cur B w C a len cap) {base k : Nat} {u : Value} {xs : List Value} (hr : w.ownsRow base 35 3 u k xs) : some C ≠ u.ownBlock := by
  obtain ⟨i, x, -, -, -, -, hb⟩ := h.blk
  rcases hr.2 with ⟨rfl, _⟩ | ⟨g, cap, cur, rfl, _, hgb, _⟩
  · simp [Value.ownBlock]
  · intro e'
    obtain rfl : C = g := by simpa [Value.ownBlock] using e'
    have := hb.symm.trans hgb
    simp at this

/-- What the draws of a mesh hold: the cursor, the mesh's box, its row. -/
structure Out (B C Bm : Nat) (a : Option Addr) (len cap : Nat) (R : Int) (w : World) (xs : List C3) (v : Value) : Prop where
  cur : Draw.Cur B w C a len cap
  box : MBox w Bm R v
  row : w.ownsRow B 35 3 v xs.length (flatC xs)
  size : B ≤ w.heap.size
/-- What they leave as it was. -/
structure Fr (C Bm : Nat) (w w' : World) (v v' : Value) : Prop where
  os : w'.os = w.os
  tape : w'.tape = w.tape
  output : w'.output = w.output
  size : w.heap.size ≤ w'.heap.size
  block : ∀ b, b < w.heap.size → b ≠ C → b ≠ Bm → some b ≠ v.ownBlock → w'.heap[b]? = w.heap[b]?
  own : ∀ j, v'.ownBlock = some j → v.ownBlock = some j ∨ w.heap.size ≤ j
theorem Fr.refl (C Bm : Nat) (w : World) (v : Value) : Fr C Bm w w v v := ⟨rfl, rfl, rfl, Nat.le_refl _, fun _ _ _ _ _ => rfl, fun _ h => .inl h⟩
theorem Fr.trans {C Bm : Nat} {w1 w2 w3 : World} {v1 v2 v3 : Value} (h : Fr C Bm w1 w2 v1 v2) (k : Fr C Bm w2 w3 v2 v3) : Fr C Bm w1 w3 v1 v3 := by
  refine ⟨k.os.trans h.os, k.tape.trans h.tape, k.output.trans h.output, Nat.le_trans h.size k.size, fun b hb h1 h2 h3 => ?_, fun j hj => ?_⟩
  · refine (k.block b (Nat.lt_of_lt_of_le hb h.size) h1 h2 (fun e => ?_)).trans (h.block b hb h1 h2 h3)
    rcases h.own b e.symm with e' | e'
    · exact h3 e'.symm
    · omega
  · rcases k.own j hj with e | e
    · exact h.own j e
    · exact .inr (Nat.le_trans h.size e)
theorem Fr.of_grown {C Bm : Nat} {w w' : World} {v : Value} {row : Option Nat} (h : w.grownBy w' row) (hr : row = none ∨ row = some C ∨ row = some Bm) : Fr C Bm w w' v v :=
  ⟨h.os, h.tape, h.output, h.size, fun b hb h1 h2 _ => h.block b hb (by rcases hr with rfl | rfl | rfl <;> simp [h1, h2]), fun _ e => .inl e⟩
theorem Fr.below {B C Bm : Nat} {w w' : World} {v v' : Value} (h : Fr C Bm w w' v v') (hC : B ≤ C) (hB : B ≤ Bm) (hw : B ≤ w.heap.size) (hv : ∀ j, v.ownBlock = some j → B ≤ j) : Below B w w' :=
  ⟨h.os, h.tape, h.output, h.size, fun b hb => h.block b (by omega) (by omega) (by omega) (fun e => by have := hv b e.symm; omega)⟩
variable {B C Bm : Nat} {a : Option Addr} {len cap : Nat} {R : Int}
theorem Out.past {w : World} {xs : List C3} {v : Value} (h : Out B C Bm a len cap R w xs v) {w' : World} (hg : w.grownBy w' none) : Out B C Bm a len cap R w' xs v :=
  ⟨h.cur.kept hg (by simp) (by simp), h.box.kept hg (by simp), h.row.kept hg (by cases v.ownBlock <;> simp), Nat.le_trans h.size hg.size⟩
theorem Out.drawn {w : World} {xs : List C3} {v : Value} (h : Out B C Bm a len cap R w xs v) (hne : Bm ≠ C) {w' : World} (hc : Draw.Cur B w' C a len cap) (hg : w.grownBy w' (some C)) : Out B C Bm a len cap R w' xs v :=
  ⟨hc, h.box.kept hg (by simp [hne]), h.row.kept hg (.inr (Cur_not_row h.cur h.row).symm), Nat.le_trans h.size hg.size⟩

theorem Out.grew {wx w1 : World} {xs : List C3} {v : Value} {x : C3} {gg cap' : Nat} {tmp : Obj} (hX : Out B C Bm a len cap R wx xs v) (hBm : B ≤ Bm) (hne : Bm ≠ C)
    (hown1 : w1.ownsRow B 35 3 (.slice (some ⟨gg, 0, none⟩) (xs.length + 1) cap') (xs.length + 1) (flatC xs ++ [.int .i64 x.1, .int .i64 x.2.1, .int .i64 x.2.2]))
    (hgg : (wx.alloc tmp).grownBy w1 v.ownBlock) (hat : v.ownBlock = some gg ∨ gg = wx.heap.size + 1) :
    MBox w1 Bm R v ∧ Out B C Bm a len cap R (w1.setCell ⟨Bm, 1, none⟩ (.slice (some ⟨gg, 0, none⟩) (xs.length + 1) cap')) (xs ++ [x]) (.slice (some ⟨gg, 0, none⟩) (xs.length + 1) cap')
      ∧ Fr C Bm wx (w1.setCell ⟨Bm, 1, none⟩ (.slice (some ⟨gg, 0, none⟩) (xs.length + 1) cap')) v (.slice (some ⟨gg, 0, none⟩) (xs.length + 1) cap') := by
  obtain ⟨p1, p2, p3, -, p5, p6⟩ := hX.box.appended hX.row hX.size hBm hown1 hgg
  have hlt := hX.row.lt
  have hc1 := (hX.cur.kept (World.grownBy_alloc wx tmp none) (by simp) (by simp)).kept hgg (Cur_not_row hX.cur hX.row) (fun k hk => (hlt k hk).1)
  have hset := grownBy_setC w1 Bm 1 (.slice (some ⟨gg, 0, none⟩) (xs.length + 1) cap')
  refine ⟨p1, ⟨hc1.kept hset (by simp; omega) (fun k e => by cases e; exact hBm), p2, by rw [flatC_snoc, List.length_append]; exact p3, Nat.le_trans hX.size p5.size⟩, ⟨p5.os, p5.tape, p5.output, p5.size, fun b hb _ h2 h3 => p6 b hb h3 h2, fun j hj => ?_⟩⟩
  have hj' : gg = j := by simpa [Value.ownBlock] using hj
  subst hj'
  rcases hat with e | e
  · exact .inl e
  · exact .inr (by omega)

def RootPost (B C Bm : Nat) (a : Option Addr) (len cap : Nat) (R : Int) (w : World) (v : Value) (e : Int) (en : Ending) (w' : World) : Prop :=
  en = .returned (.tuple #[]) ∧ ∃ ys v', Out B C Bm a len cap R w' ys v' ∧ run ys = some e ∧ Fr C Bm w w' v v'

set_option maxHeartbeats 8000000 in
theorem root_is (hBm : B ≤ Bm) (hne : Bm ≠ C) : ∀ (d : Nat) (r l i ch : Int) (w : World) (xs : List C3) (v : Value) (e : Int), okId r l i = true → l + d = 4 → ch + d ≤ 100 → -100 ≤ ch → Out B C Bm a len cap R w xs v → run xs = some e → startOf r l i = e →
    Calls Try.prog 68 #[.pointer (some ⟨C, 0, none⟩), .agg #[.int .i64 r, .int .i64 l, .int .i64 i], .int .i64 ch, .pointer (some ⟨Bm, 1, none⟩)] w (RootPost B C Bm a len cap R w v (e + widthOf l)) := by
  obtain ⟨i0, hi0, hz0, hz1, hz2⟩ := info_parts infoId2
  intro d
  induction d with
  | zero =>
    intro r l i ch w xs v e ho hd hch hch0 hO hrun hst
    obtain rfl : l = 4 := by omega
    have HO := Lib.hid ho; have HR := Lib.hid hrun; have HS := Lib.hid hst; clear ho hrun hst
    have HLn := Lib.hid (show xs.length ≤ 128 by have := (run_bounds _ HR.out); omega)
    have HX0 := Lib.hid hO; clear hO
    go_enter Try.func68, Try.ntmps68
    go_upto_region 2 with fail
    have hx0 := Cell.laid_new w 35 r 4 i
    have HX := Lib.hid (HX0.out.past (World.grownBy_alloc w (.cells #[.int .i64 r, .int .i64 4, .int .i64 i] 35) none))
    have HG := Lib.hid (show Fr C Bm w (w.alloc (.cells #[.int .i64 r, .int .i64 4, .int .i64 i] 35)) v v from Fr.of_grown (World.grownBy_alloc w _ none) (.inl rfl))
    generalize w.alloc (.cells #[.int .i64 r, .int .i64 4, .int .i64 i] 35) = wx at *
    have hb1 := HX.out.box.c1
    have hca : ∀ o, (wx.alloc o).cell? ⟨Bm, 1, none⟩ = some v := fun o => (World.grownBy_alloc wx o none).cell hb1 (by simp)
    obtain ⟨k0, k1, k2, -⟩ := hx0
    go_region_law
      ((refine step_append_lies _ (by rfl) _ _ _ (by rfl) B 35 i0 _ 3 24 Try.underlying24 hi0 hz0 hz1 hz2 rfl (by omega) _ _ _ (by rfl) (by first | exact (HX.out.row.alloc _).drew | exact (HX.out.row.drew).alloc _ | exact (HX.out.row.drew.alloc _).drew | exact HX.out.row.alloc _) ⟨wx.heap.size, 0, none⟩ 1 1 [.int .i64 r, .int .i64 4, .int .i64 i] (by rfl) (by rfl) (World.news_of_block (cs := #[.int .i64 r, .int .i64 4, .int .i64 i]) (t := 35) (fr := (0, 0)) (by first | exact heap_alloc_new wx _ | exact heap_alloc_new wx.drew _)) (by simp [Value.oneCell']) (by omega) (by have := HLn.out; unfold maxLen; omega) (by have := HLn.out; omega) (by have := HX.out.size; simp; omega) (wx.heap.size + 1) (by simp) ?_; intro gg cap' w1 hown1 hgrow hat hlt2; have hgg : (wx.alloc (.cells #[.int .i64 r, .int .i64 4, .int .i64 i] 35)).grownBy w1 v.ownBlock := ⟨hgrow.os, hgrow.tape, hgrow.output, hgrow.size, hgrow.block⟩; have hG := HX.out.grew (x := (r, 4, i)) hBm hne hown1 hgg hat; have hd1 := hG.1.c1; have hf1 := hG.1.f1; have HGR := Lib.hid hG.2; clear hG hown1 hgrow hgg hat hlt2))
    all_goals go_wp2_with fail
    all_goals
      refine bodyPost_ret (results_none rfl _ _ _) rfl ⟨rfl, xs ++ [(r, 4, i)], _, HGR.out.1, ?_, HG.out.trans HGR.out.2⟩
      rw [run_snoc, HR.out]
      exact step_yes HS.out
  | succ d ih =>
    intro r l i ch w xs v e ho hd hch hch0 hO hrun hst
    have hl4 : l ≠ 4 := by omega
    have hl4b : (l == 4) = false := by simp [hl4]
    have HLn := Lib.hid (show xs.length ≤ 128 by have := (run_bounds _ hrun); omega)
    have hCl := hO.cur.lt
    have hBl := hO.box.lt
    have hVl := hO.row.lt
    have hx0 := Cell.laid_new w 35 r l i
    have hxa : (w.alloc (.cells #[.int .i64 r, .int .i64 l, .int .i64 i] 35)).heap[w.heap.size]? = some (.cells #[.int .i64 r, .int .i64 l, .int .i64 i] 35 (0, 0)) := heap_alloc_new _ _
    have HXA := Lib.hid (hO.past (World.grownBy_alloc w (.cells #[.int .i64 r, .int .i64 l, .int .i64 i] 35) none))
    have HGA := Lib.hid (show Fr C Bm w (w.alloc (.cells #[.int .i64 r, .int .i64 l, .int .i64 i] 35)) v v from Fr.of_grown (World.grownBy_alloc w _ none) (.inl rfl))
    obtain ⟨j0, j1, j2, -⟩ := hx0
    have HO := Lib.hid ho; have HR := Lib.hid hrun; have HS := Lib.hid hst; have HX0 := Lib.hid hO; clear ho hrun hst hO
    have HVL := Lib.hid hVl; clear hVl
    have hsza : (w.alloc (.cells #[.int .i64 r, .int .i64 l, .int .i64 i] 35)).heap.size = w.heap.size + 1 := by simp
    have HXB := Lib.hid hxa; clear hxa
    go_enter Try.func68, Try.ntmps68
    go_wp2_with fail
    refine (Draw.once_any ch (by omega) HXA.out.cur).mono ?_
    rintro en wo ⟨b, rfl, hC, hg⟩
    have HX := Lib.hid (HXA.out.drawn hne hC hg)
    have HG := Lib.hid (HGA.out.trans (Fr.of_grown (v := v) hg (.inr (.inl rfl))))
    have k0 := hg.cell j0 (by simp; omega)
    have k1 := hg.cell j1 (by simp; omega)
    have k2 := hg.cell j2 (by simp; omega)
    have hxo := (hg.block w.heap.size (by omega) (by simp; omega)).trans HXB.out
    have hszo : w.heap.size + 1 ≤ wo.heap.size := hsza ▸ hg.size
    have HXO := Lib.hid hxo
    clear hC hg hxo hsza
    cases b with
    | false =>
      go_upto_region 2 with fail
      have hb1 := HX.out.box.c1
      have hca : ∀ o, (wo.alloc o).cell? ⟨Bm, 1, none⟩ = some v := fun o => (World.grownBy_alloc wo o none).cell hb1 (by simp)
      go_region_law
        ((refine step_append_lies _ (by rfl) _ _ _ (by rfl) B 35 i0 _ 3 24 Try.underlying24 hi0 hz0 hz1 hz2 rfl (by omega) _ _ _ (by rfl) (by first | exact (HX.out.row.alloc _).drew | exact (HX.out.row.drew).alloc _ | exact (HX.out.row.drew.alloc _).drew | exact HX.out.row.alloc _) ⟨wo.heap.size, 0, none⟩ 1 1 [.int .i64 r, .int .i64 l, .int .i64 i] (by rfl) (by rfl) (World.news_of_block (cs := #[.int .i64 r, .int .i64 l, .int .i64 i]) (t := 35) (fr := (0, 0)) (by first | exact heap_alloc_new wo _ | exact heap_alloc_new wo.drew _)) (by simp [Value.oneCell']) (by omega) (by have := HLn.out; unfold maxLen; omega) (by have := HLn.out; omega) (by have := HX.out.size; simp; omega) (wo.heap.size + 1) (by simp) ?_; intro gg cap' w1 hown1 hgrow hat hlt2; have hgg : (wo.alloc (.cells #[.int .i64 r, .int .i64 l, .int .i64 i] 35)).grownBy w1 v.ownBlock := ⟨hgrow.os, hgrow.tape, hgrow.output, hgrow.size, hgrow.block⟩; have hG := HX.out.grew (x := (r, l, i)) hBm hne hown1 hgg hat; have hd1 := hG.1.c1; have hf1 := hG.1.f1; have HGR := Lib.hid hG.2; clear hG hown1 hgrow hgg hat hlt2))
      all_goals go_wp2_with fail
      all_goals
        refine bodyPost_ret (results_none rfl _ _ _) rfl ⟨rfl, xs ++ [(r, l, i)], _, HGR.out.1, ?_, HG.out.trans HGR.out.2⟩
        rw [run_snoc, HR.out]
        exact step_yes HS.out
    | true =>
      go_wp2_with fail
      go_loopw [8] (fun p wr => ∃ (k : Nat) (ys : List C3) (v' : Value), (k : Int) ≤ 2 ∧ p = .int .i64 k ∧ Hid (Out B C Bm a len cap R wr ys v') ∧ Hid (run ys = some (e + k * widthOf (l + 1))) ∧ Hid (Fr C Bm wo wr v v') ∧ Hid (wr.heap[w.heap.size]? = some (.cells #[.int .i64 r, .int .i64 l, .int .i64 i] 35 (0, 0)))) (fun p _ => 2 - (intOf p).toNat)
      case atStart => exact ⟨0, xs, v, by omega, rfl, HX, Lib.hid (by rw [HR.out]; congr 1; simp), Lib.hid (Fr.refl _ _ _ _), HXO⟩
      case round =>
        obtain ⟨k, ys, v', hk, rfl, HOk, HRk, HFk, HXk⟩ := hrel
        by_cases hlt : (k : Int) < 2
        · have hs : (k : Int) = 0 ∨ (k : Int) = 1 := by omega
          obtain ⟨q1, q2, q3⟩ := kid HO.out hl4 hs
          have hq2 : startOf r (l + 1) (2 * i + (k : Int)) = e + k * widthOf (l + 1) := by rw [q2, HS.out]
          have HQ := Lib.hid (And.intro q1 hq2); clear q1 q2 q3 hq2
          have c0 : wr.cell? ⟨w.heap.size, 0, none⟩ = some (.int .i64 r) := by simp [World.cell?, HXk.out]
          have c1 : wr.cell? ⟨w.heap.size, 1, none⟩ = some (.int .i64 l) := by simp [World.cell?, HXk.out]
          have c2 : wr.cell? ⟨w.heap.size, 2, none⟩ = some (.int .i64 i) := by simp [World.cell?, HXk.out]
          have HSs := Lib.hid hs; clear hs
          have HL4 := Lib.hid hl4
          go_wp2_with (first
            | (go_at_call 70; (with_reducible refine (specChild_yes r l i k HO.out HL4.out HSs.out _).mono ?_); rintro en w2 ⟨rfl, hg⟩; have HG2 := Lib.hid (grown_trans hg (World.grownBy_alloc w2 (.cells #[.int .i64 r, .int .i64 (l + 1), .int .i64 (2 * i + (k : Int))] 35) none)); clear hg)
            | (go_at_call 68; (with_reducible refine (ih r (l + 1) (2 * i + (k : Int)) (ch + 1) _ ys v' _ HQ.out.1 (by omega) (by omega) (by omega) (HOk.out.past HG2.out) HRk.out HQ.out.2).mono ?_); rintro en w3 ⟨rfl, ys', v3, hO3, hR3, hF3⟩; have HO3 := Lib.hid hO3; have HR3 := Lib.hid hR3; have HF3 := Lib.hid hF3; clear hO3 hR3 hF3))
          go_roundw
          case rel =>
            have hF := (HFk.out.trans (Fr.of_grown (v := v') HG2.out (.inl rfl))).trans HF3.out
            refine ⟨k + 1, ys', v3, by omega, by go_num, HO3, Lib.hid ?_, Lib.hid hF, Lib.hid ((hF.block w.heap.size (by omega) (by omega) (by omega) (fun e' => by have := (HVL.out _ e'.symm).2; omega)).trans HXO.out)⟩
            rw [HR3.out]
            congr 1
            rw [Int.natCast_add, Int.add_mul]
            simp
            omega
          case measure => simp [intOf]; omega
        · obtain rfl : k = 2 := by omega
          go_wp2_with fail
          refine bodyPost_end (results_none rfl _ _ _) rfl ⟨rfl, ys, v', HOk.out, ?_, HG.out.trans HFk.out⟩
          rw [HRk.out]
          have := (kid HO.out hl4 (.inl rfl)).2.2
          congr 1
          simp
          omega
end Go.Proofs.Ytaccigmkddomaaa.Mesh
