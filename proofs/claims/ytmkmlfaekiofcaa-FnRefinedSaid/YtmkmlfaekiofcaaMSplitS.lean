/- Meshes: the reference model's l05Split, as a contract: the mesh with one leaf replaced by its children, in memory of its own; nothing that was there is written.
   Conditions: at most 1000 leaves. -/
import Derived.Test.YtmkmlfaekiofcaaMCopy
import Derived.Test.YtmkmlfaekiofcaaMRoot
import Derived.Test.YtmkmlfaekiofcaaMSplitPure
namespace Go.Proofs.Ytmkmlfaekiofcaa.Mesh
open Go.ChangeShapes Go.WideShapes Go.ChangeAt Go.RowKit Go.Proofs.Ytmkmlfaekiofcaa.Cell

theorem specKid_is (r l i s : Int) (y : C3) (h : okId r l i = true) (hl : l ≠ 4) (hs : s = 0 ∨ s = 1) (hy : kidOf (r, l, i) s = y) (w : World) :
    Calls Try.prog 77 #[.agg #[.int .i64 r, .int .i64 l, .int .i64 i], .int .i64 s] w fun e w' =>
      e = .returned (.tuple #[.agg #[.int .i64 y.1, .int .i64 y.2.1, .int .i64 y.2.2], .bool true]) ∧ w.grownBy w' none := by
  subst hy
  exact specChild_yes r l i s h hl hs w
theorem grown_row {a b c : World} {n : Nat} {v : Value} {xs : List Value} (h : a.grownBy b none) (k : b.grownBy c v.ownBlock) (ho : b.ownsRow a.heap.size 33 3 v n xs) : a.grownBy c none :=
  ⟨k.os.trans h.os, k.tape.trans h.tape, k.output.trans h.output, Nat.le_trans h.size k.size, fun i hi _ => (k.block i (Nat.lt_of_lt_of_le hi h.size) (fun e => by have := (ho.lt i e.symm).1; omega)).trans (h.block i hi (by simp))⟩
theorem reads_take {w : World} {g n : Nat} {xs : List C3} (h : Reads w (some ⟨g, 0, none⟩) n xs) (k : Nat) : ∀ j u, (flatC (xs.take k))[j]? = some u → w.cell? ((⟨g, 0, none⟩ : Addr).add j) = some u := by
  intro j u hj
  rw [← flatC_take, List.getElem?_take] at hj
  split at hj
  · exact reads_news h j u hj
  · cases hj
theorem reads_drop {w : World} {g n : Nat} {xs : List C3} (h : Reads w (some ⟨g, 0, none⟩) n xs) (k : Nat) : ∀ j u, (flatC (xs.drop k))[j]? = some u → w.cell? ((⟨g, k * 3, none⟩ : Addr).add j) = some u := by
  intro j u hj
  rw [← flatC_drop, List.getElem?_drop] at hj
  have := reads_news h _ _ hj
  rw [Addr.add_lit, Nat.zero_add] at this
  rw [Addr.add_lit]
  exact this
theorem IBox.kept {W W' : World} {B : Nat} {x : C3} {row : Option Nat} (h : IBox W B x) (hg : W.grownBy W' row) (hne : some B ≠ row) : IBox W' B x := (hg.block B (IBox.lt h) hne).trans h
theorem pair_new2 (w : World) (p q : C3) : (w.alloc (.cells #[.int .i64 p.1, .int .i64 p.2.1, .int .i64 p.2.2, .int .i64 q.1, .int .i64 q.2.1, .int .i64 q.2.2] 33)).heap[w.heap.size]? = some (.cells (flatC [p, q]).toArray 33 (0, 0)) := heap_alloc_new w _

set_option maxHeartbeats 4000000 in
theorem specSplit_is (R : Int) (g n cap k : Nat) (xs : List C3) (x : C3) (w : World) (hr : Reads w (some ⟨g, 0, none⟩) n xs) (hn : n ≤ 1000) (hcap : n ≤ cap) (hx : xs[k]? = some x) (ho : okOf x = true) (hl4 : x.2.1 < 4) :
    Calls Try.prog 57 #[.agg #[.int .i64 R, .slice (some ⟨g, 0, none⟩) n cap], .int .i64 k] w fun e w' => ∃ v, e = .returned (.agg #[.int .i64 R, v]) ∧ w'.ownsRow w.heap.size 33 3 v (n + 1) (flatC (split2 xs k)) ∧ w.grownBy w' none := by
  obtain ⟨i0, hi0, hz0, hz1, hz2⟩ := info_parts infoIdR
  obtain ⟨r, l, i⟩ := x
  have HS := Lib.hid (split2_of hx)
  obtain ⟨p0, hp0⟩ : ∃ p, kidOf (r, l, i) 0 = p := ⟨_, rfl⟩
  obtain ⟨p1, hp1⟩ : ∃ p, kidOf (r, l, i) 1 = p := ⟨_, rfl⟩
  rw [hp0, hp1] at HS
  have HP0 := Lib.hid (fun u => specKid_is r l i 0 p0 ho (by dsimp only at hl4; omega) (.inl rfl) hp0 u)
  have HP1 := Lib.hid (fun u => specKid_is r l i 1 p1 ho (by dsimp only at hl4; omega) (.inr rfl) hp1 u)
  have hk : k < n := by have := (List.getElem?_eq_some_iff.1 hx).1; have := hr.len; omega
  have hki : (k : Int) < n := by omega
  have hni : (n : Int) ≤ 1000 := by omega
  have hnc : (n : Int) ≤ cap := by omega
  have HX := Lib.hid hx
  have HR := Lib.hid hr
  have HLN := Lib.hid hr.len
  clear hx ho hl4 hp0 hp1 hr
  go_enter Try.func57, Try.ntmps57
  go_upto_region 1 with fail
  have HG0 := Lib.hid (show w.grownBy ((w.alloc (.cells #[.int .i64 R, .slice (some ⟨g, 0, none⟩) n cap] 26)).alloc (.cells #[.int .i64 0, .slice none 0 0] 26)) none from g_alloc (g_alloc (grown_refl _) _) _)
  have HX0 := Lib.hid ((MBox.new w R (.slice (some ⟨g, 0, none⟩) n cap)).alloc (.cells #[.int .i64 0, .slice none 0 0] 26))
  have hm := MBox.new (w.alloc (.cells #[.int .i64 R, .slice (some ⟨g, 0, none⟩) n cap] 26)) 0 (.slice none 0 0)
  rw [World.size_alloc] at hm
  have HM0 := Lib.hid hm
  clear hm
  have hsz : w.heap.size + 2 = ((w.alloc (.cells #[.int .i64 R, .slice (some ⟨g, 0, none⟩) n cap] 26)).alloc (.cells #[.int .i64 0, .slice none 0 0] 26)).heap.size := by simp
  have HR0 := Lib.hid (HR.out.on HG0.out)
  generalize (w.alloc (.cells #[.int .i64 R, .slice (some ⟨g, 0, none⟩) n cap] 26)).alloc (.cells #[.int .i64 0, .slice none 0 0] 26) = W0 at *
  have b1 := MBox.c1 HX0.out
  obtain ⟨g_, hg_, -, d0, d1, d2⟩ := HR0.out.at_ k _ HX.out
  cases hg_
  dsimp only at d0 d1 d2
  go_upto_region 2 with (go_at_call 77; ((with_reducible refine (HP0.out _).mono ?_); rintro e w1 ⟨rfl, hg⟩; have HW1 := Lib.hid hg; clear hg))
  have HG1 := Lib.hid (show W0.grownBy (w1.alloc (.cells #[.int .i64 p0.1, .int .i64 p0.2.1, .int .i64 p0.2.2] 33)) none from g_alloc HW1.out _)
  have HA1 := Lib.hid (IBox.new w1 p0)
  have hs1 : W0.heap.size ≤ w1.heap.size := HW1.out.size
  clear b1 d0 d1 d2
  generalize w1.alloc (.cells #[.int .i64 p0.1, .int .i64 p0.2.1, .int .i64 p0.2.2] 33) = W1 at *
  have b1 := MBox.c1 (HX0.out.kept HG1.out (by simp))
  obtain ⟨g_, hg_, -, d0, d1, d2⟩ := (HR0.out.on HG1.out).at_ k _ HX.out
  cases hg_
  dsimp only at d0 d1 d2
  go_upto_region 3 with (go_at_call 77; ((with_reducible refine (HP1.out _).mono ?_); rintro e w2 ⟨rfl, hg⟩; have HW2 := Lib.hid hg; clear hg))
  have HG2 := Lib.hid (show W0.grownBy (w2.alloc (.cells #[.int .i64 p1.1, .int .i64 p1.2.1, .int .i64 p1.2.2] 33)) none from g_alloc (grown_trans HG1.out HW2.out) _)
  have HA2 := Lib.hid ((IBox.kept HA1.out HW2.out (by simp)).kept (World.grownBy_alloc w2 (.cells #[.int .i64 p1.1, .int .i64 p1.2.1, .int .i64 p1.2.2] 33) none) (by simp))
  have HB2 := Lib.hid (IBox.new w2 p1)
  have hs2 : W0.heap.size ≤ w2.heap.size := (grown_trans HG1.out HW2.out).size
  clear b1 d0 d1 d2
  generalize w2.alloc (.cells #[.int .i64 p1.1, .int .i64 p1.2.1, .int .i64 p1.2.2] 33) = W2 at *
  have HG3 := Lib.hid (g_alloc HG2.out (.cells #[] 33))
  have b1 := MBox.c1 (HX0.out.kept HG3.out (by simp))
  have hs3 : W0.heap.size ≤ W2.heap.size := HG2.out.size
  have HE := Lib.hid (own_empty W2 w.heap.size (by omega))
  have HNA := Lib.hid (reads_take (HR0.out.on HG3.out) k)
  have HLA := Lib.hid (show (flatC (xs.take k)).length = k * 3 by rw [flatC_len, List.length_take, HLN.out]; omega)
  go_upto_region 4 with (at_builtin; refine wpList_append_own _ rfl _ _ 24 rfl w.heap.size 33 i0 (.agg #[.int .i64 0, .int .i64 0, .int .i64 0]) 3 24 Try.underlying24 hi0 hz0 hz1 hz2 rfl (by decide) _ _ _ rfl HE.out ⟨g, 0, none⟩ k cap (flatC (xs.take k)) rfl HLA.out HNA.out (flatC_one _) (by unfold maxLen; omega) (by omega) (by simp; omega) ?_; intro v' w3 hown' hgrow hnil; clear hnil; have HO3 := Lib.hid hown'; have HGR3 := Lib.hid (show World.grownBy _ w3 (some W2.heap.size) from hgrow); clear hown' hgrow)
  rw [Nat.zero_add, List.nil_append] at HO3
  obtain ⟨a3, cap3, rfl⟩ := own_shape HO3.out
  have HA3 := Lib.hid ((IBox.kept HA2.out (World.grownBy_alloc W2 (.cells #[] 33) none) (by simp)).kept HGR3.out (by have := IBox.lt HA2.out; simp; omega))
  have HB3 := Lib.hid ((IBox.kept HB2.out (World.grownBy_alloc W2 (.cells #[] 33) none) (by simp)).kept HGR3.out (by have := IBox.lt HB2.out; simp; omega))
  have HGA := Lib.hid (g_alloc (grown_above HGR3.out (show W0.heap.size ≤ W2.heap.size from hs3) HG3.out) (.cells #[.int .i64 p0.1, .int .i64 p0.2.1, .int .i64 p0.2.2, .int .i64 p1.1, .int .i64 p1.2.1, .int .i64 p1.2.2] 33))
  have HOA := Lib.hid (HO3.out.alloc (.cells #[.int .i64 p0.1, .int .i64 p0.2.1, .int .i64 p0.2.2, .int .i64 p1.1, .int .i64 p1.2.1, .int .i64 p1.2.2] 33))
  have HPN := Lib.hid (World.news_of_block (cs := (flatC [p0, p1]).toArray) (t := 33) (fr := (0, 0)) (pair_new2 w3 p0 p1))
  have hs4 : w.heap.size ≤ (w3.alloc (.cells #[.int .i64 p0.1, .int .i64 p0.2.1, .int .i64 p0.2.2, .int .i64 p1.1, .int .i64 p1.2.1, .int .i64 p1.2.2] 33)).heap.size := by have := HGA.out.size; omega
  have c0 := IBox.c0 HA3.out
  have c1 := IBox.c1 HA3.out
  have c2 := IBox.c2 HA3.out
  have e0 := IBox.c0 HB3.out
  have e1 := IBox.c1 HB3.out
  have e2 := IBox.c2 HB3.out
  clear b1
  go_upto_region 5 with (at_builtin; refine wpList_append_own _ rfl _ _ 24 rfl w.heap.size 33 i0 (.agg #[.int .i64 0, .int .i64 0, .int .i64 0]) 3 24 Try.underlying24 hi0 hz0 hz1 hz2 rfl (by decide) _ _ _ rfl HOA.out ⟨w3.heap.size, 0, none⟩ 2 2 (flatC [p0, p1]) rfl rfl HPN.out (flatC_one _) (by unfold maxLen; omega) (by omega) hs4 ?_; intro v' w4 hown' hgrow hnil; clear hnil; have HO4 := Lib.hid hown'; have HGR4 := Lib.hid (show World.grownBy _ w4 (Value.ownBlock (.slice a3 k cap3)) from hgrow); clear hown' hgrow)
  obtain ⟨a4, cap4, rfl⟩ := own_shape HO4.out
  have hx4 : MBox w4 w.heap.size R (.slice (some ⟨g, 0, none⟩) n cap) := ((HX0.out.kept HGA.out (by simp)).kept HGR4.out (MBox.not_row (HX0.out.kept HGA.out (by simp)) HOA.out))
  have HX4 := Lib.hid (show MBox w4.drew w.heap.size R (.slice (some ⟨g, 0, none⟩) n cap) from hx4)
  have hm4 : MBox w4 (w.heap.size + 1) 0 (.slice none 0 0) := ((HM0.out.kept HGA.out (by simp)).kept HGR4.out (MBox.not_row (HM0.out.kept HGA.out (by simp)) HOA.out))
  have HM4 := Lib.hid (show MBox w4.drew (w.heap.size + 1) 0 (.slice none 0 0) from hm4)
  clear hx4 hm4
  have HG4 := Lib.hid (show w.grownBy w4.drew none from gr_drew (grown_row (grown_trans HG0.out HGA.out) HGR4.out HOA.out))
  have HO5 := Lib.hid (show w4.drew.ownsRow w.heap.size 33 3 (.slice a4 (k + 2) cap4) (k + 2) _ from HO4.out)
  have HLD := Lib.hid (show (flatC (xs.drop (k + 1))).length = (n - (k + 1)) * 3 by rw [flatC_len, List.length_drop, HLN.out])
  have z0 := MBox.c0 HX4.out
  have z1 := MBox.c1 HX4.out
  have f1 : IntKind.i64.wrap ((k : Int) + 1) = (k : Int) + 1 := IntWalk.i64_in _ (by omega)
  have f2 : (0 : Int) ≤ (k : Int) + 1 := by omega
  have f3 : (k : Int) + 1 ≤ (n : Int) := by omega
  have f4 : ((k : Int) + 1).toNat = k + 1 := by omega
  clear HA1 HA2 HA3 HB2 HB3 HGR3 HG1 HG2 HG3 HW1 HW2 HE HNA HLA c0 c1 c2 e0 e1 e2 hs1 hs2 hs3 HP0 HP1 HPN
  by_cases hc : cap = k + 1
  · have HND := Lib.hid (show ∀ j u, (flatC (xs.drop (k + 1)))[j]? = some u → w4.drew.cell? ((⟨g, 0, none⟩ : Addr).add j) = some u from fun j u hj => by
      have h0 : flatC (xs.drop (k + 1)) = [] := by rw [List.drop_of_length_le (by rw [HLN.out]; omega)]; rfl
      rw [h0] at hj
      simp at hj)
    go_region_law ((refine step_append_any rfl _ _ rfl w.heap.size (.slice a4 (k + 2) cap4) (k + 2) _ (by first | (simp [Act.eval]; done) | simp [Act.eval, Act.put]) HO5.out ⟨g, 0, none⟩ (n - (k + 1)) 0 (flatC (xs.drop (k + 1))) (by first | (simp [Act.eval]; done) | simp [Act.eval, Act.put]) HLD.out HND.out (flatC_one _) (by omega) (by have := HG4.out.size; exact this) ?_; intro v' w5 hown' hgrow; obtain ⟨a5, cap5, rfl⟩ := own_shape hown'; have hm5 := HM4.out.kept hgrow (MBox.not_row HM4.out HO5.out); have hx5 := HX4.out.kept hgrow (MBox.not_row HX4.out HO5.out); have r0 := MBox.c0 hm5; have r1 := MBox.c1 hm5; have t0 := MBox.f0 hm5; have t1 := MBox.f1 hm5; have y0 := MBox.c0 hx5; have HM5 := Lib.hid hm5; have HOW := Lib.hid hown'; have HGR := Lib.hid (show World.grownBy _ w5 (Value.ownBlock (.slice a4 (k + 2) cap4)) from hgrow); clear hown' hgrow hm5 hx5))
    all_goals
      go_wp2_with fail
      have ho := HOW.out
      have hz : flatC (xs.take k) ++ flatC [p0, p1] ++ flatC (xs.drop (k + 1)) = flatC (split2 xs k) := by rw [HS.out, ← flatC_append, ← flatC_append]
      rw [hz] at ho
      obtain ⟨hm, ho, hg⟩ := out_set (w := w) (R := R) (by omega) HM5.out ho (grown_row HG4.out HGR.out HO5.out)
      exact bodyPost_ret_by (results_cell_row (fn := Try.f57) rfl _ _ (w.heap.size + 1) _ _ (0, 0) _ rfl hm Try.underlying26 rfl (by kernel_rfl)) rfl ⟨_, rfl, by rw [show n + 1 = k + 2 + (n - (k + 1)) by omega]; exact ho, hg⟩
  · have HND := Lib.hid (reads_drop (HR.out.on HG4.out) (k + 1))
    go_region_law ((refine step_append_any rfl _ _ rfl w.heap.size (.slice a4 (k + 2) cap4) (k + 2) _ (by first | (simp [Act.eval]; done) | simp [Act.eval, Act.put]) HO5.out ⟨g, (k + 1) * 3, none⟩ (n - (k + 1)) (cap - (k + 1)) (flatC (xs.drop (k + 1))) (by first | (simp [Act.eval]; done) | simp [Act.eval, Act.put]) HLD.out HND.out (flatC_one _) (by omega) (by have := HG4.out.size; exact this) ?_; intro v' w5 hown' hgrow; obtain ⟨a5, cap5, rfl⟩ := own_shape hown'; have hm5 := HM4.out.kept hgrow (MBox.not_row HM4.out HO5.out); have hx5 := HX4.out.kept hgrow (MBox.not_row HX4.out HO5.out); have r0 := MBox.c0 hm5; have r1 := MBox.c1 hm5; have t0 := MBox.f0 hm5; have t1 := MBox.f1 hm5; have y0 := MBox.c0 hx5; have HM5 := Lib.hid hm5; have HOW := Lib.hid hown'; have HGR := Lib.hid (show World.grownBy _ w5 (Value.ownBlock (.slice a4 (k + 2) cap4)) from hgrow); clear hown' hgrow hm5 hx5))
    all_goals
      go_wp2_with fail
      have ho := HOW.out
      have hz : flatC (xs.take k) ++ flatC [p0, p1] ++ flatC (xs.drop (k + 1)) = flatC (split2 xs k) := by rw [HS.out, ← flatC_append, ← flatC_append]
      rw [hz] at ho
      obtain ⟨hm, ho, hg⟩ := out_set (w := w) (R := R) (by omega) HM5.out ho (grown_row HG4.out HGR.out HO5.out)
      exact bodyPost_ret_by (results_cell_row (fn := Try.f57) rfl _ _ (w.heap.size + 1) _ _ (0, 0) _ rfl hm Try.underlying26 rfl (by kernel_rfl)) rfl ⟨_, rfl, by rw [show n + 1 = k + 2 + (n - (k + 1)) by omega]; exact ho, hg⟩
end Go.Proofs.Ytmkmlfaekiofcaa.Mesh
