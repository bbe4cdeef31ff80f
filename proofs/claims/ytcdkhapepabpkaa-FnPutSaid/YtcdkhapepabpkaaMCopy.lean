/- Meshes: slices.Clone at a row of cells, and the reference model's l04Copy, as contracts: a row of the call's own with the same cells; nothing that was there is written.
   Conditions: at most 2^20 leaves. -/
import Derived.Test.YtcdkhapepabpkaaMRepl
import Derived.Deep.AppendLies
import Derived.Deep.RegionLaw
import Derived.Deep.CutRange
import Derived.Deep.DeepCutAuto
set_option maxRecDepth 100000
namespace Go.Proofs.Ytcdkhapepabpkaa.Mesh
open Go.ChangeShapes Go.WideShapes Go.ChangeAt Go.RowKit Go.Proofs.Ytcdkhapepabpkaa.Cell

theorem flatC_get {xs : List C3} {j : Nat} {u : Value} (h : (flatC xs)[j]? = some u) : ∃ k x, xs[k]? = some x ∧ ((j = k * 3 ∧ u = .int .i64 x.1) ∨ (j = k * 3 + 1 ∧ u = .int .i64 x.2.1) ∨ (j = k * 3 + 2 ∧ u = .int .i64 x.2.2)) := by
  have hj := (List.getElem?_eq_some_iff.1 h).1
  rw [flatC_len] at hj
  obtain ⟨r, l, i, hx⟩ := get_of_lt (xs := xs) rfl (k := j / 3) (by omega)
  obtain ⟨f0, f1, f2⟩ := flatC_at xs _ _ hx
  refine ⟨j / 3, _, hx, ?_⟩
  rcases (show j = j / 3 * 3 ∨ j = j / 3 * 3 + 1 ∨ j = j / 3 * 3 + 2 by omega) with e | e | e
  · rw [e, f0] at h; cases h; exact .inl ⟨by omega, rfl⟩
  · rw [e, f1] at h; cases h; exact .inr (.inl ⟨by omega, rfl⟩)
  · rw [e, f2] at h; cases h; exact .inr (.inr ⟨by omega, rfl⟩)
/-- A row that is read, cell by cell. -/
theorem reads_news {w : World} {g n : Nat} {xs : List C3} (h : Reads w (some ⟨g, 0, none⟩) n xs) : ∀ j u, (flatC xs)[j]? = some u → w.cell? ((⟨g, 0, none⟩ : Addr).add j) = some u := by
  intro j u hj
  obtain ⟨k, x, hx, hc⟩ := flatC_get hj
  obtain ⟨g_, hg_, -, d0, d1, d2⟩ := h.at_ k x hx
  cases hg_
  rw [Addr.add_lit, Nat.zero_add]
  rcases hc with ⟨rfl, rfl⟩ | ⟨rfl, rfl⟩ | ⟨rfl, rfl⟩
  · exact d0
  · exact d1
  · exact d2
theorem grown_above {a b c : World} {N : Nat} (k : b.grownBy c (some N)) (hN : a.heap.size ≤ N) (h : a.grownBy b none) : a.grownBy c none :=
  ⟨k.os.trans h.os, k.tape.trans h.tape, k.output.trans h.output, Nat.le_trans h.size k.size, fun i hi hne => (k.block i (Nat.lt_of_lt_of_le hi h.size) (by simp; omega)).trans (h.block i hi hne)⟩
theorem own_empty (w : World) (base : Nat) (hb : base ≤ w.heap.size) : (w.alloc (.cells #[] 36)).ownsRow base 36 3 (.slice (some ⟨w.heap.size, 0, none⟩) 0 0) 0 [] :=
  World.ownsRow_made w #[] 0 hb (by unfold maxLen; omega) rfl

set_option maxHeartbeats 2000000 in
theorem clone_is (base g n cap : Nat) (xs : List C3) (w : World) (hr : Reads w (some ⟨g, 0, none⟩) n xs) (hn : n ≤ 1048576) (hb : base ≤ w.heap.size) :
    Calls Try.prog 67 #[.slice (some ⟨g, 0, none⟩) n cap] w fun e w' => ∃ v, e = .returned v ∧ w'.ownsRow base 36 3 v n (flatC xs) ∧ w.grownBy w' none := by
  obtain ⟨i0, hi0, hz0, hz1, hz2⟩ := info_parts infoIdR
  have HNS := Lib.hid (reads_news (hr.past (.cells #[] 36)))
  have HE := Lib.hid (own_empty w base hb)
  have HL := Lib.hid (show (flatC xs).length = n * 3 by rw [flatC_len, hr.len])
  have HN := Lib.hid hn
  have he : ∀ u : World, (binOp .eql 24 (.slice (some ⟨g, 0, none⟩) n cap) (.slice none 0 0)).run Try.prog u = .ok (.bool false) u := fun _ => rfl
  clear hr hn
  go_enter Try.func67, Try.ntmps67
  go_wp2_with (at_builtin; refine wpList_append_own _ rfl _ _ 24 rfl base 36 i0 (.agg #[.int .i64 0, .int .i64 0, .int .i64 0]) 3 24 Try.underlying24 hi0 hz0 hz1 hz2 rfl (by decide) _ _ _ rfl HE.out ⟨g, 0, none⟩ n cap (flatC xs) rfl HL.out HNS.out (flatC_one _) (by have := HN.out; unfold maxLen; omega) (by have := HN.out; omega) (by simp; omega) ?_; intro v' w1 hown' hgrow hnil; clear hnil; have HOW := Lib.hid hown'; have HGR := Lib.hid hgrow; clear hown' hgrow)
  go_ret
  exact ⟨v', rfl, by rw [Nat.zero_add, List.nil_append] at HOW; exact HOW.out, grown_above HGR.out (Nat.le_refl _) (World.grownBy_alloc _ _ _)⟩

theorem step_append_any {w : World} {ops : Array Oper} {o : Oper} {a : Act} {K : Act → World → Prop} {Q : Exit → Act → World → Prop} {E : Prop} (hgd : o.guard = none) (s x : Operand)
    (ho : o.op = .call { callee := .builtin .append, args := #[s, x], argTypes := #[24, 24] }) (base : Nat)
    (v : Value) (n : Nat) (xs : List Value) (hs : a.eval s = v) (hown : w.ownsRow base 36 3 v n xs)
    (ad : Addr) (m c : Nat) (news : List Value) (hx : a.eval x = .slice (some ad) m c) (hl : news.length = m * 3) (hnews : ∀ j u, news[j]? = some u → w.cell? (ad.add j) = some u) (h1 : ∀ u ∈ news, u.oneCell' = true)
    (hbig : n + m ≤ 1048577) (hbase : base ≤ w.heap.size)
    (h : ∀ v' w', w'.ownsRow base 36 3 v' (n + m) (xs ++ news) → w.grownBy w' v.ownBlock → K (a.put o.dst v') w') :
    if Region.wanted o (yielded ops a.tmps) = true then Oper.wp Try.prog o a w K Q else E := by
  have hw : Region.wanted o (yielded ops a.tmps) = true := by simp [Region.wanted, hgd]
  rw [if_pos hw]
  obtain ⟨i0, hi0, hz0, hz1, hz2⟩ := info_parts infoIdR
  exact wp_append_own w s x 24 ho base 36 i0 (.agg #[.int .i64 0, .int .i64 0, .int .i64 0]) 3 24 Try.underlying24 hi0 hz0 hz1 hz2 rfl (by decide) v n xs hs hown ad m c news hx hl hnews h1 (by unfold maxLen; omega) (by omega) hbase fun v' w' h2 h3 _ => h v' w' h2 h3
theorem own_shape {w : World} {base n : Nat} {v : Value} {xs : List Value} (h : w.ownsRow base 36 3 v n xs) : ∃ a cap, v = .slice a n cap := by
  rcases h.2 with ⟨rfl, rfl⟩ | ⟨g, cap, cur, rfl, -⟩
  · exact ⟨none, 0, rfl⟩
  · exact ⟨_, cap, rfl⟩
theorem gr_drew {w a : World} (h : w.grownBy a none) : w.grownBy a.drew none := ⟨h.os, h.tape, h.output, h.size, h.block⟩

/-- A mesh stored into the answer's box. -/
theorem out_set {w w1 : World} {N n base : Nat} {R R0 : Int} {v v0 : Value} {xs : List Value} (hN : w.heap.size ≤ N) (hm : MBox w1 N R0 v0) (ho : w1.ownsRow base 36 3 v n xs) (hg : w.grownBy w1 none) :
    MBox ((w1.setCell ⟨N, 0, none⟩ (.int .i64 R)).setCell ⟨N, 1, none⟩ v) N R v ∧ ((w1.setCell ⟨N, 0, none⟩ (.int .i64 R)).setCell ⟨N, 1, none⟩ v).ownsRow base 36 3 v n xs ∧ w.grownBy ((w1.setCell ⟨N, 0, none⟩ (.int .i64 R)).setCell ⟨N, 1, none⟩ v) none := by
  have h1 := MBox.set0 hm R
  have ho1 := ho.kept (grownBy_setC w1 N 0 (.int .i64 R)) (.inr (MBox.not_row hm ho).symm)
  exact ⟨MBox.set1 h1 v, ho1.kept (grownBy_setC _ N 1 v) (.inr (MBox.not_row h1 ho1).symm), g_set (g_set hg _ _ _ hN) _ _ _ hN⟩

set_option maxHeartbeats 4000000 in
theorem specCopy_is (R : Int) (g n cap : Nat) (xs : List C3) (w : World) (hr : Reads w (some ⟨g, 0, none⟩) n xs) (hn : n ≤ 1048576) :
    Calls Try.prog 55 #[.agg #[.int .i64 R, .slice (some ⟨g, 0, none⟩) n cap]] w fun e w' => ∃ v, e = .returned (.agg #[.int .i64 R, v]) ∧ w'.ownsRow w.heap.size 36 3 v n (flatC xs) ∧ w.grownBy w' none := by
  go_enter Try.func55, Try.ntmps55
  go_wp2_with fail
  have HG := Lib.hid (show w.grownBy ((w.alloc (.cells #[.int .i64 R, .slice (some ⟨g, 0, none⟩) n cap] 26)).alloc (.cells #[.int .i64 0, .slice none 0 0] 26)) none from g_alloc (g_alloc (grown_refl _) _) _)
  have hb := (boxM_new w 26 R (.slice (some ⟨g, 0, none⟩) n cap)).on (World.grownBy_alloc _ (.cells #[.int .i64 0, .slice none 0 0] 26) none)
  have b0 := hb.c0
  have b1 := hb.c1
  have hm := MBox.new (w.alloc (.cells #[.int .i64 R, .slice (some ⟨g, 0, none⟩) n cap] 26)) 0 (.slice none 0 0)
  rw [World.size_alloc] at hm
  have hsz : w.heap.size + 2 ≤ ((w.alloc (.cells #[.int .i64 R, .slice (some ⟨g, 0, none⟩) n cap] 26)).alloc (.cells #[.int .i64 0, .slice none 0 0] 26)).heap.size := by simp
  have hr0 := hr.on HG.out
  generalize (w.alloc (.cells #[.int .i64 R, .slice (some ⟨g, 0, none⟩) n cap] 26)).alloc (.cells #[.int .i64 0, .slice none 0 0] 26) = W0 at *
  have HM := Lib.hid (show MBox (W0.alloc (.cells #[] 36)).drew (w.heap.size + 1) 0 (.slice none 0 0) from hm.alloc _)
  have HE := Lib.hid (show (W0.alloc (.cells #[] 36)).drew.ownsRow w.heap.size 36 3 (.slice (some ⟨W0.heap.size, 0, none⟩) 0 0) 0 [] from own_empty W0 w.heap.size (by omega))
  have HNS := Lib.hid (reads_news ((hr0.past (.cells #[] 36)).on (gr_drew (grown_refl _))))
  have hb2 := hb.on (World.grownBy_alloc W0 (.cells #[] 36) none)
  have b2 := hb2.c0
  have b3 := hb2.c1
  have HL := Lib.hid (show (flatC xs).length = n * 3 by rw [flatC_len, hr.len])
  have HN := Lib.hid hn
  clear hr hr0 hm hb hb2 hn
  go_region_law ((refine step_append_any rfl _ _ rfl w.heap.size (.slice (some ⟨W0.heap.size, 0, none⟩) 0 0) 0 [] (by simp [Act.eval]) HE.out ⟨g, 0, none⟩ n cap (flatC xs) (by simp [Act.eval]) HL.out HNS.out (flatC_one _) (by have := HN.out; omega) (by simp; omega) ?_; intro v' w1 hown' hgrow; obtain ⟨a', cap', rfl⟩ := own_shape hown'; have hm := MBox.kept HM.out hgrow (by simp [Value.ownBlock]; omega); have d0 := hm.c0; have d1 := hm.c1; have e0 := hm.f0; have e1 := hm.f1; have d2 : w1.cell? ⟨w.heap.size, 0, none⟩ = some (.int .i64 R) := hgrow.cell b2 (by simp [Value.ownBlock]; omega); have HM1 := Lib.hid hm; have HOW := Lib.hid hown'; have HGR := Lib.hid hgrow; clear hown' hgrow hm))
  all_goals
    go_wp2_with fail
    have ho := HOW.out
    rw [Nat.zero_add, List.nil_append] at ho
    obtain ⟨hm, ho, hg⟩ := out_set (w := w) (R := R) (by omega) HM1.out ho (grown_above HGR.out (by show w.heap.size ≤ W0.heap.size; omega) (gr_drew (g_alloc HG.out _)))
    exact bodyPost_ret_by (results_cell_row (fn := Try.f55) rfl _ _ (w.heap.size + 1) _ _ (0, 0) _ rfl hm Try.underlying26 rfl (by kernel_rfl)) rfl ⟨_, rfl, ho, hg⟩
end Go.Proofs.Ytcdkhapepabpkaa.Mesh
