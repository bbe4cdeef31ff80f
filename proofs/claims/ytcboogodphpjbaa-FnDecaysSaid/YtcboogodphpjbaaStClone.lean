/- States: slices.Clone at rows of cells and of ints, the methods clone of Mesh and State of the program, as contracts, whatever the slice's address: memory of the call's own.
   Conditions: at most 2^20 leaves and numbers. -/
import Derived.Test.YtcboogodphpjbaaPkCopy
import Derived.Test.YtcboogodphpjbaaStCopy
import Derived.Test.YtcboogodphpjbaaPkReg
set_option maxRecDepth 100000
namespace Go.Proofs.Ytcboogodphpjbaa.State
open Go.ChangeShapes Go.WideShapes Go.ChangeAt Go.RowKit Go.Joins Go.Proofs.Ytcboogodphpjbaa.Cell Go.Proofs.Ytcboogodphpjbaa.Mesh Go.Proofs.Ytcboogodphpjbaa.Law Go.Proofs.Ytcboogodphpjbaa.Ints Go.Proofs.Ytcboogodphpjbaa.Draws Go.Deep

theorem readsC_none {w : World} {n : Nat} {xs : List C3} (h : Reads w none n xs) : n = 0 ∧ xs = [] := by
  have hx : xs = [] := by
    cases xs with
    | nil => rfl
    | cons x xs => obtain ⟨g, e, -⟩ := h.at_ 0 x rfl; cases e
  exact ⟨by rw [← h.len, hx]; rfl, hx⟩
theorem readsI_none {w : World} {n : Nat} {xs : List Int} (h : ReadsI w none n xs) : n = 0 ∧ xs = [] := by
  have hx : xs = [] := by
    cases xs with
    | nil => rfl
    | cons x xs => obtain ⟨g, o, e, -⟩ := h.at_ 0 x rfl; cases e
  exact ⟨by rw [← h.len, hx]; rfl, hx⟩
theorem readsC_newsA {w : World} {ad : Addr} {n : Nat} {xs : List C3} (h : Reads w (some ad) n xs) : ∀ j u, (flatC xs)[j]? = some u → w.cell? (ad.add j) = some u := by
  intro j u hu
  obtain ⟨k, x, hx, -⟩ := flatC_get hu
  obtain ⟨g, e, -⟩ := h.at_ k x hx
  cases e
  exact reads_news h j u hu
theorem readsI_newsA {w : World} {ad : Addr} {n : Nat} {xs : List Int} (h : ReadsI w (some ad) n xs) : ∀ j u, (vals xs)[j]? = some u → w.cell? (ad.add j) = some u := by
  intro j u hu
  obtain ⟨x, hx, rfl⟩ : ∃ x, xs[j]? = some x ∧ Value.int .i64 x = u := by
    rw [vals, List.getElem?_map] at hu
    cases hx : xs[j]? with
    | none => rw [hx] at hu; cases hu
    | some x => rw [hx] at hu; exact ⟨x, rfl, by simpa using hu⟩
  obtain ⟨g', o, e, hc⟩ := h.at_ j x hx
  cases e
  rw [Addr.add_lit]; exact hc

set_option maxHeartbeats 2000000 in
theorem cloneC_is (base : Nat) (a : Option Addr) (n cap : Nat) (xs : List C3) (w : World) (hr : Reads w a n xs) (hn : n ≤ 1048576) (hb : base ≤ w.heap.size) :
    Calls Try.prog 75 #[.slice a n cap] w fun e w' => ∃ v, e = .returned v ∧ w'.ownsRow base 96 3 v n (flatC xs) ∧ w.grownBy w' none := by
  cases a with
  | none =>
    obtain ⟨rfl, rfl⟩ := readsC_none hr
    have he : ∀ u : World, (binOp .eql 24 (.slice none 0 cap) (.slice none 0 0)).run Try.prog u = .ok (.bool true) u := fun _ => rfl
    clear hr hn
    go_enter Try.func75, Try.ntmps75
    go_wp2_with fail
    go_ret
    exact ⟨_, rfl, nil_own _ _ _ _, grown_refl _⟩
  | some ad =>
    obtain ⟨i0, hi0, hz0, hz1, hz2⟩ := info_parts infoIdR
    have HNS := Lib.hid (readsC_newsA (hr.past (.cells #[] 96)))
    have HE := Lib.hid (own_empty w base hb)
    have HL := Lib.hid (show (flatC xs).length = n * 3 by rw [flatC_len, hr.len])
    have HN := Lib.hid hn
    have he : ∀ u : World, (binOp .eql 24 (.slice (some ad) n cap) (.slice none 0 0)).run Try.prog u = .ok (.bool false) u := fun _ => rfl
    clear hr hn
    go_enter Try.func75, Try.ntmps75
    go_wp2_with (at_builtin; refine wpList_append_own _ rfl _ _ 24 rfl base 96 i0 (.agg #[.int .i64 0, .int .i64 0, .int .i64 0]) 3 24 Try.underlying24 hi0 hz0 hz1 hz2 rfl (by decide) _ _ _ rfl HE.out ad n cap (flatC xs) rfl HL.out HNS.out (flatC_one _) (by have := HN.out; unfold maxLen; omega) (by have := HN.out; omega) (by simp; omega) ?_; intro v' w1 hown' hgrow hnil; clear hnil; have HOW := Lib.hid hown'; have HGR := Lib.hid hgrow; clear hown' hgrow)
    go_ret
    exact ⟨v', rfl, by rw [Nat.zero_add, List.nil_append] at HOW; exact HOW.out, grown_above HGR.out (Nat.le_refl _) (World.grownBy_alloc _ _ _)⟩

set_option maxHeartbeats 2000000 in
theorem cloneI_is (base : Nat) (a : Option Addr) (n cap : Nat) (xs : List Int) (w : World) (hr : ReadsI w a n xs) (hn : n ≤ 1048576) (hb : base ≤ w.heap.size) :
    Calls Try.prog 58 #[.slice a n cap] w fun e w' => ∃ v, e = .returned v ∧ w'.ownsRow base 3 1 v n (vals xs) ∧ w.grownBy w' none := by
  cases a with
  | none =>
    obtain ⟨rfl, rfl⟩ := readsI_none hr
    have he : ∀ u : World, (binOp .eql 27 (.slice none 0 cap) (.slice none 0 0)).run Try.prog u = .ok (.bool true) u := fun _ => rfl
    clear hr hn
    go_enter Try.func58, Try.ntmps58
    go_wp2_with fail
    go_ret
    exact ⟨_, rfl, nil_own _ _ _ _, grown_refl _⟩
  | some ad =>
    obtain ⟨i0, hi0, hz0, hz1, hz2⟩ := info_parts infoInt
    have HNS := Lib.hid (readsI_newsA (hr.past (.cells #[] 3)))
    have HE := Lib.hid (own_emptyI w base hb)
    have HL := Lib.hid (show (vals xs).length = n * 1 by rw [vals_len, hr.len, Nat.mul_one])
    have HN := Lib.hid hn
    have he : ∀ u : World, (binOp .eql 27 (.slice (some ad) n cap) (.slice none 0 0)).run Try.prog u = .ok (.bool false) u := fun _ => rfl
    clear hr hn
    go_enter Try.func58, Try.ntmps58
    go_wp2_with (at_builtin; refine wpList_append_own _ rfl _ _ 27 rfl base 3 i0 (.int .i64 0) 1 8 Try.underlying27 hi0 hz0 hz1 hz2 rfl (by decide) _ _ _ rfl HE.out ad n cap (vals xs) rfl HL.out HNS.out (vals_one _) (by have := HN.out; unfold maxLen; omega) (by have := HN.out; omega) (by simp; omega) ?_; intro v' w1 hown' hgrow hnil; clear hnil; have HOW := Lib.hid hown'; have HGR := Lib.hid hgrow; clear hown' hgrow)
    go_ret
    exact ⟨v', rfl, by rw [Nat.zero_add, List.nil_append] at HOW; exact HOW.out, grown_above HGR.out (Nat.le_refl _) (World.grownBy_alloc _ _ _)⟩

set_option maxHeartbeats 4000000 in
theorem mcloneA_is (R : Int) (a : Option Addr) (n cap : Nat) (xs : List C3) (w : World) (hr : Reads w a n xs) (hn : n ≤ 1048576) :
    Calls Try.prog 57 #[.agg #[.int .i64 R, .slice a n cap]] w fun e w' => ∃ v, e = .returned (.agg #[.int .i64 R, v]) ∧ w'.ownsRow w.heap.size 96 3 v n (flatC xs) ∧ w.grownBy w' none := by
  go_enter Try.func57, Try.ntmps57
  go_wp2_with fail
  have HG := Lib.hid (show w.grownBy ((w.alloc (.cells #[.int .i64 R, .slice a n cap] 26)).alloc (.cells #[.int .i64 0, .slice none 0 0] 26)) none from g_alloc (g_alloc (grown_refl _) _) _)
  have hb := (boxM_new w 26 R (.slice a n cap)).on (World.grownBy_alloc _ (.cells #[.int .i64 0, .slice none 0 0] 26) none)
  have b0 := hb.c0
  have b1 := hb.c1
  have hm := MBox.new (w.alloc (.cells #[.int .i64 R, .slice a n cap] 26)) 0 (.slice none 0 0)
  rw [World.size_alloc] at hm
  have hsz : w.heap.size + 2 ≤ ((w.alloc (.cells #[.int .i64 R, .slice a n cap] 26)).alloc (.cells #[.int .i64 0, .slice none 0 0] 26)).heap.size := by simp
  have hr0 := hr.on HG.out
  generalize (w.alloc (.cells #[.int .i64 R, .slice a n cap] 26)).alloc (.cells #[.int .i64 0, .slice none 0 0] 26) = W0 at *
  have HM := Lib.hid hm
  have HR0 := Lib.hid hr0
  have HB0 := Lib.hid hb
  have HN := Lib.hid hn
  clear hr hr0 hm hb hn
  go_region_with (go_at_call 75; ((with_reducible refine (cloneC_is w.heap.size a n cap xs _ (HR0.out.on (gr_drew (grown_refl W0))) HN.out (by simp; omega)).mono ?_); rintro e w1 ⟨v, rfl, ho, hg⟩; obtain ⟨a', cap', rfl⟩ := own_shape ho; have hm := HM.out.kept (grown_trans (gr_drew (grown_refl W0)) hg) (by simp); have d0 := hm.c0; have d1 := hm.c1; have e0 := hm.f0; have e1 := hm.f1; have d2 := (HB0.out.on (grown_trans (gr_drew (grown_refl W0)) hg)).c0; have HM1 := Lib.hid hm; have HO1 := Lib.hid ho; have HG1 := Lib.hid hg; clear ho hg hm))
  all_goals
    go_wp2_with fail
    obtain ⟨hm, ho, hg⟩ := out_set (w := w) (R := R) (by omega) HM1.out HO1.out (grown_trans (gr_drew HG.out) HG1.out)
    exact bodyPost_ret_by (results_cell_row (fn := Try.f57) rfl _ _ (w.heap.size + 1) _ _ (0, 0) _ rfl hm Try.underlying26 rfl (by kernel_rfl)) rfl ⟨_, rfl, ho, hg⟩

/-- What each operation of the copying leaves. -/
def CloneG (R : Int) (a1 a2 a3 a4 : Option Addr) (n1 n2 n3 n4 c1 c2 c3 c4 : Nat) (xs : List C3) (ms ts bs : List Int) (B : Nat) (val : Nat → Value) (G : Nat → Grp) : Nat → Prop
  | 0 => val 0 = .pointer (some ⟨B, 0, none⟩)
  | 1 => val 1 = .agg #[.int .i64 R, .slice a1 n1 c1]
  | 2 => ∃ (b : Option Addr) (d : Nat), val 2 = .agg #[.int .i64 R, .slice b n1 d] ∧ G 2 = rowG 96 3 (.slice b n1 d) n1 (flatC xs)
  | 3 => val 3 = .pointer (some ⟨B, 2, none⟩)
  | 4 => val 4 = .slice a2 n2 c2
  | 5 => ∃ (b : Option Addr) (d : Nat), val 5 = .slice b n2 d ∧ G 5 = rowG 3 1 (.slice b n2 d) n2 (vals ms)
  | 6 => val 6 = .pointer (some ⟨B, 3, none⟩)
  | 7 => val 7 = .slice a3 n3 c3
  | 8 => ∃ (b : Option Addr) (d : Nat), val 8 = .slice b n3 d ∧ G 8 = rowG 3 1 (.slice b n3 d) n3 (vals ts)
  | 9 => val 9 = .pointer (some ⟨B, 4, none⟩)
  | 10 => val 10 = .slice a4 n4 c4
  | 11 => ∃ (b : Option Addr) (d : Nat), val 11 = .slice b n4 d ∧ G 11 = rowG 3 1 (.slice b n4 d) n4 (vals bs)
  | 12 => ∃ (b1 : Option Addr) (d1 : Nat) (b2 : Option Addr) (d2 : Nat) (b3 : Option Addr) (d3 : Nat) (b4 : Option Addr) (d4 : Nat), val 12 = .agg #[.int .i64 R, .slice b1 n1 d1, .slice b2 n2 d2, .slice b3 n3 d3, .slice b4 n4 d4] ∧ val 2 = .agg #[.int .i64 R, .slice b1 n1 d1] ∧ val 5 = .slice b2 n2 d2 ∧ val 8 = .slice b3 n3 d3 ∧ val 11 = .slice b4 n4 d4
  | 13 => ∃ (b1 : Option Addr) (d1 : Nat) (b2 : Option Addr) (d2 : Nat) (b3 : Option Addr) (d3 : Nat) (b4 : Option Addr) (d4 : Nat), val 12 = .agg #[.int .i64 R, .slice b1 n1 d1, .slice b2 n2 d2, .slice b3 n3 d3, .slice b4 n4 d4] ∧ G 13 = boxG (B + 1) 29 #[.int .i64 R, .slice b1 n1 d1, .slice b2 n2 d2, .slice b3 n3 d3, .slice b4 n4 d4]
  | _ => True
def cloneDep : Nat → List Nat
  | 1 => [0] | 2 => [1] | 4 => [3] | 5 => [4] | 7 => [6] | 8 => [7] | 10 => [9] | 11 => [10] | 12 => [2, 5, 8, 11] | 13 => [12] | _ => []
theorem clone_local (R : Int) (a1 a2 a3 a4 : Option Addr) (n1 n2 n3 n4 c1 c2 c3 c4 : Nat) (xs : List C3) (ms ts bs : List Int) (B : Nat) : Local cloneDep (CloneG R a1 a2 a3 a4 n1 n2 n3 n4 c1 c2 c3 c4 xs ms ts bs B) := by
  intro val val' G G' j hk h
  match j with
  | 0 => exact (hk 0 (.inl rfl)).1.trans h
  | 1 => exact (hk 1 (.inl rfl)).1.trans h
  | 3 => exact (hk 3 (.inl rfl)).1.trans h
  | 4 => exact (hk 4 (.inl rfl)).1.trans h
  | 6 => exact (hk 6 (.inl rfl)).1.trans h
  | 7 => exact (hk 7 (.inl rfl)).1.trans h
  | 9 => exact (hk 9 (.inl rfl)).1.trans h
  | 10 => exact (hk 10 (.inl rfl)).1.trans h
  | 2 => obtain ⟨b, d, h1, h2⟩ := h; exact ⟨b, d, (hk 2 (.inl rfl)).1.trans h1, (hk 2 (.inl rfl)).2.trans h2⟩
  | 5 => obtain ⟨b, d, h1, h2⟩ := h; exact ⟨b, d, (hk 5 (.inl rfl)).1.trans h1, (hk 5 (.inl rfl)).2.trans h2⟩
  | 8 => obtain ⟨b, d, h1, h2⟩ := h; exact ⟨b, d, (hk 8 (.inl rfl)).1.trans h1, (hk 8 (.inl rfl)).2.trans h2⟩
  | 11 => obtain ⟨b, d, h1, h2⟩ := h; exact ⟨b, d, (hk 11 (.inl rfl)).1.trans h1, (hk 11 (.inl rfl)).2.trans h2⟩
  | 12 => obtain ⟨b1, d1, b2, d2, b3, d3, b4, d4, h1, h2, h3, h4, h5⟩ := h; exact ⟨b1, d1, b2, d2, b3, d3, b4, d4, (hk 12 (.inl rfl)).1.trans h1, (hk 2 (.inr (by simp [cloneDep]))).1.trans h2, (hk 5 (.inr (by simp [cloneDep]))).1.trans h3, (hk 8 (.inr (by simp [cloneDep]))).1.trans h4, (hk 11 (.inr (by simp [cloneDep]))).1.trans h5⟩
  | 13 => obtain ⟨b1, d1, b2, d2, b3, d3, b4, d4, h1, h2⟩ := h; exact ⟨b1, d1, b2, d2, b3, d3, b4, d4, (hk 12 (.inr (by simp [cloneDep]))).1.trans h1, (hk 13 (.inl rfl)).2.trans h2⟩
  | _ + 14 => trivial

set_option maxHeartbeats 16000000 in
theorem stClone_is (R : Int) (a1 a2 a3 a4 : Option Addr) (n1 n2 n3 n4 c1 c2 c3 c4 : Nat) (xs : List C3) (ms ts bs : List Int) (w : World) (h : ReadsS w a1 a2 a3 a4 n1 n2 n3 n4 xs ms ts bs) (h1 : n1 ≤ 1048576) (h2 : n2 ≤ 1048576) (h3 : n3 ≤ 1048576) (h4 : n4 ≤ 1048576) :
    Calls Try.prog 29 #[.agg #[.int .i64 R, .slice a1 n1 c1, .slice a2 n2 c2, .slice a3 n3 c3, .slice a4 n4 c4]] w (GivesS R n1 n2 n3 n4 xs ms ts bs w) := by
  have HR := Lib.hid h; have H1 := Lib.hid h1; have H2 := Lib.hid h2; have H3 := Lib.hid h3; have H4 := Lib.hid h4
  clear h h1 h2 h3 h4
  have he := ((Held.nil w).box 29 #[.int .i64 R, .slice a1 n1 c1, .slice a2 n2 c2, .slice a3 n3 c3, .slice a4 n4 c4]).box 29 #[.int .i64 0, .slice none 0 0, .slice none 0 0, .slice none 0 0, .slice none 0 0]
  simp only [World.size_alloc] at he
  have HE := Lib.hid he; clear he
  have hloc := clone_local R a1 a2 a3 a4 n1 n2 n3 n4 c1 c2 c3 c4 xs ms ts bs w.heap.size
  go_enter Try.func29, Try.ntmps29
  go_upto_region 1 with fail
  generalize (w.alloc (.cells #[.int .i64 R, .slice a1 n1 c1, .slice a2 n2 c2, .slice a3 n3 c3, .slice a4 n4 c4] 29)).alloc (.cells #[.int .i64 0, .slice none 0 0, .slice none 0 0, .slice none 0 0, .slice none 0 0] 29) = W0 at *
  rename_i K hK
  refine wp_region_tab (w := w) rfl (by kernel_rfl) (by kernel_rfl) cloneDep (by kernel_rfl) [boxG w.heap.size 29 #[.int .i64 R, .slice a1 n1 c1, .slice a2 n2 c2, .slice a3 n3 c3, .slice a4 n4 c4]] [13, 2, 5, 8, 11] (fun j => if j = 13 then boxG (w.heap.size + 1) 29 #[.int .i64 0, .slice none 0 0, .slice none 0 0, .slice none 0 0, .slice none 0 0] else emptyG) (CloneG R a1 a2 a3 a4 n1 n2 n3 n4 c1 c2 c3 c4 xs ms ts bs w.heap.size) ?start ?step ?last
  case start => exact ((((HE.out.on (gr_drew (grown_refl _))).addE).addE).addE).addE
  case step =>
    intro L a W val G i o hI ho hL hd
    have hi : i < 14 := by have := (Array.getElem?_eq_some_iff.1 ho).1; simpa using this
    have p1 := (hI.old 1 (by kernel_rfl) rfl).get
    have p2 := (hI.old 2 (by kernel_rfl) rfl).get
    obtain ⟨z0, z1, z2, z3, z4⟩ := box5 (hI.hd.nth 0 rfl)
    rcases (show i = 0 ∨ i = 1 ∨ i = 2 ∨ i = 3 ∨ i = 4 ∨ i = 5 ∨ i = 6 ∨ i = 7 ∨ i = 8 ∨ i = 9 ∨ i = 10 ∨ i = 11 ∨ i = 12 ∨ i = 13 by omega) with rfl | rfl | rfl | rfl | rfl | rfl | rfl | rfl | rfl | rfl | rfl | rfl | rfl | rfl
    · obtain rfl := Option.some.inj ho
      refine wpOp_of (by rfl) rfl (wp_value (v := .pointer (some ⟨w.heap.size, 0, none⟩)) (w' := W) ?_ (hI.same hloc hL _ _ (grown_refl _) (upd_at _ _ _)))
      simp only [execOp]
      go_simp
    · obtain rfl := Option.some.inj ho
      have l0 := hd 0 (by simp [cloneDep])
      have e1 := (hI.at_ 0 3 rfl l0).get
      rw [show val 0 = _ from hI.gd 0 l0] at e1
      refine wpOp_of (by rfl) rfl (wp_value (v := .agg #[.int .i64 R, .slice a1 n1 c1]) (w' := W) ?_ (hI.same hloc hL _ _ (grown_refl _) (upd_at _ _ _)))
      simp only [execOp]
      go_simp
    · obtain rfl := Option.some.inj ho
      have l0 := hd 1 (by simp [cloneDep])
      have e1 := (hI.at_ 1 4 rfl l0).get
      rw [show val 1 = _ from hI.gd 1 l0] at e1
      refine wpOp_of (by rfl) rfl ?_
      unfold Oper.wp
      simp only [execOp]
      go_simp
      refine Calls.mono (P := Try.prog) (mcloneA_is R a1 n1 c1 xs W (HR.out.l.on hI.hd.gr) H1.out) ?_
      rintro e w1 ⟨v, rfl, ho, hg⟩
      obtain ⟨b, d, rfl⟩ := own_shapeAny ho
      exact hI.made hloc hL _ (.agg #[.int .i64 R, .slice b n1 d]) (rowG 96 3 (.slice b n1 d) n1 (flatC xs)) (hI.hd.fill 2 (g' := rowG 96 3 (.slice b n1 d) n1 (flatC xs)) (congrArg some (hI.no 2 hL)) hg (own_zero ho) (fun b hb => ho.lt b (by simpa [rowG] using hb))) ⟨b, d, upd_at _ _ _, upd_at _ _ _⟩
    · obtain rfl := Option.some.inj ho
      refine wpOp_of (by rfl) rfl (wp_value (v := .pointer (some ⟨w.heap.size, 2, none⟩)) (w' := W) ?_ (hI.same hloc hL _ _ (grown_refl _) (upd_at _ _ _)))
      simp only [execOp]
      go_simp
    · obtain rfl := Option.some.inj ho
      have l0 := hd 3 (by simp [cloneDep])
      have e1 := (hI.at_ 3 6 rfl l0).get
      rw [show val 3 = _ from hI.gd 3 l0] at e1
      refine wpOp_of (by rfl) rfl (wp_value (v := .slice a2 n2 c2) (w' := W) ?_ (hI.same hloc hL _ _ (grown_refl _) (upd_at _ _ _)))
      simp only [execOp]
      go_simp
    · obtain rfl := Option.some.inj ho
      have l0 := hd 4 (by simp [cloneDep])
      have e1 := (hI.at_ 4 7 rfl l0).get
      rw [show val 4 = _ from hI.gd 4 l0] at e1
      refine wpOp_of (by rfl) rfl ?_
      unfold Oper.wp
      simp only [execOp]
      go_simp
      refine Calls.mono (P := Try.prog) (cloneI_is W.heap.size a2 n2 c2 ms W (HR.out.m.on hI.hd.gr) H2.out (Nat.le_refl _)) ?_
      rintro e w1 ⟨v, rfl, ho, hg⟩
      obtain ⟨b, d, rfl⟩ := own_shapeAny ho
      exact hI.made hloc hL _ (.slice b n2 d) (rowG 3 1 (.slice b n2 d) n2 (vals ms)) (hI.hd.fill 3 (g' := rowG 3 1 (.slice b n2 d) n2 (vals ms)) (congrArg some (hI.no 5 hL)) hg (own_zero ho) (fun b hb => ho.lt b (by simpa [rowG] using hb))) ⟨b, d, upd_at _ _ _, upd_at _ _ _⟩
    · obtain rfl := Option.some.inj ho
      refine wpOp_of (by rfl) rfl (wp_value (v := .pointer (some ⟨w.heap.size, 3, none⟩)) (w' := W) ?_ (hI.same hloc hL _ _ (grown_refl _) (upd_at _ _ _)))
      simp only [execOp]
      go_simp
    · obtain rfl := Option.some.inj ho
      have l0 := hd 6 (by simp [cloneDep])
      have e1 := (hI.at_ 6 9 rfl l0).get
      rw [show val 6 = _ from hI.gd 6 l0] at e1
      refine wpOp_of (by rfl) rfl (wp_value (v := .slice a3 n3 c3) (w' := W) ?_ (hI.same hloc hL _ _ (grown_refl _) (upd_at _ _ _)))
      simp only [execOp]
      go_simp
    · obtain rfl := Option.some.inj ho
      have l0 := hd 7 (by simp [cloneDep])
      have e1 := (hI.at_ 7 10 rfl l0).get
      rw [show val 7 = _ from hI.gd 7 l0] at e1
      refine wpOp_of (by rfl) rfl ?_
      unfold Oper.wp
      simp only [execOp]
      go_simp
      refine Calls.mono (P := Try.prog) (cloneI_is W.heap.size a3 n3 c3 ts W (HR.out.t.on hI.hd.gr) H3.out (Nat.le_refl _)) ?_
      rintro e w1 ⟨v, rfl, ho, hg⟩
      obtain ⟨b, d, rfl⟩ := own_shapeAny ho
      exact hI.made hloc hL _ (.slice b n3 d) (rowG 3 1 (.slice b n3 d) n3 (vals ts)) (hI.hd.fill 4 (g' := rowG 3 1 (.slice b n3 d) n3 (vals ts)) (congrArg some (hI.no 8 hL)) hg (own_zero ho) (fun b hb => ho.lt b (by simpa [rowG] using hb))) ⟨b, d, upd_at _ _ _, upd_at _ _ _⟩
    · obtain rfl := Option.some.inj ho
      refine wpOp_of (by rfl) rfl (wp_value (v := .pointer (some ⟨w.heap.size, 4, none⟩)) (w' := W) ?_ (hI.same hloc hL _ _ (grown_refl _) (upd_at _ _ _)))
      simp only [execOp]
      go_simp
    · obtain rfl := Option.some.inj ho
      have l0 := hd 9 (by simp [cloneDep])
      have e1 := (hI.at_ 9 12 rfl l0).get
      rw [show val 9 = _ from hI.gd 9 l0] at e1
      refine wpOp_of (by rfl) rfl (wp_value (v := .slice a4 n4 c4) (w' := W) ?_ (hI.same hloc hL _ _ (grown_refl _) (upd_at _ _ _)))
      simp only [execOp]
      go_simp
    · obtain rfl := Option.some.inj ho
      have l0 := hd 10 (by simp [cloneDep])
      have e1 := (hI.at_ 10 13 rfl l0).get
      rw [show val 10 = _ from hI.gd 10 l0] at e1
      refine wpOp_of (by rfl) rfl ?_
      unfold Oper.wp
      simp only [execOp]
      go_simp
      refine Calls.mono (P := Try.prog) (cloneI_is W.heap.size a4 n4 c4 bs W (HR.out.b.on hI.hd.gr) H4.out (Nat.le_refl _)) ?_
      rintro e w1 ⟨v, rfl, ho, hg⟩
      obtain ⟨b, d, rfl⟩ := own_shapeAny ho
      exact hI.made hloc hL _ (.slice b n4 d) (rowG 3 1 (.slice b n4 d) n4 (vals bs)) (hI.hd.fill 5 (g' := rowG 3 1 (.slice b n4 d) n4 (vals bs)) (congrArg some (hI.no 11 hL)) hg (own_zero ho) (fun b hb => ho.lt b (by simpa [rowG] using hb))) ⟨b, d, upd_at _ _ _, upd_at _ _ _⟩
    · obtain rfl := Option.some.inj ho
      have l2 := hd 2 (by simp [cloneDep]); have l5 := hd 5 (by simp [cloneDep]); have l8 := hd 8 (by simp [cloneDep]); have l11 := hd 11 (by simp [cloneDep])
      obtain ⟨b1, d1, v2, -⟩ := hI.gd 2 l2
      obtain ⟨b2, d2, v5, -⟩ := hI.gd 5 l5
      obtain ⟨b3, d3, v8, -⟩ := hI.gd 8 l8
      obtain ⟨b4, d4, v11, -⟩ := hI.gd 11 l11
      have e1 := (hI.at_ 2 5 rfl l2).get
      have e2 := (hI.at_ 5 8 rfl l5).get
      have e3 := (hI.at_ 8 11 rfl l8).get
      have e4 := (hI.at_ 11 14 rfl l11).get
      rw [v2] at e1; rw [v5] at e2; rw [v8] at e3; rw [v11] at e4
      refine wpOp_of (by rfl) rfl (wp_value (v := .agg #[.int .i64 R, .slice b1 n1 d1, .slice b2 n2 d2, .slice b3 n3 d3, .slice b4 n4 d4]) (w' := W) ?_ (hI.same hloc hL _ _ (grown_refl _) ⟨b1, d1, b2, d2, b3, d3, b4, d4, upd_at _ _ _, v2, v5, v8, v11⟩))
      simp only [execOp]
      go_simp
    · obtain rfl := Option.some.inj ho
      have l12 := hd 12 (by simp [cloneDep])
      obtain ⟨b1, d1, b2, d2, b3, d3, b4, d4, v12, -⟩ := hI.gd 12 l12
      have e1 := (hI.at_ 12 15 rfl l12).get
      rw [v12] at e1
      have hk : ([boxG w.heap.size 29 #[.int .i64 R, .slice a1 n1 c1, .slice a2 n2 c2, .slice a3 n3 c3, .slice a4 n4 c4]] ++ [13, 2, 5, 8, 11].map G)[1]? = some (boxG (w.heap.size + 1) 29 #[.int .i64 0, .slice none 0 0, .slice none 0 0, .slice none 0 0, .slice none 0 0]) := congrArg some (hI.no 13 hL)
      obtain ⟨y0, y1, y2, y3, y4⟩ := box5 (hI.hd.nth 1 hk)
      obtain ⟨f0, f1, f2, f3, f4⟩ := free5 (hI.hd.nth 1 hk)
      refine wpOp_of (by rfl) rfl (wp_skip (w' := ((((W.setCell ⟨w.heap.size + 1, 0, none⟩ (.int .i64 R)).setCell ⟨w.heap.size + 1, 1, none⟩ (.slice b1 n1 d1)).setCell ⟨w.heap.size + 1, 2, none⟩ (.slice b2 n2 d2)).setCell ⟨w.heap.size + 1, 3, none⟩ (.slice b3 n3 d3)).setCell ⟨w.heap.size + 1, 4, none⟩ (.slice b4 n4 d4)) ?_ ?_)
      · simp only [execOp]
        go_simp
      exact hI.made hloc hL _ undef (boxG (w.heap.size + 1) 29 #[.int .i64 R, .slice b1 n1 d1, .slice b2 n2 d2, .slice b3 n3 d3, .slice b4 n4 d4]) (hI.hd.put5 1 hk (.int .i64 R) (.slice b1 n1 d1) (.slice b2 n2 d2) (.slice b3 n3 d3) (.slice b4 n4 d4)) ⟨b1, d1, b2, d2, b3, d3, b4, d4, v12, upd_at _ _ _⟩
  case last =>
    intro L a W val G hI hall
    have al : ∀ i, i < 14 → L i = true := fun i hi => hall i (by simpa using hi)
    obtain ⟨b1, d1, b2, d2, b3, d3, b4, d4, v12, v2, v5, v8, v11⟩ := hI.gd 12 (al 12 (by decide))
    obtain ⟨b1', d1', b2', d2', b3', d3', b4', d4', v12', g13⟩ := hI.gd 13 (al 13 (by decide))
    rw [v12] at v12'
    cases v12'
    obtain ⟨b, d, u2, g2⟩ := hI.gd 2 (al 2 (by decide))
    rw [v2] at u2
    cases u2
    obtain ⟨b, d, u5, g5⟩ := hI.gd 5 (al 5 (by decide))
    rw [v5] at u5
    cases u5
    obtain ⟨b, d, u8, g8⟩ := hI.gd 8 (al 8 (by decide))
    rw [v8] at u8
    cases u8
    obtain ⟨b, d, u11, g11⟩ := hI.gd 11 (al 11 (by decide))
    rw [v11] at u11
    cases u11
    have hH : Held w W [boxG w.heap.size 29 #[.int .i64 R, .slice a1 n1 c1, .slice a2 n2 c2, .slice a3 n3 c3, .slice a4 n4 c4], G 13, G 2, G 5, G 8, G 11] := hI.hd
    rw [g13, g2, g5, g8, g11] at hH
    refine hK _ _ (wp_ret ?_)
    exact bodyPost_ret_by (results_cell_row (fn := Try.f29) rfl _ _ (w.heap.size + 1) _ #[.int .i64 R, .slice b1 n1 d1, .slice b2 n2 d2, .slice b3 n3 d3, .slice b4 n4 d4] (0, 0) _ (hI.old 2 (by kernel_rfl) rfl).ev (hH.nth 1 rfl) Try.underlying29 rfl (by kernel_rfl)) hI.df
      ⟨b1, d1, b2, d2, b3, d3, b4, d4, rfl, Held.ownS hH 2 rfl rfl rfl rfl, hH.gr⟩
end Go.Proofs.Ytcboogodphpjbaa.State
