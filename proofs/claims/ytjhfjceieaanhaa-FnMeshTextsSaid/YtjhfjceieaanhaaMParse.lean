/- Meshes: ParseMesh of the program at texts of 1 to 135 bytes, as a contract: the mesh that it answers, its leaves in a row of the call's own; nothing that was there is written.
   Conditions: none. -/
import Derived.Test.YtjhfjceieaanhaaMText
import Derived.Test.YtjhfjceieaanhaaMCount
import Derived.Test.YtjhfjceieaanhaaMNew
import Derived.Test.YtjhfjceieaanhaaMFmt
namespace Go.Proofs.Ytjhfjceieaanhaa.Mesh
open Go.ChangeShapes Go.WideShapes Go.ChangeAt Go.RowKit Go.Shelf Go.Proofs.Ytjhfjceieaanhaa.Cell

attribute [local go_sem] Oper.semAt_some

theorem fold_len (t : List UInt8) : ∀ s : Option Int × List C3, (t.foldl iStep s).2.length ≤ s.2.length + t.length := by
  induction t with
  | nil => intro s; simp
  | cons b t ih =>
    intro s
    have h := ih (iStep s b)
    have h2 : (iStep s b).2.length ≤ s.2.length + 1 := by
      unfold iStep
      split
      · omega
      · split
        · omega
        · split <;> simp
    rw [List.foldl_cons, List.length_cons]
    omega
theorem iSt_len (t : List UInt8) : (iSt t).2.length ≤ t.length := by have := fold_len t (some 0, []); simpa [iSt] using this
theorem str_same {a b : ByteArray} (h : a = b) : (a.toList == b.toList) = true := by rw [h]; simp
theorem str_other {a b : ByteArray} (h : a ≠ b) : (a.toList == b.toList) = false := by
  rw [beq_eq_false_iff_ne, ByteArray.toList_eq, ByteArray.toList_eq]
  intro e
  exact h (by cases a; cases b; simp_all)

set_option maxRecDepth 100000 in
set_option maxHeartbeats 4000000 in
theorem parse_in (n : Nat) (hn : 6 ≤ n) (s : ByteArray) (h1s : 1 ≤ s.size) (h135 : s.size ≤ 135) (w : World) :
    CallsIn Fence.wide n Try.prog 20 #[.string s] w fun e W' => ∃ v, e = .returned (.tuple #[.agg #[.int .i64 (pR s.data.toList), v], .bool (pOk s.data.toList)]) ∧ W'.ownsRow w.heap.size 30 3 v (pC s.data.toList).length (flatC (pC s.data.toList)) ∧ Below w.heap.size w W' := by
  have h1 : 1 ≤ n := by omega
  obtain ⟨i0, hi, hz0, hz1, hz2⟩ := info_parts infoC
  have hcnt : s.data.toList.count 124 ≤ 135 := Nat.le_trans List.count_le_length (by simpa using h135)
  obtain ⟨c, hc⟩ : ∃ c, s.data.toList.count 124 = c := ⟨_, rfl⟩
  have hci : (c : Int) ≤ 135 := by omega
  have hne : s.toList.isEmpty = false := by
    rw [ByteArray.toList_eq]
    cases h : s.data.toList with
    | nil => have : s.data.toList.length = 0 := by rw [h]; rfl
             have h2 : s.data.toList.length = s.size := by simp
             omega
    | cons a r => rfl
  obtain ⟨zs, hzs⟩ : ∃ zs, (iSt s.data.toList).2 = zs := ⟨_, rfl⟩
  have hzl : zs.length ≤ 135 := by have := iSt_len s.data.toList; rw [hzs] at this; have h2 : s.data.toList.length = s.size := by simp
                                   omega
  have HZ := Lib.hid hzs
  have HZL := Lib.hid hzl; clear hzl
  refine callsIn_of_wp_marks Try.func20 rfl trivial ?_ rfl
  simp only [Try.ntmps20, List.size_toArray, List.length_cons, List.length_nil, Nat.reduceAdd, Nat.reduceSub, Array.replicate_succ, Array.replicate_zero, List.push_toArray, List.append_toArray, List.nil_append, List.cons_append]
  gi_wp2_with (first
    | ((with_reducible refine And.intro ?_ ?_); exact trivial; gi_at_call 44; refine (callsIn_wide.2 (count_is s 124 hc _)).mono ?_; rintro e w' ⟨rfl, rfl⟩)
    | ((with_reducible refine And.intro ?_ ?_); exact trivial; gi_at_call 45; refine (text_in (n - 1) _ _).mono ?_; rintro e w' ⟨rfl, rfl⟩))
  have m0 := ((MBox.new w 0 (.slice none 0 0)).alloc (.cells #[.int .i64 ((c : Int) + 1), .slice none 0 0] 26)).alloc (.cells #[.string s] 9)
  have m1 := (MBox.new (w.alloc (.cells #[.int .i64 0, .slice none 0 0] 26)) ((c : Int) + 1) (.slice none 0 0)).alloc (.cells #[.string s] 9)
  have m2 := Boxed.new ((w.alloc (.cells #[.int .i64 0, .slice none 0 0] 26)).alloc (.cells #[.int .i64 ((c : Int) + 1), .slice none 0 0] 26)) 9 (.string s)
  simp only [World.size_alloc] at m1 m2
  have hB0 : Below w.heap.size w (((w.alloc (.cells #[.int .i64 0, .slice none 0 0] 26)).alloc (.cells #[.int .i64 ((c : Int) + 1), .slice none 0 0] 26)).alloc (.cells #[.string s] 9)) := (((Below.refl _ w).alloc (Nat.le_refl _) _).alloc (by simp) _).alloc (by simp; omega) _
  have hsz : (((w.alloc (.cells #[.int .i64 0, .slice none 0 0] 26)).alloc (.cells #[.int .i64 ((c : Int) + 1), .slice none 0 0] 26)).alloc (.cells #[.string s] 9)).heap.size = w.heap.size + 3 := by simp
  obtain ⟨W0, hW0⟩ : ∃ W0, (((w.alloc (.cells #[.int .i64 0, .slice none 0 0] 26)).alloc (.cells #[.int .i64 ((c : Int) + 1), .slice none 0 0] 26)).alloc (.cells #[.string s] 9)) = W0 := ⟨_, rfl⟩
  rw [hW0] at m0 m1 m2 hB0 hsz ⊢
  clear hW0
  have hstop := text_stops (n - 1) (by omega) (w.heap.size + 1 + 1) s h135 W0 m2.cell (by omega)
  rw [hzs] at hstop
  clear hzs
  refine wpIn_rangeFunc_ownH rfl h1 (gf := 59) (lb := #[.pointer (some ⟨w.heap.size + 1 + 1, 0, none⟩)]) rfl trivial (enters_of Try.func59 (by kernel_rfl) rfl)
    hstop (fun h k => KeepsAt.trans h k) (fun W l o o' hl ho hc _ => keepsAt_put o' ho hc) (Below.refl _ _) (fun _ => rfl)
    (fun pre W => (((∃ v, MBox W (w.heap.size + 1) ((c : Int) + 1) v ∧ W.ownsRow w.heap.size 30 3 v pre.length (flatC pre)) ∧ MBox W w.heap.size 0 (.slice none 0 0)) ∧ Boxed W (w.heap.size + 1 + 1) 9 (.string s)) ∧ Below w.heap.size w W)
    (fun _ _ _ => False)
    (OwnFrom.and (OwnFrom.and (OwnFrom.and (Own.from (holds_own w.heap.size (w.heap.size + 1) (fun _ => (c : Int) + 1) List.length flatC) _) (Own.from (block_own _ _ (fun _ => #[.int .i64 0, .slice none 0 0])) _)) (Own.from (boxed_own _ _ _) _)) (ownFrom_below (Nat.le_refl _) (by omega)))
    (fun _ _ _ _ _ hs _ _ => hs)
    ⟨⟨⟨⟨_, m1, World.ownsRow_nil _ _ _ _⟩, m0⟩, m2⟩, hB0⟩
    (fun x a' W => ∃ Bx, w.heap.size + 1 < Bx ∧ IBox W Bx x ∧ ∃ u6 u7 u8 u9 u10 u11 u12 u13 u14 u15 u16 u17 u18 u19 u20 u21 u22 u23 u24 u25 u26 u27 u28 u29 u30 u31 u32 : Value, a' = { tmps := #[.string s, undef, .pointer (some ⟨w.heap.size, 0, none⟩), .bool false, .pointer (some ⟨w.heap.size + 1, 0, none⟩), .pointer (some ⟨Bx, 0, none⟩), u6, u7, u8, u9, u10, u11, u12, u13, u14, u15, u16, u17, u18, u19, u20, u21, u22, u23, u24, u25, u26, u27, u28, u29, u30, u31, u32], defers := [] })
    (fun x a' => Own.from (box_own_any (w.heap.size + 1) x (fun Bx => ∃ u6 u7 u8 u9 u10 u11 u12 u13 u14 u15 u16 u17 u18 u19 u20 u21 u22 u23 u24 u25 u26 u27 u28 u29 u30 u31 u32 : Value, a' = { tmps := #[.string s, undef, .pointer (some ⟨w.heap.size, 0, none⟩), .bool false, .pointer (some ⟨w.heap.size + 1, 0, none⟩), .pointer (some ⟨Bx, 0, none⟩), u6, u7, u8, u9, u10, u11, u12, u13, u14, u15, u16, u17, u18, u19, u20, u21, u22, u23, u24, u25, u26, u27, u28, u29, u30, u31, u32], defers := [] })) _)
    ?assign ?body ?done ?stop
  case assign =>
    rintro l pre x W K ⟨⟨⟨⟨v, hv, hrow⟩, hm0⟩, hb2⟩, hB⟩ hK
    dsimp only [encC]
    gi_wp2
    exact hK _ _ ((KeepsOthers.alloc _ _).from _) (keepsAt_grown (World.grownBy_alloc W _ none) (by simp) (by simp)) ⟨⟨⟨⟨v, hv.alloc _, hrow.alloc _⟩, MBox.alloc hm0 _⟩, hb2.alloc _⟩, hB.alloc hB.size _⟩ ⟨W.heap.size, hv.lt, IBox.new W x, _, _, _, _, _, _, _, _, _, _, _, _, _, _, _, _, _, _, _, _, _, _, _, _, _, _, _, rfl⟩
  case body =>
    rintro l pre x a' W hl ⟨r, hr⟩ ⟨⟨⟨⟨v, hv, hrow⟩, hm0⟩, hb2⟩, hB⟩ ⟨Bx, hBx, hX, u6, u7, u8, u9, u10, u11, u12, u13, u14, u15, u16, u17, u18, u19, u20, u21, u22, u23, u24, u25, u26, u27, u28, u29, u30, u31, u32, rfl⟩ hlt
    have hc := hv.c1
    have x0 := hX.c0
    have x1 := hX.c1
    have x2 := hX.c2
    gi_wp2_with (gi_at_builtin; refine wpListIn_append_own _ rfl _ _ 24 rfl w.heap.size 30 i0 (.agg #[.int .i64 0, .int .i64 0, .int .i64 0]) 3 24 Try.underlying24 hi hz0 hz1 hz2 rfl (by decide) _ _ _ rfl (hrow.alloc _) ⟨W.heap.size, 0, none⟩ 1 1 [.int .i64 x.1, .int .i64 x.2.1, .int .i64 x.2.2] rfl rfl (World.news_of_block (cs := #[.int .i64 x.1, .int .i64 x.2.1, .int .i64 x.2.2]) (t := 30) (fr := (0, 0)) (heap_alloc_new W _)) (by simp [Value.oneCell']) (by unfold maxLen; omega) (by omega) (by have := hB.size; simp; omega) ?_; intro v' w1 hown' hgrow _; obtain ⟨g', cap', rfl⟩ := ownsRow_succ hown'; obtain ⟨hv1, hv2, hr2, hk2, hbl2, ho2⟩ := hv.appended hrow hB.size (Nat.le_succ _) hown' hgrow; have hc1 := hv1.c1; have hf1 := hv1.f1)
    have e2 := ho2 _ hb2.lt (Boxed.not_row hb2 (by decide) hrow) (by omega)
    exact ⟨hk2.from _, ⟨fun _ h => (cell_of_same e2).trans h, fun _ h => (cell_of_same e2).trans h⟩, ⟨⟨⟨⟨_, hv2, by rw [flatC_snoc, List.length_append]; exact hr2⟩, (ho2 _ (MBox.lt hm0) (MBox.not_row hm0 hrow) (by omega)).trans hm0⟩, e2.trans hb2⟩, hB.trans hbl2⟩⟩
  case done =>
    rintro D ys W hD rfl ⟨⟨⟨⟨v, hv, hrow⟩, hm0⟩, hb2⟩, hB⟩ hK
    obtain ⟨a, cap, rfl⟩ := own_form hrow
    obtain ⟨F, hF⟩ : ∃ F : ByteArray, F = ⟨(fmtOf ((c : Int) + 1) ys).toArray⟩ := ⟨_, rfl⟩
    have hc0 := hv.c0
    have hc1 := hv.c1
    have hdat : s.data.toList.length = s.size := by simp
    have hne0 : s.data.toList ≠ [] := fun e => by rw [e] at hdat; simp at hdat; omega
    have hbox : ∀ W1, W.grownBy W1 none → MBox W1 w.heap.size 0 (.slice none 0 0) ∧ MBox W1 (w.heap.size + 1) ((c : Int) + 1) (.slice a ys.length cap) := fun W1 h => ⟨MBox.kept hm0 h (by simp), hv.kept h (by simp)⟩
    have HBX := Lib.hid hbox; clear hbox
    have HRW := Lib.hid hrow
    have HBB := Lib.hid hB
    have HKK := Lib.hid hK
    have HNE := Lib.hid hne0; clear hne0
    have HDT := Lib.hid hdat; clear hdat
    have HF := Lib.hid hF
    clear hrow hB hK hm0 hv hb2 hstop
    by_cases hFs : F = s
    · have hcmp := str_same hFs
      have hok : fmtOf ((c : Int) + 1) ys = s.data.toList := by rw [← hFs, hF]
      have hpok : pOk s.data.toList = true := decide_eq_true ⟨HNE.out, by have := HDT.out; omega, by rw [hc, HZ.out]; exact hok⟩
      obtain ⟨e1, e2⟩ := p_yes hpok
      rw [hc] at e1
      rw [HZ.out] at e2
      have HP := Lib.hid (And.intro hpok (And.intro e1 e2))
      clear hok hpok e1 e2 hF
      gi_wp2_with ((with_reducible refine And.intro ?_ ?_); exact trivial; gi_at_call 19; refine (callsIn_wide.2 (fmt_is ((c : Int) + 1) a ys.length cap ys W (own_reads HRW.out) (Nat.le_trans HZL.out (by omega)))).mono ?_; rw [← HF.out]; rintro e W1 ⟨rfl, hg⟩; obtain ⟨hm0, hm1⟩ := HBX.out _ hg; have d0 := MBox.c0 hm0; have d1 := MBox.c1 hm0; have f0 := MBox.f0 hm0; have f1 := MBox.f1 hm0; have g0 := MBox.c0 hm1; have g1 := MBox.c1 hm1; have HM0 := Lib.hid hm0; have HG1 := Lib.hid hg; clear hm0 hm1 hg)
      have hrow1 := own_on HRW.out HG1.out
      have hB1 := HBB.out.trans (grown_below HG1.out HBB.out.size)
      have hK1 := (KeepsOthers.of_grownBy HG1.out (fun j o e => by cases e)).same D _ HKK.out rfl
      have hK2 := ((KeepsOthers.setCell W1 ⟨w.heap.size, 0, none⟩ (.int .i64 ((c : Int) + 1))).trans (KeepsOthers.setCell _ ⟨w.heap.size, 1, none⟩ (.slice a ys.length cap))).same D _ hK1 rfl
      refine ⟨by simp, .inl ⟨_, _, rfl, run_takeDeferred hK2, ?_⟩⟩
      have hfin : ((((W1.setCell ⟨w.heap.size, 0, none⟩ (.int .i64 ((c : Int) + 1))).setCell ⟨w.heap.size, 1, none⟩ (.slice a ys.length cap)).putObj D (.deferred none))).heap[w.heap.size]? = some (.cells #[.int .i64 ((c : Int) + 1), .slice a ys.length cap] 26 (0, 0)) :=
        (World.putObj_heap_other (by omega)).trans (MBox.set1 (MBox.set0 HM0.out ((c : Int) + 1)) _)
      have hg1 := grownBy_setC W1 w.heap.size 0 (.int .i64 ((c : Int) + 1))
      have hg2 := grownBy_setC (W1.setCell ⟨w.heap.size, 0, none⟩ (.int .i64 ((c : Int) + 1))) w.heap.size 1 (.slice a ys.length cap)
      have ho1 := hrow1.kept hg1 (.inr (MBox.not_row HM0.out hrow1).symm)
      have ho2 := ho1.kept hg2 (.inr (MBox.not_row (MBox.set0 HM0.out ((c : Int) + 1)) ho1).symm)
      have hB2 := (hB1.setCell (p := ⟨w.heap.size, 0, none⟩) (Nat.le_refl _) (.int .i64 ((c : Int) + 1))).setCell (p := ⟨w.heap.size, 1, none⟩) (Nat.le_refl _) (.slice a ys.length cap)
      obtain ⟨q1, q2, q3⟩ := HP.out
      exact ⟨_, results_row_tmp rfl _ _ w.heap.size _ _ (0, 0) _ rfl hfin Try.underlying26 rfl (by kernel_rfl), .slice a ys.length cap, by rw [q1, q2]; rfl, by rw [q3]; exact ownsRow_putObj ho2 _ hK2 rfl, hB2.trans (belowK_b (w := w) (Nat.le_refl _) _ D _ _ (by omega) hK2 rfl rfl)⟩
    · have hcmp := str_other hFs
      have hpok : pOk s.data.toList = false := decide_eq_false fun e => hFs (by
        have e3 := e.2.2
        rw [hc, HZ.out] at e3
        rw [hF, e3])
      obtain ⟨e1, e2⟩ := p_no hpok
      have HP := Lib.hid (And.intro hpok (And.intro e1 e2))
      clear hpok e1 e2 hF hFs
      gi_wp2_with ((with_reducible refine And.intro ?_ ?_); exact trivial; gi_at_call 19; refine (callsIn_wide.2 (fmt_is ((c : Int) + 1) a ys.length cap ys W (own_reads HRW.out) (Nat.le_trans HZL.out (by omega)))).mono ?_; rw [← HF.out]; rintro e W1 ⟨rfl, hg⟩; obtain ⟨hm0, hm1⟩ := HBX.out _ hg; have d0 := MBox.c0 hm0; have d1 := MBox.c1 hm0; have f0 := MBox.f0 hm0; have f1 := MBox.f1 hm0; have HM0 := Lib.hid hm0; have HG1 := Lib.hid hg; clear hm0 hm1 hg)
      have hB1 := HBB.out.trans (grown_below HG1.out HBB.out.size)
      have hK1 := (KeepsOthers.of_grownBy HG1.out (fun j o e => by cases e)).same D _ HKK.out rfl
      have hK2 := ((KeepsOthers.setCell W1 ⟨w.heap.size, 0, none⟩ (.int .i64 0)).trans (KeepsOthers.setCell _ ⟨w.heap.size, 1, none⟩ (.slice none 0 0))).same D _ hK1 rfl
      refine ⟨by simp, .inl ⟨_, _, rfl, run_takeDeferred hK2, ?_⟩⟩
      have hfin : ((((W1.setCell ⟨w.heap.size, 0, none⟩ (.int .i64 0)).setCell ⟨w.heap.size, 1, none⟩ (.slice none 0 0)).putObj D (.deferred none))).heap[w.heap.size]? = some (.cells #[.int .i64 0, .slice none 0 0] 26 (0, 0)) :=
        (World.putObj_heap_other (by omega)).trans (MBox.set1 (MBox.set0 HM0.out 0) _)
      have hB2 := (hB1.setCell (p := ⟨w.heap.size, 0, none⟩) (Nat.le_refl _) (.int .i64 0)).setCell (p := ⟨w.heap.size, 1, none⟩) (Nat.le_refl _) (.slice none 0 0)
      obtain ⟨q1, q2, q3⟩ := HP.out
      exact ⟨_, results_row_tmp rfl _ _ w.heap.size _ _ (0, 0) _ rfl hfin Try.underlying26 rfl (by kernel_rfl), .slice none 0 0, by rw [q1, q2]; rfl, by rw [q3]; exact World.ownsRow_nil _ _ _ _, hB2.trans (belowK_b (w := w) (Nat.le_refl _) _ D _ _ (by omega) hK2 rfl rfl)⟩
  case stop =>
    rintro D c pre W _ _ h _
    exact h.elim
end Go.Proofs.Ytjhfjceieaanhaa.Mesh
