/- Meshes: MeshNew of the program, as a contract: the mesh that it answers, its leaves in a row of the call's own; nothing that was there is written.
   Conditions: none. -/
import Derived.Test.YtaccigmkddomaaaMSeq
import Derived.Test.YtaccigmkddomaaaPkMesh
set_option maxRecDepth 100000
namespace Go.Proofs.Ytaccigmkddomaaa.Mesh
open Go.ChangeShapes Go.WideShapes Go.ChangeAt Go.RowKit Go.Shelf Go.Proofs.Ytaccigmkddomaaa.Cell

attribute [local go_sem] Oper.semAt_some

theorem infoC : (Try.prog.info? 35).map (fun i => (i.zero, i.size, i.bytes)) = some (some (.agg #[.int .i64 0, .int .i64 0, .int .i64 0]), 3, 24) := by kernel_rfl

/-- What a grown world keeps for the iterator. -/
theorem keepsAt_grown {b1 b2 : Nat} {W W' : World} {row : Option Nat} (hg : W.grownBy W' row) (h1 : some b1 ≠ row) (h2 : some b2 ≠ row) : KeepsAt b1 b2 W W' := ⟨fun _ h => hg.cell h h1, fun _ h => hg.cell h h2⟩
theorem keepsAt_put {b1 b2 : Nat} {W : World} {l : Nat} {o : Obj} (o' : Obj) (hl : W.heap[l]? = some o) (ho : o.isCells = false) : KeepsAt b1 b2 W (W.putObj l o') := by
  have key : ∀ b v, W.cell? ⟨b, 0, none⟩ = some v → (W.putObj l o').cell? ⟨b, 0, none⟩ = some v := fun b v h => by
    by_cases e : b = l
    · subst e
      have : W.cell? ⟨b, 0, none⟩ = none := by cases o <;> simp_all [World.cell?, Obj.isCells]
      rw [this] at h; cases h
    · exact (grownBy_putObj' W l o').cell h (fun e' => e (by cases e'; rfl))
  exact ⟨key b1, key b2⟩

theorem cell_of_same {W W' : World} {b : Nat} (h : W'.heap[b]? = W.heap[b]?) : W'.cell? ⟨b, 0, none⟩ = W.cell? ⟨b, 0, none⟩ := by simp [World.cell?, h]
theorem own_form {W : World} {base : Nat} {e : TypeId} {size : Nat} {v : Value} {n : Nat} {xs : List Value} (h : W.ownsRow base e size v n xs) : ∃ a cap, v = .slice a n cap := by
  rcases h.2 with ⟨rfl, rfl⟩ | ⟨g, cap, _, rfl, _⟩
  · exact ⟨_, _, rfl⟩
  · exact ⟨_, _, rfl⟩

set_option maxRecDepth 100000 in
set_option maxHeartbeats 4000000 in
theorem new_in (F : Fence) (n : Nat) (h21 : F.fn 50) (h46 : F.fn 73) (h60 : F.fn 88) (hro : F.round = none) (hn : 6 ≤ n)
    (R : Nat) (L : Int) (hR1 : (1 : Int) ≤ R) (hR8 : (R : Int) ≤ 8) (h0L : 0 ≤ L) (h4L : L ≤ 4) (w : World) :
    CallsIn F n Try.prog 50 #[.int .i64 R, .int .i64 L] w fun e W' => ∃ v, e = .returned (.tuple #[.agg #[.int .i64 R, v], .bool true]) ∧ W'.ownsRow w.heap.size 35 3 v (allC R L (powL L)).length (flatC (allC R L (powL L))) ∧ Below w.heap.size w W' := by
  have h1 : 1 ≤ n := by omega
  obtain ⟨i0, hi, hz0, hz1, hz2⟩ := info_parts infoC
  refine callsIn_of_wp_marks Try.func50 rfl h21 ?_ hro
  simp only [Try.ntmps50, List.size_toArray, List.length_cons, List.length_nil, Nat.reduceAdd, Nat.reduceSub, Array.replicate_succ, Array.replicate_zero, List.push_toArray, List.append_toArray, List.nil_append, List.cons_append]
  gi_wp2_with (gi_at_call 73; refine (lvl_in F (n - 1) h46 hro _ _ _).mono ?_; rintro e w' ⟨rfl, rfl⟩)
  have m0 := (((MBox.new w 0 (.slice none 0 0)).alloc (.cells #[.int .i64 R, .slice none 0 0] 26)).alloc (.cells #[.int .i64 R] 3)).alloc (.cells #[.int .i64 L] 3)
  have m1 := ((MBox.new (w.alloc (.cells #[.int .i64 0, .slice none 0 0] 26)) R (.slice none 0 0)).alloc (.cells #[.int .i64 R] 3)).alloc (.cells #[.int .i64 L] 3)
  have m2 := (Boxed.new ((w.alloc (.cells #[.int .i64 0, .slice none 0 0] 26)).alloc (.cells #[.int .i64 R, .slice none 0 0] 26)) 3 (.int .i64 R)).alloc (.cells #[.int .i64 L] 3)
  have m3 := Boxed.new (((w.alloc (.cells #[.int .i64 0, .slice none 0 0] 26)).alloc (.cells #[.int .i64 R, .slice none 0 0] 26)).alloc (.cells #[.int .i64 R] 3)) 3 (.int .i64 L)
  simp only [World.size_alloc] at m1 m2 m3
  have hB0 : Below w.heap.size w ((((w.alloc (.cells #[.int .i64 0, .slice none 0 0] 26)).alloc (.cells #[.int .i64 R, .slice none 0 0] 26)).alloc (.cells #[.int .i64 R] 3)).alloc (.cells #[.int .i64 L] 3)) := ((((Below.refl _ w).alloc (Nat.le_refl _) _).alloc (by simp) _).alloc (by simp; omega) _).alloc (by simp; omega) _
  have hsz : ((((w.alloc (.cells #[.int .i64 0, .slice none 0 0] 26)).alloc (.cells #[.int .i64 R, .slice none 0 0] 26)).alloc (.cells #[.int .i64 R] 3)).alloc (.cells #[.int .i64 L] 3)).heap.size = w.heap.size + 4 := by simp
  obtain ⟨W0, hW0⟩ : ∃ W0, (((w.alloc (.cells #[.int .i64 0, .slice none 0 0] 26)).alloc (.cells #[.int .i64 R, .slice none 0 0] 26)).alloc (.cells #[.int .i64 R] 3)).alloc (.cells #[.int .i64 L] 3) = W0 := ⟨_, rfl⟩
  rw [hW0] at m0 m1 m2 m3 hB0 hsz ⊢
  clear hW0
  refine wpIn_rangeFunc_ownH hro h1 (gf := 88) (lb := #[.pointer (some ⟨w.heap.size + 1 + 1, 0, none⟩), .pointer (some ⟨w.heap.size + 1 + 1 + 1, 0, none⟩)]) rfl h60 (enters_of Try.func88 (by kernel_rfl) rfl)
    (lvl_stops F (n - 1) h60 hro (by omega) (w.heap.size + 1 + 1) (w.heap.size + 1 + 1 + 1) R L (by omega) h0L h4L W0 m2.cell m3.cell (by omega) (by omega)) (fun h k => KeepsAt.trans h k) (fun W l o o' hl ho hc _ => keepsAt_put o' ho hc) (Below.refl _ _) (fun _ => rfl)
    (fun pre W => (((∃ v, MBox W (w.heap.size + 1) R v ∧ W.ownsRow w.heap.size 35 3 v pre.length (flatC pre)) ∧ MBox W w.heap.size 0 (.slice none 0 0)) ∧ Boxed W (w.heap.size + 1 + 1) 3 (.int .i64 R) ∧ Boxed W (w.heap.size + 1 + 1 + 1) 3 (.int .i64 L)) ∧ Below w.heap.size w W)
    (fun _ _ _ => False)
    (OwnFrom.and (OwnFrom.and (OwnFrom.and (Own.from (holds_own w.heap.size (w.heap.size + 1) (fun _ => (R : Int)) List.length flatC) _) (Own.from (block_own _ _ (fun _ => #[.int .i64 0, .slice none 0 0])) _)) (OwnFrom.and (Own.from (boxed_own _ _ _) _) (Own.from (boxed_own _ _ _) _))) (ownFrom_below (Nat.le_refl _) (by omega)))
    (fun _ _ _ _ _ hs _ _ => hs)
    ⟨⟨⟨⟨_, m1, World.ownsRow_nil _ _ _ _⟩, m0⟩, m2, m3⟩, hB0⟩
    (fun x a' W => ∃ Bx, w.heap.size + 1 < Bx ∧ IBox W Bx x ∧ ∃ u8 u9 u10 u11 u12 u13 u14 u15 u16 u17 u18 u19 u20 u21 u22 u23 u24 u25 u26 u27 u28 u29 u30 u31 u32 u33 u34 u35 : Value, a' = { tmps := #[.int .i64 R, .int .i64 L, undef, undef, .pointer (some ⟨w.heap.size, 0, none⟩), .bool false, .pointer (some ⟨w.heap.size + 1, 0, none⟩), .pointer (some ⟨Bx, 0, none⟩), u8, u9, u10, u11, u12, u13, u14, u15, u16, u17, u18, u19, u20, u21, u22, u23, u24, u25, u26, u27, u28, u29, u30, u31, u32, u33, u34, u35], defers := [] })
    (fun x a' => Own.from (box_own_any (w.heap.size + 1) x (fun Bx => ∃ u8 u9 u10 u11 u12 u13 u14 u15 u16 u17 u18 u19 u20 u21 u22 u23 u24 u25 u26 u27 u28 u29 u30 u31 u32 u33 u34 u35 : Value, a' = { tmps := #[.int .i64 R, .int .i64 L, undef, undef, .pointer (some ⟨w.heap.size, 0, none⟩), .bool false, .pointer (some ⟨w.heap.size + 1, 0, none⟩), .pointer (some ⟨Bx, 0, none⟩), u8, u9, u10, u11, u12, u13, u14, u15, u16, u17, u18, u19, u20, u21, u22, u23, u24, u25, u26, u27, u28, u29, u30, u31, u32, u33, u34, u35], defers := [] })) _)
    ?assign ?body ?done ?stop
  case assign =>
    rintro l pre x W K ⟨⟨⟨⟨v, hv, hrow⟩, hm0⟩, hb2, hb3⟩, hB⟩ hK
    dsimp only [encC]
    gi_wp2
    exact hK _ _ ((KeepsOthers.alloc _ _).from _) (keepsAt_grown (World.grownBy_alloc W _ none) (by simp) (by simp)) ⟨⟨⟨⟨v, hv.alloc _, hrow.alloc _⟩, MBox.alloc hm0 _⟩, hb2.alloc _, hb3.alloc _⟩, hB.alloc hB.size _⟩ ⟨W.heap.size, hv.lt, IBox.new W x, _, _, _, _, _, _, _, _, _, _, _, _, _, _, _, _, _, _, _, _, _, _, _, _, _, _, _, _, rfl⟩
  case body =>
    rintro l pre x a' W hl ⟨r, hr⟩ ⟨⟨⟨⟨v, hv, hrow⟩, hm0⟩, hb2, hb3⟩, hB⟩ ⟨Bx, hBx, hX, u8, u9, u10, u11, u12, u13, u14, u15, u16, u17, u18, u19, u20, u21, u22, u23, u24, u25, u26, u27, u28, u29, u30, u31, u32, u33, u34, u35, rfl⟩ hlt
    have hc := hv.c1
    have x0 := hX.c0
    have x1 := hX.c1
    have x2 := hX.c2
    gi_wp2_with (gi_at_builtin; refine wpListIn_append_own _ rfl _ _ 24 rfl w.heap.size 35 i0 (.agg #[.int .i64 0, .int .i64 0, .int .i64 0]) 3 24 Try.underlying24 hi hz0 hz1 hz2 rfl (by decide) _ _ _ rfl (hrow.alloc _) ⟨W.heap.size, 0, none⟩ 1 1 [.int .i64 x.1, .int .i64 x.2.1, .int .i64 x.2.2] rfl rfl (World.news_of_block (cs := #[.int .i64 x.1, .int .i64 x.2.1, .int .i64 x.2.2]) (t := 35) (fr := (0, 0)) (heap_alloc_new W _)) (by simp [Value.oneCell']) (by unfold maxLen; omega) (by omega) (by have := hB.size; simp; omega) ?_; intro v' w1 hown' hgrow _; obtain ⟨g', cap', rfl⟩ := ownsRow_succ hown'; obtain ⟨hv1, hv2, hr2, hk2, hbl2, ho2⟩ := hv.appended hrow hB.size (Nat.le_succ _) hown' hgrow; have hc1 := hv1.c1; have hf1 := hv1.f1)
    have e2 := ho2 _ hb2.lt (Boxed.not_row hb2 (by decide) hrow) (by omega)
    have e3 := ho2 _ hb3.lt (Boxed.not_row hb3 (by decide) hrow) (by omega)
    exact ⟨hk2.from _, ⟨fun _ h => (cell_of_same e2).trans h, fun _ h => (cell_of_same e3).trans h⟩, ⟨⟨⟨⟨_, hv2, by rw [flatC_snoc, List.length_append]; exact hr2⟩, (ho2 _ (MBox.lt hm0) (MBox.not_row hm0 hrow) (by omega)).trans hm0⟩, e2.trans hb2, e3.trans hb3⟩, hB.trans hbl2⟩⟩
  case done =>
    rintro D ys W hD rfl ⟨⟨⟨⟨v, hv, hrow⟩, hm0⟩, hb2, hb3⟩, hB⟩ hK
    obtain ⟨a, cap, rfl⟩ := own_form hrow
    have hc0 := hv.c0
    have hc1 := hv.c1
    have d0 := MBox.c0 hm0
    have d1 := MBox.c1 hm0
    have f0 := MBox.f0 hm0
    have f1 := MBox.f1 hm0
    gi_wp2
    have hK2 := ((KeepsOthers.setCell W ⟨w.heap.size, 0, none⟩ (.int .i64 R)).trans (KeepsOthers.setCell _ ⟨w.heap.size, 1, none⟩ (.slice a (allC R L (powL L)).length cap))).same D _ hK rfl
    refine ⟨by simp, .inl ⟨_, _, rfl, run_takeDeferred hK2, ?_⟩⟩
    have hfin : ((((W.setCell ⟨w.heap.size, 0, none⟩ (.int .i64 R)).setCell ⟨w.heap.size, 1, none⟩ (.slice a (allC R L (powL L)).length cap)).putObj D (.deferred none))).heap[w.heap.size]? = some (.cells #[.int .i64 R, .slice a (allC R L (powL L)).length cap] 26 (0, 0)) :=
      (World.putObj_heap_other (by omega)).trans (MBox.set1 (MBox.set0 hm0 R) _)
    have hg1 := grownBy_setC W w.heap.size 0 (.int .i64 R)
    have hg2 := grownBy_setC (W.setCell ⟨w.heap.size, 0, none⟩ (.int .i64 R)) w.heap.size 1 (.slice a (allC R L (powL L)).length cap)
    have ho1 := hrow.kept hg1 (.inr (MBox.not_row hm0 hrow).symm)
    have ho2 := ho1.kept hg2 (.inr (MBox.not_row (MBox.set0 hm0 R) ho1).symm)
    have hB2 := (hB.setCell (p := ⟨w.heap.size, 0, none⟩) (Nat.le_refl _) (.int .i64 R)).setCell (p := ⟨w.heap.size, 1, none⟩) (Nat.le_refl _) (.slice a (allC R L (powL L)).length cap)
    exact ⟨_, results_row_tmp rfl _ _ w.heap.size _ _ (0, 0) _ rfl hfin Try.underlying26 rfl (by kernel_rfl), _, rfl, ownsRow_putObj ho2 _ hK2 rfl, hB2.trans (belowK_b (w := w) (Nat.le_refl _) _ D _ _ (by omega) hK2 rfl rfl)⟩
  case stop =>
    rintro D c pre W _ _ h _
    exact h.elim
end Go.Proofs.Ytaccigmkddomaaa.Mesh
