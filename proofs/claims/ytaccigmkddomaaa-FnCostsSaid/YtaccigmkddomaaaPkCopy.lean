/- 'copy(dst, src)' of elements of any width into a row that is known whole; the row behind it, for two copies one behind the other. Plain lemmas. Meshes: slices.Replace of one cell by two, at a row of cells that the call owns, as a contract: the three roads of its text. Meshes: slices.Clone at a row of cells, and the reference model's l04Copy, as contracts: a row of the call's own with the same cells; nothing that was there is written. Meshes: the method clone of the program, as a contract: a mesh of its own memory. Meshes: the exact laws' toMesh with the row that it makes, owned; what the exact law of Balance holds between its calls.
   Conditions: as each says. -/
import Derived.Test.YtaccigmkddomaaaPkMesh
import Derived.Laws.CopyOwn
import Derived.Lib.AppendZerosOnto
import Derived.Laws.NewBlocks
import Derived.Lib.Overlaps
import Derived.Deep.AppendLies
import Derived.Deep.RegionLaw
import Derived.Deep.CutRange
import Derived.Deep.DeepCutAuto
import Derived.Deep.RegionWith
import Derived.Test.YtaccigmkddomaaaPkArg
set_option maxRecDepth 100000
namespace Go.Proofs.Ytaccigmkddomaaa.Mesh
open Go.ChangeShapes Go.WideShapes Go.ChangeAt Go.RowKit Go.Proofs.Ytaccigmkddomaaa.Cell

theorem copy_wide {P : Program} (w : World) (dT sT ty elem : TypeId) (g o dLen dCap : Nat) (a : Addr) (sLen sCap : Nat) (cur : List Value) (t : TypeId) (cs : List Value) (i : TypeInfo)
    (hu : P.underlying dT = some (.slice elem)) (hi : P.info? elem = some i) (hg : w.heap[g]? = some (.cells cur.toArray t (0, 0))) (hn : cs.length = Nat.min sLen dLen * i.size)
    (hsrc : ∀ j v, cs[j]? = some v → w.cell? (a.add j) = some v) (hfit : o + cs.length ≤ cur.length) (h1 : ∀ v ∈ cs, v.oneCell' = true) :
    (Builtin.copy_ #[dT, sT] ty #[.slice (some ⟨g, o, none⟩) dLen dCap, .slice (some a) sLen sCap]).run P w = .ok (goInt (Nat.min sLen dLen)) (w.setRow g (splice cur o cs).toArray) := by
  have hl := run_loadCells_list (P := P) w a cs hsrc
  have hst := run_storeCells_at P g o t cs 0 cur.toArray w hg (by simpa using hfit) h1
  simp [Builtin.copy_, run_underlying hu, Builtin.lenOf, Builtin.firstCells, sizeOf, typeInfo, hi, ← hn, hl, hst, splice]

theorem wpList_copy_wide {P : Program} {w : World} {ops : Array Oper} {rest : List Oper} {o : Oper} {a : Act} {Q : Exit → Act → World → Prop} (hgd : o.guard = none) (d s : Operand) (dT sT : TypeId)
    (ho : o.op = .call { callee := .builtin .copy, args := #[d, s], argTypes := #[dT, sT] }) (v u : Value) (hd : a.eval d = v) (hs : a.eval s = u) {v' : Value} {w' : World}
    (hr : (Builtin.copy_ #[dT, sT] o.type #[v, u]).run P w = .ok v' w') (h : wpList P ops Q rest (a.put o.dst v') w') : wpList P ops Q (o :: rest) a w := by
  refine wpList_plain hgd fun K hK => ?_
  unfold Oper.wp
  simp [execOp, ho, resolve, invoke, builtin, hd, hs, hr, Result.andThen]
  exact hK _ _ h

theorem step_copy_wide {P : Program} {ops : Array Oper} {o : Oper} {a : Act} {w : World} {K : Act → World → Prop} {Q : Exit → Act → World → Prop} {E : Prop}
    (hg : o.guard = none) (d x : Operand) (dT sT : TypeId) (hop : o.op = Op.call { callee := Callee.builtin Builtin.copy, args := #[d, x], argTypes := #[dT, sT] })
    (v u : Value) (hd : a.eval d = v) (hx : a.eval x = u) {v' : Value} {w' : World} (hr : (Builtin.copy_ #[dT, sT] o.type #[v, u]).run P w = .ok v' w') (hK : K (a.put o.dst v') w') :
    if Region.wanted o (yielded ops a.tmps) = true then Oper.wp P o a w K Q else E := by
  have hw : Region.wanted o (yielded ops a.tmps) = true := by simp [Region.wanted, hg]
  rw [if_pos hw]
  unfold Oper.wp
  simp [execOp, hop, resolve, invoke, builtin, hd, hx, hr, Result.andThen]
  exact hK

/-- Two copies one behind the other: first the front part, then the back part. -/
theorem splice_front_back {α : Type} (L V T : List α) (o : Nat) (h : o + V.length + T.length ≤ L.length) :
    ((splice (splice L o V) (o + V.length) T).take (o + V.length + T.length)) = L.take o ++ V ++ T := by
  have ho : (L.take o).length = o := by rw [List.length_take]; omega
  have e1 : (splice L o V).take (o + V.length) = L.take o ++ V := by
    unfold splice
    rw [← List.append_assoc, List.take_append_of_le_length (by simp; omega), List.take_of_length_le (by simp; omega)]
  rw [splice, e1, ← List.append_assoc, List.take_append_of_le_length (by simp; omega), List.take_of_length_le (by simp; omega)]
/-- .. first the back part, then the front part. -/
theorem splice_back_front {α : Type} (L V T : List α) (o : Nat) (h : o + V.length + T.length ≤ L.length) :
    ((splice (splice L (o + V.length) T) o V).take (o + V.length + T.length)) = L.take o ++ V ++ T := by
  have ho : (L.take o).length = o := by rw [List.length_take]; omega
  have hp : (L.take (o + V.length)).length = o + V.length := by rw [List.length_take]; omega
  have e1 : (splice L (o + V.length) T).take o = L.take o := by
    unfold splice
    rw [List.take_append_of_le_length (by omega), List.take_take]
    congr 1
    omega
  have e2 : (splice L (o + V.length) T).drop (o + V.length) = T ++ L.drop (o + V.length + T.length) := by
    unfold splice
    rw [List.drop_append_of_le_length (by omega), List.drop_of_length_le (by omega), List.nil_append]
  rw [splice, e1, e2, ← List.append_assoc, ← List.append_assoc, List.take_append_of_le_length (by simp; omega), List.take_of_length_le (by simp; omega)]
theorem flatC_append (xs ys : List C3) : flatC (xs ++ ys) = flatC xs ++ flatC ys := by simp [flatC]
theorem flatC_take (xs : List C3) : ∀ k, (flatC xs).take (k * 3) = flatC (xs.take k) := by
  induction xs with
  | nil => intro k; simp [flatC]
  | cons x xs ih =>
    intro k
    cases k with
    | zero => simp [flatC]
    | succ k => 
      rw [List.take_succ_cons, show (k + 1) * 3 = k * 3 + 1 + 1 + 1 by omega]
      simp only [flatC, List.flatMap_cons, List.cons_append, List.nil_append, List.take_succ_cons] at ih ⊢
      rw [ih k]
theorem flatC_drop (xs : List C3) : ∀ k, (flatC xs).drop (k * 3) = flatC (xs.drop k) := by
  induction xs with
  | nil => intro k; simp [flatC]
  | cons x xs ih =>
    intro k
    cases k with
    | zero => simp [flatC]
    | succ k => 
      rw [List.drop_succ_cons, show (k + 1) * 3 = k * 3 + 1 + 1 + 1 by omega]
      simp only [flatC, List.flatMap_cons, List.cons_append, List.nil_append, List.drop_succ_cons] at ih ⊢
      rw [ih k]
theorem flatC_one (xs : List C3) : ∀ v ∈ flatC xs, v.oneCell' = true := by
  intro v hv
  simp only [flatC, List.mem_flatMap] at hv
  obtain ⟨x, -, hx⟩ := hv
  simp only [List.mem_cons, List.not_mem_nil, or_false] at hx
  rcases hx with rfl | rfl | rfl <;> rfl
theorem take_of_take {α : Type} {l m : List α} {a : Nat} (h : l.take a = m) (b : Nat) (hb : b ≤ a) : l.take b = m.take b := by
  rw [← h, List.take_take, Nat.min_eq_left hb]
end Go.Proofs.Ytaccigmkddomaaa.Mesh

namespace Go.Proofs.Ytaccigmkddomaaa.Mesh
open Go.ChangeShapes Go.WideShapes Go.ChangeAt Go.RowKit Go.Proofs.Ytaccigmkddomaaa.Cell

theorem infoIdR : (Try.prog.info? 35).map (fun i => (i.zero, i.size, i.bytes)) = some (some (.agg #[.int .i64 0, .int .i64 0, .int .i64 0]), 3, 24) := by kernel_rfl

section
variable {w : World} {ops : Array Oper} {rest : List Oper} {o : Oper} {a : Act} {Q : Exit → Act → World → Prop}

theorem wpList_append_zeros (hgd : o.guard = none) (s x : Operand) (ho : o.op = .call { callee := .builtin .append, args := #[s, x], argTypes := #[24, 3] })
    (g i cap k : Nat) (cur : List Value) (kz : Int) (hs : a.eval s = .slice (some ⟨g, 0, none⟩) i cap) (hx : a.eval x = .int .i64 kz) (hkz : kz = k) (hg : w.heap[g]? = some (.cells cur.toArray 35 (0, 0)))
    (hlen : i * 3 ≤ cur.length) (hk : 0 < k) (hroom : cap < i + k) (hbig : i + k ≤ 1048576)
    (h : ∀ (G : Nat) (row : List Value) (w' : World), i + k ≤ G → G ≤ maxLen → Hid (w'.heap[w.heap.size]? = some (.cells row.toArray 35 (0, 0))) → row.length = G * 3 → Hid (row.take (i * 3) = cur.take (i * 3)) → w.grownBy w' none →
      wpList Try.prog ops Q rest (a.put o.dst (.slice (some ⟨w.heap.size, 0, none⟩) (i + k) G)) w') : wpList Try.prog ops Q (o :: rest) a w := by
  obtain ⟨i0, hi0, hz0, hz1, hz2⟩ := info_parts infoIdR
  subst hkz
  have hold : (Builtin.firstCells i0.size i (.slice (some ⟨g, 0, none⟩) i cap)).run Try.prog w.drew = .ok (cur.take (i * 3)).toArray w.drew := by
    rw [hz1]
    refine run_firstCells_some w.drew 3 i ⟨g, 0, none⟩ i cap (cur.take (i * 3)) (by rw [List.length_take]; omega) (fun j v hj => ?_)
    rw [Addr.add_lit, Nat.zero_add, cell_of_row w.drew g j cur.toArray _ (0, 0) hg]
    rw [List.getElem?_take] at hj
    split at hj
    · simpa using hj
    · cases hj
  have hr := Lib.run_append_grow_zeros w 24 3 o.type 35 i0 _ .i64 .i64 Try.underlying24 Try.underlying3 hi0 hz0 (some ⟨g, 0, none⟩) i cap _ hold k hk (by omega) hroom (by omega) (by rw [hz2]; omega) (by rw [hz2]; exact growslice_fits hroom (by omega))
  have hG := grownCap_ge w (i + k) cap 35
  have hG2 := grownCap_le_maxLen w (i + k) cap 35 (by unfold maxLen; omega)
  refine Lib.wpList_append_run w hgd s x _ _ ho _ _ hs hx _ _ hr (h _ ((cur.take (i * 3)).toArray ++ Builtin.zeroCells (Value.agg #[.int .i64 0, .int .i64 0, .int .i64 0]).cells k ++ Builtin.zeroCells (Value.agg #[.int .i64 0, .int .i64 0, .int .i64 0]).cells (grownCap w (i + k) cap 35 - (i + k))).toList _ hG hG2 (Lib.hid (World.alloc_heap_new _ _)) ?_ (Lib.hid ?_) ?_)
  · simp [Builtin.zeroCells, Value.cells]
    omega
  · rw [Array.toList_append, Array.toList_append, List.append_assoc, List.toList_toArray, List.take_append_of_le_length (by simp; omega), List.take_take, Nat.min_self]
  · exact ⟨rfl, rfl, rfl, by simp [World.alloc], fun b hb _ => Below.heap_alloc w.drew _ b hb⟩

/-- The copy, as a law at a plain region's list. -/
theorem wpList_copy_into (hgd : o.guard = none) (d s : Operand) (ho : o.op = .call { callee := .builtin .copy, args := #[d, s], argTypes := #[24, 24] })
    (g off dLen dCap : Nat) (ad : Addr) (sLen sCap : Nat) (hd : a.eval d = .slice (some ⟨g, off, none⟩) dLen dCap) (hs : a.eval s = .slice (some ad) sLen sCap)
    (cur : List Value) (hg : w.heap[g]? = some (.cells cur.toArray 35 (0, 0))) (cs : List Value) (hn : cs.length = Nat.min sLen dLen * 3)
    (hsrc : ∀ j v, cs[j]? = some v → w.cell? (ad.add j) = some v) (hfit : off + cs.length ≤ cur.length) (h1 : ∀ v ∈ cs, v.oneCell' = true)
    (h : ∀ (z : Value) (w' : World), Hid (w'.heap[g]? = some (.cells (splice cur off cs).toArray 35 (0, 0))) → w.grownBy w' (some g) → wpList Try.prog ops Q rest (a.put o.dst z) w') : wpList Try.prog ops Q (o :: rest) a w := by
  obtain ⟨i0, hi0, hz0, hz1, hz2⟩ := info_parts infoIdR
  exact wpList_copy_wide hgd d s _ _ ho _ _ hd hs (copy_wide w _ _ o.type _ g off dLen dCap ad sLen sCap cur _ cs i0 Try.underlying24 hi0 hg (by rw [hz1]; exact hn) hsrc hfit h1)
    (h _ _ (Lib.hid (setRow_heap w g _ _ _ _ hg)) ⟨rfl, rfl, rfl, by simp [World.setRow], fun b hb hne => setRow_other w g b _ (fun e => hne (by rw [e]))⟩)

/-- .. and at a step of a region that draws its order. -/
theorem step_copy_into {K : Act → World → Prop} {E : Prop} (hgd : o.guard = none) (d s : Operand) (ho : o.op = .call { callee := .builtin .copy, args := #[d, s], argTypes := #[24, 24] })
    (g off dLen dCap : Nat) (ad : Addr) (sLen sCap : Nat) (hd : a.eval d = .slice (some ⟨g, off, none⟩) dLen dCap) (hs : a.eval s = .slice (some ad) sLen sCap)
    (cur : List Value) (hg : w.heap[g]? = some (.cells cur.toArray 35 (0, 0))) (cs : List Value) (hn : cs.length = Nat.min sLen dLen * 3)
    (hsrc : ∀ j v, cs[j]? = some v → w.cell? (ad.add j) = some v) (hfit : off + cs.length ≤ cur.length) (h1 : ∀ v ∈ cs, v.oneCell' = true)
    (h : ∀ (z : Value) (w' : World), Hid (w'.heap[g]? = some (.cells (splice cur off cs).toArray 35 (0, 0))) → w.grownBy w' (some g) → K (a.put o.dst z) w') :
    if Region.wanted o (yielded ops a.tmps) = true then Oper.wp Try.prog o a w K Q else E := by
  obtain ⟨i0, hi0, hz0, hz1, hz2⟩ := info_parts infoIdR
  exact step_copy_wide hgd d s _ _ ho _ _ hd hs (copy_wide w _ _ o.type _ g off dLen dCap ad sLen sCap cur _ cs i0 Try.underlying24 hi0 hg (by rw [hz1]; exact hn) hsrc hfit h1)
    (h _ _ (Lib.hid (setRow_heap w g _ _ _ _ hg)) ⟨rfl, rfl, rfl, by simp [World.setRow], fun b hb hne => setRow_other w g b _ (fun e => hne (by rw [e]))⟩)
end
end Go.Proofs.Ytaccigmkddomaaa.Mesh

namespace Go.Proofs.Ytaccigmkddomaaa.Mesh
open Go.ChangeShapes Go.WideShapes Go.ChangeAt Go.RowKit Go.Proofs.Ytaccigmkddomaaa.Cell

theorem flatC_get {xs : List C3} {j : Nat} {u : Value} (h : (flatC xs)[j]? = some u) : ∃ k x, xs[k]? = some x ∧ ((j = k * 3 ∧ u = .int .i64 x.1) ∨ (j = k * 3 + 1 ∧ u = .int .i64 x.2.1) ∨ (j = k * 3 + 2 ∧ u = .int .i64 x.2.2)) := by
  have hj := (List.getElem?_eq_some_iff.1 h).1
  rw [flatC_len] at hj
  obtain ⟨r, l, i, hx⟩ := get_of_lt (xs := xs) rfl (k := j / 3) (by omega)
  obtain ⟨f0, f1, f2⟩ := flatC_at xs _ _ hx
  refine ⟨j / 3, _, hx, ?_⟩
  rcases (show j = j / 3 * 3 ∨ j = j / 3 * 3 + 1 ∨ j = j / 3 * 3 + 2 by omega) with e | e | e
  · rw [e, f0] at h; cases h; exact .inl ⟨by omega, rfl⟩
  · rw [e, f1] at h; cases h; exact .inr (.inl ⟨by omega, rfl⟩)
  · rw [e, f2] at h; cases h; exact .inr (.inr ⟨by omega, rfl⟩)
/-- A row that is read, cell by cell. -/
theorem reads_news {w : World} {g n : Nat} {xs : List C3} (h : Reads w (some ⟨g, 0, none⟩) n xs) : ∀ j u, (flatC xs)[j]? = some u → w.cell? ((⟨g, 0, none⟩ : Addr).add j) = some u := by
  intro j u hj
  obtain ⟨k, x, hx, hc⟩ := flatC_get hj
  obtain ⟨g_, hg_, -, d0, d1, d2⟩ := h.at_ k x hx
  cases hg_
  rw [Addr.add_lit, Nat.zero_add]
  rcases hc with ⟨rfl, rfl⟩ | ⟨rfl, rfl⟩ | ⟨rfl, rfl⟩
  · exact d0
  · exact d1
  · exact d2
theorem grown_above {a b c : World} {N : Nat} (k : b.grownBy c (some N)) (hN : a.heap.size ≤ N) (h : a.grownBy b none) : a.grownBy c none :=
  ⟨k.os.trans h.os, k.tape.trans h.tape, k.output.trans h.output, Nat.le_trans h.size k.size, fun i hi hne => (k.block i (Nat.lt_of_lt_of_le hi h.size) (by simp; omega)).trans (h.block i hi hne)⟩
theorem own_empty (w : World) (base : Nat) (hb : base ≤ w.heap.size) : (w.alloc (.cells #[] 35)).ownsRow base 35 3 (.slice (some ⟨w.heap.size, 0, none⟩) 0 0) 0 [] :=
  World.ownsRow_made w #[] 0 hb (by unfold maxLen; omega) rfl

theorem step_append_any {w : World} {ops : Array Oper} {o : Oper} {a : Act} {K : Act → World → Prop} {Q : Exit → Act → World → Prop} {E : Prop} (hgd : o.guard = none) (s x : Operand)
    (ho : o.op = .call { callee := .builtin .append, args := #[s, x], argTypes := #[24, 24] }) (base : Nat)
    (v : Value) (n : Nat) (xs : List Value) (hs : a.eval s = v) (hown : w.ownsRow base 35 3 v n xs)
    (ad : Addr) (m c : Nat) (news : List Value) (hx : a.eval x = .slice (some ad) m c) (hl : news.length = m * 3) (hnews : ∀ j u, news[j]? = some u → w.cell? (ad.add j) = some u) (h1 : ∀ u ∈ news, u.oneCell' = true)
    (hbig : n + m ≤ 1048577) (hbase : base ≤ w.heap.size)
    (h : ∀ v' w', w'.ownsRow base 35 3 v' (n + m) (xs ++ news) → w.grownBy w' v.ownBlock → K (a.put o.dst v') w') :
    if Region.wanted o (yielded ops a.tmps) = true then Oper.wp Try.prog o a w K Q else E := by
  have hw : Region.wanted o (yielded ops a.tmps) = true := by simp [Region.wanted, hgd]
  rw [if_pos hw]
  obtain ⟨i0, hi0, hz0, hz1, hz2⟩ := info_parts infoIdR
  exact wp_append_own w s x 24 ho base 35 i0 (.agg #[.int .i64 0, .int .i64 0, .int .i64 0]) 3 24 Try.underlying24 hi0 hz0 hz1 hz2 rfl (by decide) v n xs hs hown ad m c news hx hl hnews h1 (by unfold maxLen; omega) (by omega) hbase fun v' w' h2 h3 _ => h v' w' h2 h3
theorem own_shape {w : World} {base n : Nat} {v : Value} {xs : List Value} (h : w.ownsRow base 35 3 v n xs) : ∃ a cap, v = .slice a n cap := by
  rcases h.2 with ⟨rfl, rfl⟩ | ⟨g, cap, cur, rfl, -⟩
  · exact ⟨none, 0, rfl⟩
  · exact ⟨_, cap, rfl⟩
theorem gr_drew {w a : World} (h : w.grownBy a none) : w.grownBy a.drew none := ⟨h.os, h.tape, h.output, h.size, h.block⟩

/-- A mesh stored into the answer's box. -/
theorem out_set {w w1 : World} {N n base : Nat} {R R0 : Int} {v v0 : Value} {xs : List Value} (hN : w.heap.size ≤ N) (hm : MBox w1 N R0 v0) (ho : w1.ownsRow base 35 3 v n xs) (hg : w.grownBy w1 none) :
    MBox ((w1.setCell ⟨N, 0, none⟩ (.int .i64 R)).setCell ⟨N, 1, none⟩ v) N R v ∧ ((w1.setCell ⟨N, 0, none⟩ (.int .i64 R)).setCell ⟨N, 1, none⟩ v).ownsRow base 35 3 v n xs ∧ w.grownBy ((w1.setCell ⟨N, 0, none⟩ (.int .i64 R)).setCell ⟨N, 1, none⟩ v) none := by
  have h1 := MBox.set0 hm R
  have ho1 := ho.kept (grownBy_setC w1 N 0 (.int .i64 R)) (.inr (MBox.not_row hm ho).symm)
  exact ⟨MBox.set1 h1 v, ho1.kept (grownBy_setC _ N 1 v) (.inr (MBox.not_row h1 ho1).symm), g_set (g_set hg _ _ _ hN) _ _ _ hN⟩

set_option maxHeartbeats 4000000 in
theorem specCopy_is (R : Int) (g n cap : Nat) (xs : List C3) (w : World) (hr : Reads w (some ⟨g, 0, none⟩) n xs) (hn : n ≤ 1048576) :
    Calls Try.prog 47 #[.agg #[.int .i64 R, .slice (some ⟨g, 0, none⟩) n cap]] w fun e w' => ∃ v, e = .returned (.agg #[.int .i64 R, v]) ∧ w'.ownsRow w.heap.size 35 3 v n (flatC xs) ∧ w.grownBy w' none := by
  go_enter Try.func47, Try.ntmps47
  go_wp2_with fail
  have HG := Lib.hid (show w.grownBy ((w.alloc (.cells #[.int .i64 R, .slice (some ⟨g, 0, none⟩) n cap] 26)).alloc (.cells #[.int .i64 0, .slice none 0 0] 26)) none from g_alloc (g_alloc (grown_refl _) _) _)
  have hb := (boxM_new w 26 R (.slice (some ⟨g, 0, none⟩) n cap)).on (World.grownBy_alloc _ (.cells #[.int .i64 0, .slice none 0 0] 26) none)
  have b0 := hb.c0
  have b1 := hb.c1
  have hm := MBox.new (w.alloc (.cells #[.int .i64 R, .slice (some ⟨g, 0, none⟩) n cap] 26)) 0 (.slice none 0 0)
  rw [World.size_alloc] at hm
  have hsz : w.heap.size + 2 ≤ ((w.alloc (.cells #[.int .i64 R, .slice (some ⟨g, 0, none⟩) n cap] 26)).alloc (.cells #[.int .i64 0, .slice none 0 0] 26)).heap.size := by simp
  have hr0 := hr.on HG.out
  generalize (w.alloc (.cells #[.int .i64 R, .slice (some ⟨g, 0, none⟩) n cap] 26)).alloc (.cells #[.int .i64 0, .slice none 0 0] 26) = W0 at *
  have HM := Lib.hid (show MBox (W0.alloc (.cells #[] 35)).drew (w.heap.size + 1) 0 (.slice none 0 0) from hm.alloc _)
  have HE := Lib.hid (show (W0.alloc (.cells #[] 35)).drew.ownsRow w.heap.size 35 3 (.slice (some ⟨W0.heap.size, 0, none⟩) 0 0) 0 [] from own_empty W0 w.heap.size (by omega))
  have HNS := Lib.hid (reads_news ((hr0.past (.cells #[] 35)).on (gr_drew (grown_refl _))))
  have hb2 := hb.on (World.grownBy_alloc W0 (.cells #[] 35) none)
  have b2 := hb2.c0
  have b3 := hb2.c1
  have HL := Lib.hid (show (flatC xs).length = n * 3 by rw [flatC_len, hr.len])
  have HN := Lib.hid hn
  clear hr hr0 hm hb hb2 hn
  go_region_law ((refine step_append_any rfl _ _ rfl w.heap.size (.slice (some ⟨W0.heap.size, 0, none⟩) 0 0) 0 [] (by simp [Act.eval]) HE.out ⟨g, 0, none⟩ n cap (flatC xs) (by simp [Act.eval]) HL.out HNS.out (flatC_one _) (by have := HN.out; omega) (by simp; omega) ?_; intro v' w1 hown' hgrow; obtain ⟨a', cap', rfl⟩ := own_shape hown'; have hm := MBox.kept HM.out hgrow (by simp [Value.ownBlock]; omega); have d0 := hm.c0; have d1 := hm.c1; have e0 := hm.f0; have e1 := hm.f1; have d2 : w1.cell? ⟨w.heap.size, 0, none⟩ = some (.int .i64 R) := hgrow.cell b2 (by simp [Value.ownBlock]; omega); have HM1 := Lib.hid hm; have HOW := Lib.hid hown'; have HGR := Lib.hid hgrow; clear hown' hgrow hm))
  all_goals
    go_wp2_with fail
    have ho := HOW.out
    rw [Nat.zero_add, List.nil_append] at ho
    obtain ⟨hm, ho, hg⟩ := out_set (w := w) (R := R) (by omega) HM1.out ho (grown_above HGR.out (by show w.heap.size ≤ W0.heap.size; omega) (gr_drew (g_alloc HG.out _)))
    exact bodyPost_ret_by (results_cell_row (fn := Try.f47) rfl _ _ (w.heap.size + 1) _ _ (0, 0) _ rfl hm Try.underlying26 rfl (by kernel_rfl)) rfl ⟨_, rfl, ho, hg⟩
end Go.Proofs.Ytaccigmkddomaaa.Mesh

namespace Go.Proofs.Ytaccigmkddomaaa.Mesh
open Go.ChangeShapes Go.WideShapes Go.ChangeAt Go.RowKit Go.Proofs.Ytaccigmkddomaaa.Cell

end Go.Proofs.Ytaccigmkddomaaa.Mesh

namespace Go.Proofs.Ytaccigmkddomaaa.Mesh
open Go.ChangeShapes Go.WideShapes Go.ChangeAt Go.RowKit Go.Proofs.Ytaccigmkddomaaa.Cell

theorem Filling.own {w : World} {base g n : Nat} {xs : List C3} (h : Filling w g n xs) (hl : xs.length = n) (hb : base ≤ g) (hn : n ≤ 1048576) : w.ownsRow base 35 3 (.slice (some ⟨g, 0, none⟩) n n) n (flatC xs) := by
  obtain ⟨cur, hg, hs, hc⟩ := h.blk
  refine ⟨by rw [flatC_len, hl], .inr ⟨g, n, cur, rfl, hb, hg, Nat.le_refl _, by unfold maxLen; omega, hs, ?_⟩⟩
  rw [List.take_of_length_le (by simp [hs])]
  refine List.ext_getElem? fun j => ?_
  by_cases hj : j < n * 3
  · obtain ⟨u, hu⟩ : ∃ u, (flatC xs)[j]? = some u := ⟨_, List.getElem?_eq_getElem (by rw [flatC_len, hl]; exact hj)⟩
    obtain ⟨k, x, hx, hcase⟩ := flatC_get hu
    obtain ⟨h0, h1, h2⟩ := hc k x hx
    rw [hu]
    rcases hcase with ⟨rfl, rfl⟩ | ⟨rfl, rfl⟩ | ⟨rfl, rfl⟩
    · simpa using h0
    · simpa using h1
    · simpa using h2
  · rw [List.getElem?_eq_none (by simp [hs]; omega), List.getElem?_eq_none (by rw [flatC_len, hl]; omega)]

set_option maxHeartbeats 2000000 in
theorem toS_own (a : Option Addr) (n cap : Nat) (xs : List C3) (w : World) (hx : ReadsAt w a n xs) (hn : n ≤ 1048576) :
    Calls Try.prog 59 #[.slice a n cap] w fun e w' => ∃ g, e = .returned (.slice (some ⟨g, 0, none⟩) n n) ∧ w'.ownsRow w.heap.size 35 3 (.slice (some ⟨g, 0, none⟩) n n) n (flatC xs) ∧ w.grownBy w' none ∧ w.heap.size ≤ g := by
  have hni : (n : Int) ≤ 1048576 := by omega
  obtain ⟨Z, hz, hmk⟩ := make_is w n hn
  have HZ := Lib.hid hz; clear hz
  have HN := Lib.hid hn; clear hn
  have HA := Lib.hid hx; clear hx
  go_enter Try.func59, Try.ntmps59
  go_wp2_with fail
  go_loopw [4] (fun i wr => ∃ k : Nat, (k : Int) ≤ n ∧ i = .int .i64 k ∧ Hid (Filling wr w.heap.size n (xs.take k)) ∧ Hid (w.grownBy wr none)) (fun i _ => n - (intOf i).toNat)
  case atStart => exact ⟨0, by omega, rfl, Lib.hid ⟨⟨Z, heap_alloc_new _ _, HZ.out, by simp⟩⟩, Lib.hid (g_alloc (grown_refl _) _)⟩
  case round =>
    obtain ⟨k, hk, rfl, HF, HG⟩ := hrel
    by_cases hlt : (k : Int) < n
    · have hkn : Hid (k < n) := Lib.hid (by omega)
      obtain ⟨r, l, i, hx⟩ := get_of_lt HA.out.len (k := k) hkn.out
      obtain ⟨b, o, rfl, d0, d1, d2⟩ := (HA.out.on HG.out).at_ k _ hx
      have HX := Lib.hid hx; clear hx
      dsimp only at d0 d1 d2
      go_wp2_with (first
        | (go_at_call 83; (with_reducible refine (Cell.toId_g r l i _).mono ?_); rintro e w' ⟨rfl, hg⟩; have HF' := Lib.hid (HF.out.on hg); have HG' := Lib.hid (grown_trans HG.out hg); clear hg; obtain ⟨⟨z0, z1, z2, o0, o1, o2⟩, q0, q1, q2⟩ := HF'.out.old hkn.out))
      go_roundw
      case rel => exact ⟨k + 1, by omega, by go_num, Lib.hid (HF'.out.put HX.out hkn.out), Lib.hid (g_set (g_set (g_set HG'.out _ _ _ (Nat.le_refl _)) _ _ _ (Nat.le_refl _)) _ _ _ (Nat.le_refl _))⟩
      case measure => simp [intOf]; omega
    · go_wp2_with fail
      go_ret
      obtain rfl : k = n := by omega
      exact ⟨_, rfl, (by have := HF.out; rw [← HA.out.len, List.take_length] at this; rw [HA.out.len] at this; exact this.own HA.out.len (Nat.le_refl _) HN.out), HG.out, Nat.le_refl _⟩

/-- What a law hands on: a mesh of its own, its row owned. -/
def MadeOwn (w : World) (R : Int) (n : Nat) (xs : List C3) (e : Ending) (w' : World) : Prop := ∃ g, e = .returned (.agg #[.int .i64 R, .slice (some ⟨g, 0, none⟩) n n]) ∧ w'.ownsRow w.heap.size 35 3 (.slice (some ⟨g, 0, none⟩) n n) n (flatC xs) ∧ w.grownBy w' none
theorem own_set {w : World} {base g n : Nat} {xs : List Value} (h : w.ownsRow base 35 3 (.slice (some ⟨g, 0, none⟩) n n) n xs) (C j : Nat) (u : Value) (hne : C ≠ g) : (w.setCell ⟨C, j, none⟩ u).ownsRow base 35 3 (.slice (some ⟨g, 0, none⟩) n n) n xs :=
  h.kept (grownBy_setC w C j u) (.inr (by simp [Value.ownBlock]; omega))
theorem own_down {w : World} {base base' n : Nat} {v : Value} {xs : List Value} (h : w.ownsRow base 35 3 v n xs) (hb : base' ≤ base) : w.ownsRow base' 35 3 v n xs := by
  refine ⟨h.1, ?_⟩
  rcases h.2 with h0 | ⟨g, cap, cur, h1, h2, h3⟩
  · exact .inl h0
  · exact .inr ⟨g, cap, cur, h1, Nat.le_trans hb h2, h3⟩

set_option maxHeartbeats 2000000 in
theorem to_own (R : Int) (a : Option Addr) (n cap : Nat) (xs : List C3) (w : World) (hx : ReadsAt w a n xs) (hn : n ≤ 1048576) :
    Calls Try.prog 34 #[.agg #[.int .i64 R, .slice a n cap]] w (MadeOwn w R n xs) := by
  have HN := Lib.hid hn; clear hn
  have HA := Lib.hid hx; clear hx
  go_enter Try.func34, Try.ntmps34
  go_wp2_with (go_at_call 59; (with_reducible refine (toS_own a n cap xs _ (HA.out.on (g_alloc (g_alloc (g_alloc (grown_refl _) _) _) _)) HN.out).mono ?_); rintro e w' ⟨g, rfl, hr, hg, hge⟩; have hB1 := (hg.block (w.heap.size + 1) (by simp) (by simp)).trans (heap_mid _ _ _ _); have hB2 := (hg.block (w.heap.size + 1 + 1) (by simp) (by simp)).trans (heap_last _ _ _ _); have c10 : w'.cell? ⟨w.heap.size + 1, 0, none⟩ = some (.int .i64 0) := (by simp [World.cell?, hB1]); have c11 : w'.cell? ⟨w.heap.size + 1, 1, none⟩ = some (.slice none 0 0) := (by simp [World.cell?, hB1]); have f10 : w'.frozen? ⟨w.heap.size + 1, 0, none⟩ = false := (by simp [World.frozen?, hB1]); have f11 : w'.frozen? ⟨w.heap.size + 1, 1, none⟩ = false := (by simp [World.frozen?, hB1]); have c20 : w'.cell? ⟨w.heap.size + 1 + 1, 0, none⟩ = some (.int .i64 R) := (by simp [World.cell?, hB2]); have c21 : w'.cell? ⟨w.heap.size + 1 + 1, 1, none⟩ = some (.slice none 0 0) := (by simp [World.cell?, hB2]); have f21 : w'.frozen? ⟨w.heap.size + 1 + 1, 1, none⟩ = false := (by simp [World.frozen?, hB2]); have HB1 := Lib.hid hB1; have HG := Lib.hid hg; have HR := Lib.hid hr; have HGE := Lib.hid hge; clear hB1 hB2 hg hr hge)
  have hb : (((w'.setCell ⟨w.heap.size + 1 + 1, 1, none⟩ (.slice (some ⟨g, 0, none⟩) n n)).setCell ⟨w.heap.size + 1, 0, none⟩ (.int .i64 R)).setCell ⟨w.heap.size + 1, 1, none⟩ (.slice (some ⟨g, 0, none⟩) n n)).heap[w.heap.size + 1]? = some (.cells #[.int .i64 R, .slice (some ⟨g, 0, none⟩) n n] 26 (0, 0)) :=
    set2 ((heap_setCell_other _ ⟨w.heap.size + 1 + 1, 1, none⟩ _ _ (by simp)).trans HB1.out) _ _
  have hge := HGE.out
  simp at hge
  exact bodyPost_ret_by (results_cell_row (fn := Try.f34) rfl _ _ (w.heap.size + 1) _ _ (0, 0) _ rfl hb Try.underlying26 rfl (by kernel_rfl)) rfl
    ⟨g, rfl, own_set (own_set (own_set (own_down HR.out (by simp; omega)) _ _ _ (by omega)) _ _ _ (by omega)) _ _ _ (by omega), g_set (g_set (g_set (grown_trans (g_alloc (g_alloc (g_alloc (grown_refl _) _) _) _) HG.out) _ _ _ (by omega)) _ _ _ (by omega)) _ _ _ (by omega)⟩

/-- A law's own argument in its box. -/
def LBox (W : World) (B : Nat) (R : Int) (v : Value) : Prop := W.heap[B]? = some (.cells #[.int .i64 R, v] 45 (0, 0))
theorem LBox.c0 {W : World} {B : Nat} {R : Int} {v : Value} (h : LBox W B R v) : W.cell? ⟨B, 0, none⟩ = some (.int .i64 R) := by simp [World.cell?, show W.heap[B]? = _ from h]
theorem LBox.c1 {W : World} {B : Nat} {R : Int} {v : Value} (h : LBox W B R v) : W.cell? ⟨B, 1, none⟩ = some v := by simp [World.cell?, show W.heap[B]? = _ from h]
theorem LBox.kept {W W' : World} {B : Nat} {R : Int} {v : Value} {row : Option Nat} (h : LBox W B R v) (hg : W.grownBy W' row) (hne : some B ≠ row) : LBox W' B R v := (hg.block B (Array.getElem?_eq_some_iff.1 h).1 hne).trans h
theorem LBox.not_row {W : World} {B : Nat} {R : Int} {v : Value} (h : LBox W B R v) {base k : Nat} {u : Value} {xs : List Value} (hr : W.ownsRow base 35 3 u k xs) : some B ≠ u.ownBlock := by
  rcases hr.2 with ⟨rfl, _⟩ | ⟨g, cap, cur, rfl, _, hgb, _⟩
  · simp [Value.ownBlock]
  · intro e'
    obtain rfl : B = g := by simpa [Value.ownBlock] using e'
    have := (show W.heap[B]? = _ from h).symm.trans hgb
    simp at this

/-- What the law holds: its argument's box; the boxes of the model's answer, of the argument handed on, of the program's answer; their rows. -/
structure ESt (w W : World) (R : Int) (u vP vX vG : Value) (B4 B5 B6 nP nX nG : Nat) (ps xs gs : List Value) : Prop where
  m : LBox W w.heap.size R u
  b4 : MBox W B4 R vP
  b5 : MBox W B5 R vX
  b6 : MBox W B6 R vG
  rP : W.ownsRow w.heap.size 35 3 vP nP ps
  rX : W.ownsRow w.heap.size 35 3 vX nX xs
  rG : W.ownsRow w.heap.size 35 3 vG nG gs
  pX : vP.ownBlock = none ∨ vP.ownBlock ≠ vX.ownBlock
  gX : vG.ownBlock = none ∨ vG.ownBlock ≠ vX.ownBlock
  pG : vP.ownBlock = none ∨ vP.ownBlock ≠ vG.ownBlock
  xG : vX.ownBlock = none ∨ vX.ownBlock ≠ vG.ownBlock
  gr : w.grownBy W none
section
variable {w W W' : World} {R : Int} {u vP vX vG : Value} {B4 B5 B6 nP nX nG : Nat} {ps xs gs : List Value}
theorem own_grown {base n : Nat} {v : Value} {ys : List Value} (h : W.ownsRow base 35 3 v n ys) (hg : W.grownBy W' none) : W'.ownsRow base 35 3 v n ys := h.kept hg (by cases v.ownBlock <;> simp)
theorem ESt.on (h : ESt w W R u vP vX vG B4 B5 B6 nP nX nG ps xs gs) (hg : W.grownBy W' none) : ESt w W' R u vP vX vG B4 B5 B6 nP nX nG ps xs gs :=
  ⟨h.m.kept hg (by simp), h.b4.kept hg (by simp), h.b5.kept hg (by simp), h.b6.kept hg (by simp), own_grown h.rP hg, own_grown h.rX hg, own_grown h.rG hg, h.pX, h.gX, h.pG, h.xG, grown_trans h.gr hg⟩
theorem grown_own {a b c : World} {n : Nat} {v : Value} {ys : List Value} (h : a.grownBy b none) (k : b.grownBy c v.ownBlock) (ho : b.ownsRow a.heap.size 35 3 v n ys) : a.grownBy c none :=
  ⟨k.os.trans h.os, k.tape.trans h.tape, k.output.trans h.output, Nat.le_trans h.size k.size, fun i hi _ => (k.block i (Nat.lt_of_lt_of_le hi h.size) (fun e => by have := (ho.lt i e.symm).1; omega)).trans (h.block i hi (by simp))⟩
theorem ESt.markX (h : ESt w W R u vP vX vG B4 B5 B6 nP nX nG ps xs gs) {ys : List Value} (hg : W.grownBy W' vX.ownBlock) (ho : W'.ownsRow w.heap.size 35 3 vX nX ys) : ESt w W' R u vP vX vG B4 B5 B6 nP nX nG ps ys gs :=
  ⟨h.m.kept hg (h.m.not_row h.rX), h.b4.kept hg (h.b4.not_row h.rX), h.b5.kept hg (h.b5.not_row h.rX), h.b6.kept hg (h.b6.not_row h.rX), h.rP.kept hg h.pX, ho, h.rG.kept hg h.gX, h.pX, h.gX, h.pG, h.xG, grown_own h.gr hg h.rX⟩
theorem ESt.markG (h : ESt w W R u vP vX vG B4 B5 B6 nP nX nG ps xs gs) {ys : List Value} (hg : W.grownBy W' vG.ownBlock) (ho : W'.ownsRow w.heap.size 35 3 vG nG ys) : ESt w W' R u vP vX vG B4 B5 B6 nP nX nG ps xs ys :=
  ⟨h.m.kept hg (h.m.not_row h.rG), h.b4.kept hg (h.b4.not_row h.rG), h.b5.kept hg (h.b5.not_row h.rG), h.b6.kept hg (h.b6.not_row h.rG), h.rP.kept hg h.pG, h.rX.kept hg h.xG, ho, h.pX, h.gX, h.pG, h.xG, grown_own h.gr hg h.rG⟩
end
theorem apart_new {w w' : World} {B1 B2 n1 n2 : Nat} {v1 v2 : Value} {xs ys : List Value} (h1 : w.ownsRow B1 35 3 v1 n1 xs) (h2 : w'.ownsRow B2 35 3 v2 n2 ys) (hle : w.heap.size ≤ B2) :
    (v1.ownBlock = none ∨ v1.ownBlock ≠ v2.ownBlock) ∧ (v2.ownBlock = none ∨ v2.ownBlock ≠ v1.ownBlock) := by
  constructor
  · cases hb : v1.ownBlock with
    | none => exact .inl rfl
    | some k => exact .inr fun e => by have := (h1.lt k hb).2; have := (h2.lt k e.symm).1; omega
  · cases hb : v2.ownBlock with
    | none => exact .inl rfl
    | some k => exact .inr fun e => by have := (h2.lt k hb).1; have := (h1.lt k e.symm).2; omega
end Go.Proofs.Ytaccigmkddomaaa.Mesh
