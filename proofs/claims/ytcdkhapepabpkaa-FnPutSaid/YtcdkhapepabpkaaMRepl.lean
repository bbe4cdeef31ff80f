/- Meshes: slices.Replace of one cell by two, at a row of cells that the call owns, as a contract: the three roads of its text.
   Conditions: none. -/
import Derived.Test.YtcdkhapepabpkaaCopyWide
import Derived.Lib.Overlaps
set_option maxRecDepth 100000
namespace Go.Proofs.Ytcdkhapepabpkaa.Mesh
open Go.ChangeShapes Go.WideShapes Go.ChangeAt Go.RowKit Go.Proofs.Ytcdkhapepabpkaa.Cell

theorem infoIdR : (Try.prog.info? 36).map (fun i => (i.zero, i.size, i.bytes)) = some (some (.agg #[.int .i64 0, .int .i64 0, .int .i64 0]), 3, 24) := by kernel_rfl

section
variable {w : World} {ops : Array Oper} {rest : List Oper} {o : Oper} {a : Act} {Q : Exit → Act → World → Prop}

theorem wpList_append_zeros (hgd : o.guard = none) (s x : Operand) (ho : o.op = .call { callee := .builtin .append, args := #[s, x], argTypes := #[24, 3] })
    (g i cap k : Nat) (cur : List Value) (kz : Int) (hs : a.eval s = .slice (some ⟨g, 0, none⟩) i cap) (hx : a.eval x = .int .i64 kz) (hkz : kz = k) (hg : w.heap[g]? = some (.cells cur.toArray 36 (0, 0)))
    (hlen : i * 3 ≤ cur.length) (hk : 0 < k) (hroom : cap < i + k) (hbig : i + k ≤ 1048576)
    (h : ∀ (G : Nat) (row : List Value) (w' : World), i + k ≤ G → G ≤ maxLen → Hid (w'.heap[w.heap.size]? = some (.cells row.toArray 36 (0, 0))) → row.length = G * 3 → Hid (row.take (i * 3) = cur.take (i * 3)) → w.grownBy w' none →
      wpList Try.prog ops Q rest (a.put o.dst (.slice (some ⟨w.heap.size, 0, none⟩) (i + k) G)) w') : wpList Try.prog ops Q (o :: rest) a w := by
  obtain ⟨i0, hi0, hz0, hz1, hz2⟩ := info_parts infoIdR
  subst hkz
  have hold : (Builtin.firstCells i0.size i (.slice (some ⟨g, 0, none⟩) i cap)).run Try.prog w.drew = .ok (cur.take (i * 3)).toArray w.drew := by
    rw [hz1]
    refine run_firstCells_some w.drew 3 i ⟨g, 0, none⟩ i cap (cur.take (i * 3)) (by rw [List.length_take]; omega) (fun j v hj => ?_)
    rw [Addr.add_lit, Nat.zero_add, cell_of_row w.drew g j cur.toArray _ (0, 0) hg]
    rw [List.getElem?_take] at hj
    split at hj
    · simpa using hj
    · cases hj
  have hr := Lib.run_append_grow_zeros w 24 3 o.type 36 i0 _ .i64 .i64 Try.underlying24 Try.underlying3 hi0 hz0 (some ⟨g, 0, none⟩) i cap _ hold k hk (by omega) hroom (by omega) (by rw [hz2]; omega) (by rw [hz2]; exact growslice_fits hroom (by omega))
  have hG := grownCap_ge w (i + k) cap 36
  have hG2 := grownCap_le_maxLen w (i + k) cap 36 (by unfold maxLen; omega)
  refine Lib.wpList_append_run w hgd s x _ _ ho _ _ hs hx _ _ hr (h _ ((cur.take (i * 3)).toArray ++ Builtin.zeroCells (Value.agg #[.int .i64 0, .int .i64 0, .int .i64 0]).cells k ++ Builtin.zeroCells (Value.agg #[.int .i64 0, .int .i64 0, .int .i64 0]).cells (grownCap w (i + k) cap 36 - (i + k))).toList _ hG hG2 (Lib.hid (World.alloc_heap_new _ _)) ?_ (Lib.hid ?_) ?_)
  · simp [Builtin.zeroCells, Value.cells]
    omega
  · rw [Array.toList_append, Array.toList_append, List.append_assoc, List.toList_toArray, List.take_append_of_le_length (by simp; omega), List.take_take, Nat.min_self]
  · exact ⟨rfl, rfl, rfl, by simp [World.alloc], fun b hb _ => heap_alloc_old w.drew _ b hb⟩

/-- The copy, as a law at a plain region's list. -/
theorem wpList_copy_into (hgd : o.guard = none) (d s : Operand) (ho : o.op = .call { callee := .builtin .copy, args := #[d, s], argTypes := #[24, 24] })
    (g off dLen dCap : Nat) (ad : Addr) (sLen sCap : Nat) (hd : a.eval d = .slice (some ⟨g, off, none⟩) dLen dCap) (hs : a.eval s = .slice (some ad) sLen sCap)
    (cur : List Value) (hg : w.heap[g]? = some (.cells cur.toArray 36 (0, 0))) (cs : List Value) (hn : cs.length = Nat.min sLen dLen * 3)
    (hsrc : ∀ j v, cs[j]? = some v → w.cell? (ad.add j) = some v) (hfit : off + cs.length ≤ cur.length) (h1 : ∀ v ∈ cs, v.oneCell' = true)
    (h : ∀ (z : Value) (w' : World), Hid (w'.heap[g]? = some (.cells (splice cur off cs).toArray 36 (0, 0))) → w.grownBy w' (some g) → wpList Try.prog ops Q rest (a.put o.dst z) w') : wpList Try.prog ops Q (o :: rest) a w := by
  obtain ⟨i0, hi0, hz0, hz1, hz2⟩ := info_parts infoIdR
  exact wpList_copy_wide hgd d s _ _ ho _ _ hd hs (copy_wide w _ _ o.type _ g off dLen dCap ad sLen sCap cur _ cs i0 Try.underlying24 hi0 hg (by rw [hz1]; exact hn) hsrc hfit h1)
    (h _ _ (Lib.hid (setRow_heap w g _ _ _ _ hg)) ⟨rfl, rfl, rfl, by simp [World.setRow], fun b hb hne => setRow_other w g b _ (fun e => hne (by rw [e]))⟩)

/-- .. and at a step of a region that draws its order. -/
theorem step_copy_into {K : Act → World → Prop} {E : Prop} (hgd : o.guard = none) (d s : Operand) (ho : o.op = .call { callee := .builtin .copy, args := #[d, s], argTypes := #[24, 24] })
    (g off dLen dCap : Nat) (ad : Addr) (sLen sCap : Nat) (hd : a.eval d = .slice (some ⟨g, off, none⟩) dLen dCap) (hs : a.eval s = .slice (some ad) sLen sCap)
    (cur : List Value) (hg : w.heap[g]? = some (.cells cur.toArray 36 (0, 0))) (cs : List Value) (hn : cs.length = Nat.min sLen dLen * 3)
    (hsrc : ∀ j v, cs[j]? = some v → w.cell? (ad.add j) = some v) (hfit : off + cs.length ≤ cur.length) (h1 : ∀ v ∈ cs, v.oneCell' = true)
    (h : ∀ (z : Value) (w' : World), Hid (w'.heap[g]? = some (.cells (splice cur off cs).toArray 36 (0, 0))) → w.grownBy w' (some g) → K (a.put o.dst z) w') :
    if Region.wanted o (yielded ops a.tmps) = true then Oper.wp Try.prog o a w K Q else E := by
  obtain ⟨i0, hi0, hz0, hz1, hz2⟩ := info_parts infoIdR
  exact step_copy_wide hgd d s _ _ ho _ _ hd hs (copy_wide w _ _ o.type _ g off dLen dCap ad sLen sCap cur _ cs i0 Try.underlying24 hi0 hg (by rw [hz1]; exact hn) hsrc hfit h1)
    (h _ _ (Lib.hid (setRow_heap w g _ _ _ _ hg)) ⟨rfl, rfl, rfl, by simp [World.setRow], fun b hb hne => setRow_other w g b _ (fun e => hne (by rw [e]))⟩)
end
end Go.Proofs.Ytcdkhapepabpkaa.Mesh
