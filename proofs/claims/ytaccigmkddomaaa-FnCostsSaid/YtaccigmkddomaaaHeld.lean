/- What a law holds between its calls: groups of blocks of its own, each with what it says of them. Plain lemmas.
   Conditions: none. -/
import Derived.Test.YtaccigmkddomaaaPkMesh
set_option maxRecDepth 100000
namespace Go.Proofs.Ytaccigmkddomaaa.Law
open Go.ChangeShapes Go.WideShapes Go.ChangeAt Go.RowKit Go.Proofs.Ytaccigmkddomaaa.Cell Go.Proofs.Ytaccigmkddomaaa.Mesh

/-- Only the blocks of B may turn, of those that were there. -/
structure Turned (W W' : World) (B : List Nat) : Prop where
  os : W'.os = W.os
  tape : W'.tape = W.tape
  output : W'.output = W.output
  size : W.heap.size ≤ W'.heap.size
  block : ∀ k, k < W.heap.size → k ∉ B → W'.heap[k]? = W.heap[k]?
theorem Turned.of {W W' : World} {row : Option Nat} (h : W.grownBy W' row) : Turned W W' row.toList :=
  ⟨h.os, h.tape, h.output, h.size, fun k hk hn => h.block k hk (fun e => hn (by rw [← e]; simp))⟩
theorem Turned.wide {W W' : World} {B C : List Nat} (h : Turned W W' B) (hs : ∀ b ∈ B, b ∈ C) : Turned W W' C :=
  ⟨h.os, h.tape, h.output, h.size, fun k hk hn => h.block k hk (fun e => hn (hs k e))⟩
theorem Turned.none {W W' : World} {B : List Nat} (h : W.grownBy W' none) : Turned W W' B := (Turned.of h).wide (by simp)
theorem Turned.trans {a b c : World} {B : List Nat} (h : Turned a b B) (k : Turned b c B) : Turned a c B :=
  ⟨k.os.trans h.os, k.tape.trans h.tape, k.output.trans h.output, Nat.le_trans h.size k.size, fun i hi hn => (k.block i (Nat.lt_of_lt_of_le hi h.size) hn).trans (h.block i hi hn)⟩
theorem Turned.grown {W W' : World} (h : Turned W W' []) : W.grownBy W' Option.none := ⟨h.os, h.tape, h.output, h.size, fun k hk _ => h.block k hk (by simp)⟩
/-- Blocks that a call made itself may turn. -/
theorem Turned.fresh {w W W' : World} {B : List Nat} (h : Turned W W' B) (hg : w.grownBy W Option.none) (hb : ∀ b ∈ B, w.heap.size ≤ b) : w.grownBy W' Option.none :=
  ⟨h.os.trans hg.os, h.tape.trans hg.tape, h.output.trans hg.output, Nat.le_trans hg.size h.size, fun i hi _ => (h.block i (Nat.lt_of_lt_of_le hi hg.size) (fun e => by have := hb i e; omega)).trans (hg.block i hi (by simp))⟩

/-- Something said of some blocks. -/
structure Grp where
  P : World → Prop
  B : List Nat
  loc : ∀ W W' : World, (∀ b ∈ B, W'.heap[b]? = W.heap[b]?) → P W → P W'

structure Held (w W : World) (gs : List Grp) : Prop where
  p : ∀ g ∈ gs, g.P W
  lo : ∀ g ∈ gs, ∀ b ∈ g.B, w.heap.size ≤ b ∧ b < W.heap.size
  dis : gs.Pairwise fun g h => ∀ b ∈ g.B, b ∉ h.B
  gr : w.grownBy W none
/-- The groups that are held. -/
abbrev gsOf {w W : World} {gs : List Grp} (_ : Held w W gs) : List Grp := gs
section
variable {w W W' : World} {gs : List Grp} {g g' : Grp}
theorem Held.nil (w : World) : Held w w [] := ⟨by simp, by simp, .nil, grown_refl _⟩
theorem Held.nth (h : Held w W gs) (k : Nat) (hk : gs[k]? = some g) : g.P W := h.p g (List.mem_of_getElem? hk)
theorem Held.on (h : Held w W gs) (hg : W.grownBy W' none) : Held w W' gs :=
  ⟨fun g hm => g.loc W W' (fun b hb => hg.block b (h.lo g hm b hb).2 (by simp)) (h.p g hm), fun g hm b hb => ⟨(h.lo g hm b hb).1, Nat.lt_of_lt_of_le (h.lo g hm b hb).2 hg.size⟩, h.dis, grown_trans h.gr hg⟩
theorem Held.add (h : Held w W gs) (hg : W.grownBy W' none) (hp : g.P W') (hlo : ∀ b ∈ g.B, W.heap.size ≤ b ∧ b < W'.heap.size) : Held w W' (gs ++ [g]) := by
  have h' := h.on hg
  refine ⟨?_, ?_, ?_, h'.gr⟩
  · intro x hx
    rcases List.mem_append.1 hx with hx | hx
    · exact h'.p x hx
    · rw [List.mem_singleton.1 hx]; exact hp
  · intro x hx b hb
    rcases List.mem_append.1 hx with hx | hx
    · exact h'.lo x hx b hb
    · rw [List.mem_singleton.1 hx] at hb; exact ⟨Nat.le_trans h.gr.size (hlo b hb).1, (hlo b hb).2⟩
  · refine List.pairwise_append.2 ⟨h.dis, List.pairwise_singleton _ _, ?_⟩
    intro x hx y hy b hb hby
    rw [List.mem_singleton.1 hy] at hby
    have := (h.lo x hx b hb).2
    have := (hlo b hby).1
    omega
/-- Group k turns, nothing else does. -/
theorem Held.turn (h : Held w W gs) (k : Nat) (hk : gs[k]? = some g) (ht : Turned W W' g.B) (hB : g'.B = g.B) (hp : g'.P W') : Held w W' (gs.set k g') := by
  have hlt := (List.getElem?_eq_some_iff.1 hk).1
  have hgk := (List.getElem?_eq_some_iff.1 hk).2
  have hmk : g ∈ gs := List.mem_of_getElem? hk
  have hat : ∀ j x, (gs.set k g')[j]? = some x → (j = k ∧ x = g') ∨ (j ≠ k ∧ gs[j]? = some x) := fun j x hj => by
    by_cases e : j = k
    · subst e; rw [List.getElem?_set_self hlt] at hj; exact .inl ⟨rfl, by simpa using hj.symm⟩
    · rw [List.getElem?_set_ne (Ne.symm e)] at hj; exact .inr ⟨e, hj⟩
  have hap : ∀ j x, gs[j]? = some x → j ≠ k → ∀ b ∈ x.B, b ∉ g.B := fun j x hj hne b hb hbg => by
    have hjl := (List.getElem?_eq_some_iff.1 hj).1
    have hjx := (List.getElem?_eq_some_iff.1 hj).2
    rcases Nat.lt_or_gt_of_ne hne with hl | hl
    · exact List.pairwise_iff_getElem.1 h.dis j k hjl hlt hl b (by rw [hjx]; exact hb) (by rw [hgk]; exact hbg)
    · exact List.pairwise_iff_getElem.1 h.dis k j hlt hjl hl b (by rw [hgk]; exact hbg) (by rw [hjx]; exact hb)
  refine ⟨?_, ?_, ?_, ht.fresh h.gr (fun b hb => (h.lo g hmk b hb).1)⟩
  · intro x hx
    obtain ⟨j, hj⟩ := List.getElem?_of_mem hx
    rcases hat j x hj with ⟨_, rfl⟩ | ⟨hne, hj⟩
    · exact hp
    · have hm := List.mem_of_getElem? hj
      exact x.loc W W' (fun b hb => ht.block b (h.lo x hm b hb).2 (hap j x hj hne b hb)) (h.p x hm)
  · intro x hx b hb
    obtain ⟨j, hj⟩ := List.getElem?_of_mem hx
    rcases hat j x hj with ⟨_, rfl⟩ | ⟨_, hj⟩
    · rw [hB] at hb; exact ⟨(h.lo g hmk b hb).1, Nat.lt_of_lt_of_le (h.lo g hmk b hb).2 ht.size⟩
    · have hm := List.mem_of_getElem? hj
      exact ⟨(h.lo x hm b hb).1, Nat.lt_of_lt_of_le (h.lo x hm b hb).2 ht.size⟩
  · refine List.pairwise_iff_getElem.2 fun i j hi hj hij b hb hbj => ?_
    have ei := hat i _ (List.getElem?_eq_getElem hi)
    have ej := hat j _ (List.getElem?_eq_getElem hj)
    rcases ei with ⟨e1, e2⟩ | ⟨e1, e2⟩ <;> rcases ej with ⟨f1, f2⟩ | ⟨f1, f2⟩
    · omega
    · rw [e2, hB] at hb; exact hap j _ f2 f1 b hbj hb
    · rw [f2, hB] at hbj; exact hap i _ e2 e1 b hb hbj
    · have hi' := (List.getElem?_eq_some_iff.1 e2).1
      have hj' := (List.getElem?_eq_some_iff.1 f2).1
      refine List.pairwise_iff_getElem.1 h.dis i j hi' hj' hij b ?_ ?_
      · rw [(List.getElem?_eq_some_iff.1 e2).2]; exact hb
      · rw [(List.getElem?_eq_some_iff.1 f2).2]; exact hbj
end

/-- No group. -/
def emptyG : Grp := ⟨fun _ => True, [], fun _ _ _ _ => trivial⟩
/-- Group k turns into another, that lies in the elder's blocks or in new ones; nothing else turns. -/
theorem Held.renew {w W W' : World} {gs : List Grp} {g g' : Grp} (h : Held w W gs) (k : Nat) (hk : gs[k]? = some g) (ht : Turned W W' g.B) (hp : g'.P W') (hB : ∀ b ∈ g'.B, (b ∈ g.B ∨ W.heap.size ≤ b) ∧ b < W'.heap.size) : Held w W' (gs.set k g') := by
  have hlt := (List.getElem?_eq_some_iff.1 hk).1
  have hgk := (List.getElem?_eq_some_iff.1 hk).2
  have hmk : g ∈ gs := List.mem_of_getElem? hk
  have hat : ∀ j x, (gs.set k g')[j]? = some x → (j = k ∧ x = g') ∨ (j ≠ k ∧ gs[j]? = some x) := fun j x hj => by
    by_cases e : j = k
    · subst e; rw [List.getElem?_set_self hlt] at hj; exact .inl ⟨rfl, by simpa using hj.symm⟩
    · rw [List.getElem?_set_ne (Ne.symm e)] at hj; exact .inr ⟨e, hj⟩
  have hap : ∀ j x, gs[j]? = some x → j ≠ k → ∀ b ∈ x.B, b ∉ g.B := fun j x hj hne b hb hbg => by
    have hjl := (List.getElem?_eq_some_iff.1 hj).1
    have hjx := (List.getElem?_eq_some_iff.1 hj).2
    rcases Nat.lt_or_gt_of_ne hne with hl | hl
    · exact List.pairwise_iff_getElem.1 h.dis j k hjl hlt hl b (by rw [hjx]; exact hb) (by rw [hgk]; exact hbg)
    · exact List.pairwise_iff_getElem.1 h.dis k j hlt hjl hl b (by rw [hgk]; exact hbg) (by rw [hjx]; exact hb)
  have hap' : ∀ j x, gs[j]? = some x → j ≠ k → ∀ b ∈ x.B, b ∉ g'.B := fun j x hj hne b hb hbg => by
    rcases (hB b hbg).1 with h1 | h1
    · exact hap j x hj hne b hb h1
    · have := (h.lo x (List.mem_of_getElem? hj) b hb).2; omega
  refine ⟨?_, ?_, ?_, ht.fresh h.gr (fun b hb => (h.lo g hmk b hb).1)⟩
  · intro x hx
    obtain ⟨j, hj⟩ := List.getElem?_of_mem hx
    rcases hat j x hj with ⟨_, rfl⟩ | ⟨hne, hj⟩
    · exact hp
    · have hm := List.mem_of_getElem? hj
      exact x.loc W W' (fun b hb => ht.block b (h.lo x hm b hb).2 (hap j x hj hne b hb)) (h.p x hm)
  · intro x hx b hb
    obtain ⟨j, hj⟩ := List.getElem?_of_mem hx
    rcases hat j x hj with ⟨_, rfl⟩ | ⟨_, hj⟩
    · refine ⟨?_, (hB b hb).2⟩
      rcases (hB b hb).1 with h1 | h1
      · exact (h.lo g hmk b h1).1
      · exact Nat.le_trans h.gr.size h1
    · have hm := List.mem_of_getElem? hj
      exact ⟨(h.lo x hm b hb).1, Nat.lt_of_lt_of_le (h.lo x hm b hb).2 ht.size⟩
  · refine List.pairwise_iff_getElem.2 fun i j hi hj hij b hb hbj => ?_
    have ei := hat i _ (List.getElem?_eq_getElem hi)
    have ej := hat j _ (List.getElem?_eq_getElem hj)
    rcases ei with ⟨e1, e2⟩ | ⟨e1, e2⟩ <;> rcases ej with ⟨f1, f2⟩ | ⟨f1, f2⟩
    · omega
    · rw [e2] at hb; exact hap' j _ f2 f1 b hbj hb
    · rw [f2] at hbj; exact hap' i _ e2 e1 b hb hbj
    · have hi' := (List.getElem?_eq_some_iff.1 e2).1
      have hj' := (List.getElem?_eq_some_iff.1 f2).1
      refine List.pairwise_iff_getElem.1 h.dis i j hi' hj' hij b ?_ ?_
      · rw [(List.getElem?_eq_some_iff.1 e2).2]; exact hb
      · rw [(List.getElem?_eq_some_iff.1 f2).2]; exact hbj
/-- A group comes where none was. -/
theorem Held.fill {w W W' : World} {gs : List Grp} {g' : Grp} (h : Held w W gs) (k : Nat) (hk : gs[k]? = some emptyG) (hg : W.grownBy W' none) (hp : g'.P W') (hB : ∀ b ∈ g'.B, W.heap.size ≤ b ∧ b < W'.heap.size) : Held w W' (gs.set k g') :=
  h.renew k hk (Turned.none hg) hp (fun b hb => ⟨.inr (hB b hb).1, (hB b hb).2⟩)

theorem Held.addE {w W : World} {gs : List Grp} (h : Held w W gs) : Held w W (gs ++ [emptyG]) := h.add (grown_refl _) trivial (fun b hb => by cases hb)

/-- A box: a block of cells, known whole. -/
def boxG (b : Nat) (t : TypeId) (vs : Array Value) : Grp := ⟨fun W => W.heap[b]? = some (.cells vs t (0, 0)), [b], fun W W' h hp => (h b (by simp)).trans hp⟩
theorem boxG.cell {b : Nat} {t : TypeId} {vs : Array Value} {W : World} (h : (boxG b t vs).P W) (j : Nat) : W.cell? ⟨b, j, none⟩ = vs[j]? := cell_of_row W b j vs t (0, 0) h
theorem boxG.free {b : Nat} {t : TypeId} {vs : Array Value} {W : World} (h : (boxG b t vs).P W) (j : Nat) : W.frozen? ⟨b, j, none⟩ = false := frozen_of_row W b j vs t h
theorem Held.box {w W : World} {gs : List Grp} (h : Held w W gs) (t : TypeId) (vs : Array Value) : Held w (W.alloc (.cells vs t)) (gs ++ [boxG W.heap.size t vs]) :=
  h.add (World.grownBy_alloc W _ none) (World.alloc_heap_new W _) (fun b hb => by rw [List.mem_singleton.1 hb]; simp)
/-- A row of the call's own. -/
def rowG (t : TypeId) (s : Nat) (v : Value) (n : Nat) (xs : List Value) : Grp := ⟨fun W => W.ownsRow 0 t s v n xs, v.ownBlock.toList, fun W W' h hp => by
  refine ⟨hp.1, ?_⟩
  rcases hp.2 with h0 | ⟨g, cap, cur, rfl, hb, hg, rest⟩
  · exact .inl h0
  · exact .inr ⟨g, cap, cur, rfl, hb, (h g (by simp [Value.ownBlock])).trans hg, rest⟩⟩
theorem own_zero {w : World} {base n s : Nat} {t : TypeId} {v : Value} {xs : List Value} (h : w.ownsRow base t s v n xs) : w.ownsRow 0 t s v n xs := by
  refine ⟨h.1, ?_⟩
  rcases h.2 with h0 | ⟨g, cap, cur, h1, h2, h3⟩
  · exact .inl h0
  · exact .inr ⟨g, cap, cur, h1, Nat.zero_le _, h3⟩
theorem Held.row {w W W' : World} {gs : List Grp} (h : Held w W gs) (hg : W.grownBy W' none) {t : TypeId} {s n : Nat} {v : Value} {xs : List Value} (ho : W'.ownsRow W.heap.size t s v n xs) : Held w W' (gs ++ [rowG t s v n xs]) :=
  h.add hg (own_zero ho) (fun b hb => ho.lt b (by simpa [rowG] using hb))
/-- Two rows in two blocks. -/
def Apart (u v : Value) : Prop := ∀ k, u.ownBlock = some k → v.ownBlock ≠ some k
theorem Apart.symm {u v : Value} (h : Apart u v) : Apart v u := fun k hv hu => h k hu hv
theorem own_from {w : World} {base base' n s : Nat} {t : TypeId} {v : Value} {xs : List Value} (h : w.ownsRow base t s v n xs) (hb : base' ≤ base) : w.ownsRow base' t s v n xs := by
  refine ⟨h.1, ?_⟩
  rcases h.2 with h0 | ⟨g, cap, cur, h1, h2, h3⟩
  · exact .inl h0
  · exact .inr ⟨g, cap, cur, h1, Nat.le_trans hb h2, h3⟩
theorem rowG_own {W : World} {b n s : Nat} {t : TypeId} {v : Value} {xs : List Value} (h : (rowG t s v n xs).P W) (hb : ∀ k ∈ (rowG t s v n xs).B, b ≤ k) : W.ownsRow b t s v n xs := by
  have h' : W.ownsRow 0 t s v n xs := h
  refine ⟨h'.1, ?_⟩
  rcases h'.2 with h0 | ⟨g, cap, cur, rfl, h2, h3⟩
  · exact .inl h0
  · exact .inr ⟨g, cap, cur, rfl, hb g (by simp [rowG, Value.ownBlock]), h3⟩
section
variable {w W : World} {gs : List Grp} {t t' : TypeId} {s s' n n' : Nat} {v v' : Value} {xs xs' : List Value}
theorem Held.own (h : Held w W gs) (k : Nat) (hk : gs[k]? = some (rowG t s v n xs)) : W.ownsRow w.heap.size t s v n xs :=
  rowG_own (h.nth k hk) (fun b hb => (h.lo _ (List.mem_of_getElem? hk) b hb).1)
theorem Held.apart (h : Held w W gs) (i j : Nat) (hij : i < j) (hi : gs[i]? = some (rowG t s v n xs)) (hj : gs[j]? = some (rowG t' s' v' n' xs')) : Apart v v' := fun k hu hv => by
  have hi' := List.getElem?_eq_some_iff.1 hi
  have hj' := List.getElem?_eq_some_iff.1 hj
  exact List.pairwise_iff_getElem.1 h.dis i j hi'.1 hj'.1 hij k (by rw [hi'.2]; simp [rowG, hu]) (by rw [hj'.2]; simp [rowG, hv])
/-- A box's own cells turn. -/
theorem Held.put (h : Held w W gs) (k : Nat) {b : Nat} {vs : Array Value} (hk : gs[k]? = some (boxG b t vs)) (j : Nat) (x : Value) : Held w (W.setCell ⟨b, j, none⟩ x) (gs.set k (boxG b t (vs.setIfInBounds j x))) :=
  h.turn k hk ((Turned.of (grownBy_setC W b j x)).wide (by simp [boxG])) rfl (heap_setCell_same W b j vs t x (h.nth k hk))
end
/-- A row of the call's own, appended to. -/
theorem Held.appended {w W W' : World} {gs : List Grp} {t : TypeId} {s n n' : Nat} {v v' : Value} {xs ys : List Value} (h : Held w W gs) (k : Nat) (hk : gs[k]? = some (rowG t s v n xs)) (hown : W'.ownsRow 0 t s v' n' ys) (hg : W.grownBy W' v.ownBlock) (hb : v'.ownBlock = v.ownBlock ∨ v'.ownBlock = some W.heap.size) :
    Held w W' (gs.set k (rowG t s v' n' ys)) :=
  h.renew k hk (Turned.of hg) hown (fun b hb' => by
    have hb2 : v'.ownBlock = some b := by simpa [rowG] using hb'
    refine ⟨?_, (hown.lt b hb2).2⟩
    rcases hb with e | e
    · exact .inl (by simp [rowG, ← e, hb2])
    · right; rw [e] at hb2; simp at hb2; omega)
theorem nil_own (w : World) (base : Nat) (t : TypeId) (s : Nat) : w.ownsRow base t s (.slice none 0 0) 0 [] := ⟨by simp, .inl ⟨rfl, rfl⟩⟩
/-- No row yet. -/
theorem Held.nilRow {w W : World} {gs : List Grp} (h : Held w W gs) (t : TypeId) (s : Nat) : Held w W (gs ++ [rowG t s (.slice none 0 0) 0 []]) := h.add (grown_refl _) (nil_own _ _ _ _) (fun b hb => by simp [rowG, Value.ownBlock] at hb)
theorem box5 {b : Nat} {t : TypeId} {x0 x1 x2 x3 x4 : Value} {W : World} (h : (boxG b t #[x0, x1, x2, x3, x4]).P W) : W.cell? ⟨b, 0, none⟩ = some x0 ∧ W.cell? ⟨b, 1, none⟩ = some x1 ∧ W.cell? ⟨b, 2, none⟩ = some x2 ∧ W.cell? ⟨b, 3, none⟩ = some x3 ∧ W.cell? ⟨b, 4, none⟩ = some x4 :=
  ⟨boxG.cell h 0, boxG.cell h 1, boxG.cell h 2, boxG.cell h 3, boxG.cell h 4⟩
theorem free5 {b : Nat} {t : TypeId} {vs : Array Value} {W : World} (h : (boxG b t vs).P W) : W.frozen? ⟨b, 0, none⟩ = false ∧ W.frozen? ⟨b, 1, none⟩ = false ∧ W.frozen? ⟨b, 2, none⟩ = false ∧ W.frozen? ⟨b, 3, none⟩ = false ∧ W.frozen? ⟨b, 4, none⟩ = false :=
  ⟨boxG.free h 0, boxG.free h 1, boxG.free h 2, boxG.free h 3, boxG.free h 4⟩
theorem box2 {b : Nat} {t : TypeId} {x0 x1 : Value} {W : World} (h : (boxG b t #[x0, x1]).P W) : W.cell? ⟨b, 0, none⟩ = some x0 ∧ W.cell? ⟨b, 1, none⟩ = some x1 := ⟨boxG.cell h 0, boxG.cell h 1⟩
section
variable {w W : World} {gs : List Grp} {b : Nat} {t : TypeId} {x0 x1 x2 x3 x4 : Value}
theorem Held.put5a (h : Held w W gs) (k : Nat) (hk : gs[k]? = some (boxG b t #[x0, x1, x2, x3, x4])) (x : Value) : Held w (W.setCell ⟨b, 0, none⟩ x) (gs.set k (boxG b t #[x, x1, x2, x3, x4])) := h.put k hk 0 x
theorem Held.put5b (h : Held w W gs) (k : Nat) (hk : gs[k]? = some (boxG b t #[x0, x1, x2, x3, x4])) (x : Value) : Held w (W.setCell ⟨b, 1, none⟩ x) (gs.set k (boxG b t #[x0, x, x2, x3, x4])) := h.put k hk 1 x
theorem Held.put5c (h : Held w W gs) (k : Nat) (hk : gs[k]? = some (boxG b t #[x0, x1, x2, x3, x4])) (x : Value) : Held w (W.setCell ⟨b, 2, none⟩ x) (gs.set k (boxG b t #[x0, x1, x, x3, x4])) := h.put k hk 2 x
theorem Held.put5d (h : Held w W gs) (k : Nat) (hk : gs[k]? = some (boxG b t #[x0, x1, x2, x3, x4])) (x : Value) : Held w (W.setCell ⟨b, 3, none⟩ x) (gs.set k (boxG b t #[x0, x1, x2, x, x4])) := h.put k hk 3 x
theorem Held.put5e (h : Held w W gs) (k : Nat) (hk : gs[k]? = some (boxG b t #[x0, x1, x2, x3, x4])) (x : Value) : Held w (W.setCell ⟨b, 4, none⟩ x) (gs.set k (boxG b t #[x0, x1, x2, x3, x])) := h.put k hk 4 x
/-- A struct of five cells stored whole. -/
theorem Held.put5 (h : Held w W gs) (k : Nat) (hk : gs[k]? = some (boxG b t #[x0, x1, x2, x3, x4])) (y0 y1 y2 y3 y4 : Value) :
    Held w (((((W.setCell ⟨b, 0, none⟩ y0).setCell ⟨b, 1, none⟩ y1).setCell ⟨b, 2, none⟩ y2).setCell ⟨b, 3, none⟩ y3).setCell ⟨b, 4, none⟩ y4) (gs.set k (boxG b t #[y0, y1, y2, y3, y4])) := by
  have hlt := (List.getElem?_eq_some_iff.1 hk).1
  have g1 := h.put5a k hk y0
  have g2 := g1.put5b k (by rw [List.getElem?_set_self hlt]) y1
  have g3 := g2.put5c k (by rw [List.getElem?_set_self (by simpa using hlt)]) y2
  have g4 := g3.put5d k (by rw [List.getElem?_set_self (by simpa using hlt)]) y3
  have g5 := g4.put5e k (by rw [List.getElem?_set_self (by simpa using hlt)]) y4
  simpa [List.set_set] using g5
end
end Go.Proofs.Ytaccigmkddomaaa.Law
