/- Draws, as groups: the cursor as one of the groups that are held; a function that is handed a cursor, as if the world began with the cursor's block. Plain lemmas.
   Conditions: none. -/
import Derived.Test.YtaccigmkddomaaaPkDraw
import Derived.Test.YtaccigmkddomaaaHeld
set_option maxRecDepth 100000
namespace Go.Proofs.Ytaccigmkddomaaa.Law
open Go.ChangeShapes Go.WideShapes Go.ChangeAt Go.RowKit Go.Proofs.Ytaccigmkddomaaa.Cell Go.Proofs.Ytaccigmkddomaaa.Mesh

/-- The cursor's block. -/
def curG (C : Nat) (a : Option Addr) (len cap : Nat) : Grp :=
  ⟨fun W => ∃ i h : Int, 0 ≤ i ∧ i ≤ len ∧ -9223372036854775808 ≤ h ∧ h ≤ 9223372036854775807 ∧ W.heap[C]? = some (.cells #[.slice a len cap, .int .i64 i, .int .i64 h] 79 (0, 0)), [C],
    fun W W' hb hp => let ⟨i, h, h0, h1, h2, h3, h4⟩ := hp; ⟨i, h, h0, h1, h2, h3, (hb C (by simp)).trans h4⟩⟩
/-- What lay behind the cursor's block. -/
def oldG (w : World) (C : Nat) : Grp :=
  ⟨fun W => ∀ b, C < b → b < w.heap.size → W.heap[b]? = w.heap[b]?, List.range' (C + 1) (w.heap.size - (C + 1)),
    fun W W' hb hp b h1 h2 => (hb b (by rw [List.mem_range'_1]; omega)).trans (hp b h1 h2)⟩
/-- The world up to block C. -/
def cutW (w : World) (C : Nat) : World := { w with heap := w.heap.extract 0 C }
theorem cutW_size {w : World} {C : Nat} (h : C ≤ w.heap.size) : (cutW w C).heap.size = C := by simp [cutW]; omega
theorem cutW_at {w : World} {C k : Nat} (h : C ≤ w.heap.size) (hk : k < C) : (cutW w C).heap[k]? = w.heap[k]? := by
  simp only [cutW, Array.getElem?_extract]
  rw [if_pos (by omega), Nat.zero_add]
theorem cutW_grown {w : World} {C : Nat} (h : C ≤ w.heap.size) : (cutW w C).grownBy w none :=
  ⟨rfl, rfl, rfl, by rw [cutW_size h]; exact h, fun k hk _ => by rw [cutW_size h] at hk; exact (cutW_at h hk).symm⟩
theorem held_start {B : Nat} {w : World} {C : Nat} {a : Option Addr} {len cap : Nat} (hC : Draw.Cur B w C a len cap) : Held (cutW w C) w [oldG w C, curG C a len cap] := by
  have hl := hC.lt
  refine ⟨?_, ?_, ?_, cutW_grown (by omega)⟩
  · intro g hg
    rcases List.mem_cons.1 hg with rfl | hg
    · exact fun b _ _ => rfl
    · rw [List.mem_singleton.1 hg]; exact hC.blk
  · intro g hg b hb
    rw [cutW_size (by omega)]
    rcases List.mem_cons.1 hg with rfl | hg
    · have := List.mem_range'_1.1 hb; omega
    · rw [List.mem_singleton.1 hg] at hb
      rw [List.mem_singleton.1 hb]; omega
  · refine List.pairwise_cons.2 ⟨fun g hg b hb hb' => ?_, List.pairwise_singleton _ _⟩
    rw [List.mem_singleton.1 hg] at hb'
    have := List.mem_range'_1.1 hb
    rw [List.mem_singleton.1 hb'] at this
    omega
section
variable {B : Nat} {w w0 W W' : World} {gs : List Grp} {C : Nat} {a : Option Addr} {len cap : Nat}
theorem Held.cur (h : Held w0 W gs) (k : Nat) (hk : gs[k]? = some (curG C a len cap)) (hB : B ≤ w0.heap.size) (hl : len ≤ 1048576) (hy : Draw.Bytes B w0 a len) : Draw.Cur B W C a len cap :=
  ⟨by have := (h.lo _ (List.mem_of_getElem? hk) C (by simp [curG])).1; omega, hl, h.nth k hk, hy.kept fun b hb => h.gr.block b (by omega) (by simp)⟩
theorem cut_bytes (hC : Draw.Cur B w C a len cap) : Draw.Bytes B (cutW w C) a len :=
  hC.bytes.kept fun b hb => cutW_at (Nat.le_of_lt hC.lt) (by have := hC.lo; omega)
theorem set_same {α : Type} {xs : List α} {k : Nat} {x : α} (h : xs[k]? = some x) : xs.set k x = xs := by
  refine List.ext_getElem? fun j => ?_
  by_cases e : j = k
  · subst e; rw [List.getElem?_set_self (List.getElem?_eq_some_iff.1 h).1, h]
  · rw [List.getElem?_set_ne (Ne.symm e)]
/-- A draw: the cursor's block turns, and is a cursor's still. -/
theorem Held.draw (h : Held w0 W gs) (k : Nat) (hk : gs[k]? = some (curG C a len cap)) (hg : W.grownBy W' (some C)) (hC' : Draw.Cur B W' C a len cap) : Held w0 W' gs := by
  have := h.turn k hk ((Turned.of hg).wide (by simp [curG])) rfl (g' := curG C a len cap) hC'.blk
  rwa [set_same hk] at this
/-- A draw that makes something new. -/
theorem Held.drawNew {g : Grp} (h : Held w0 W gs) (k : Nat) (hk : gs[k]? = some (curG C a len cap)) (hg : W.grownBy W' (some C)) (hC' : Draw.Cur B W' C a len cap) (hp : g.P W') (hlo : ∀ b ∈ g.B, W.heap.size ≤ b ∧ b < W'.heap.size) : Held w0 W' (gs ++ [g]) := by
  have h' := h.draw k hk hg hC'
  refine ⟨?_, ?_, ?_, h'.gr⟩
  · intro x hx
    rcases List.mem_append.1 hx with hx | hx
    · exact h'.p x hx
    · rw [List.mem_singleton.1 hx]; exact hp
  · intro x hx b hb
    rcases List.mem_append.1 hx with hx | hx
    · exact h'.lo x hx b hb
    · rw [List.mem_singleton.1 hx] at hb; exact ⟨Nat.le_trans h.gr.size (hlo b hb).1, (hlo b hb).2⟩
  · refine List.pairwise_append.2 ⟨h.dis, List.pairwise_singleton _ _, ?_⟩
    intro x hx y hy b hb hby
    rw [List.mem_singleton.1 hy] at hby
    have := (h.lo x hx b hb).2
    have := (hlo b hby).1
    omega
theorem Held.drawRow {t : TypeId} {s n : Nat} {v : Value} {xs : List Value} (h : Held w0 W gs) (k : Nat) (hk : gs[k]? = some (curG C a len cap)) (hg : W.grownBy W' (some C)) (hC' : Draw.Cur B W' C a len cap) (ho : W'.ownsRow W.heap.size t s v n xs) : Held w0 W' (gs ++ [rowG t s v n xs]) :=
  h.drawNew k hk hg hC' (own_zero ho) (fun b hb => ho.lt b (by simpa [rowG] using hb))
/-- What the function leaves. -/
theorem Held.ends (h : Held (cutW w C) W gs) (hC : C < w.heap.size) (h0 : gs[0]? = some (oldG w C)) (h1 : gs[1]? = some (curG C a len cap)) : w.grownBy W (some C) := by
  have hs : w.heap.size ≤ W.heap.size := by
    by_cases hz : C + 1 < w.heap.size
    · have := (h.lo _ (List.mem_of_getElem? h0) (w.heap.size - 1) (by simp only [oldG]; rw [List.mem_range'_1]; omega)).2
      omega
    · have := (h.lo _ (List.mem_of_getElem? h1) C (by simp [curG])).2
      omega
  exact ⟨h.gr.os, h.gr.tape, h.gr.output, hs, fun b hb hne => by
    rcases Nat.lt_or_ge b C with h1 | h1
    · exact (h.gr.block b (by rw [cutW_size (by omega)]; exact h1) (by simp)).trans (cutW_at (by omega) h1)
    · exact h.nth 0 h0 b (by rcases Nat.lt_or_eq_of_le h1 with h2 | h2; exact h2; exact absurd (by rw [h2]) hne) hb⟩
/-- What it has made lies behind all that was there. -/
theorem Held.past {g : Grp} (h : Held (cutW w C) W gs) (hC : C < w.heap.size) (h0 : gs[0]? = some (oldG w C)) (h1 : gs[1]? = some (curG C a len cap)) (k : Nat) (hk2 : 2 ≤ k) (hk : gs[k]? = some g) : ∀ b ∈ g.B, w.heap.size ≤ b := by
  intro b hb
  have k0 := List.getElem?_eq_some_iff.1 h0
  have k1 := List.getElem?_eq_some_iff.1 h1
  have kk := List.getElem?_eq_some_iff.1 hk
  have hlo := (h.lo _ (List.mem_of_getElem? hk) b hb).1
  rw [cutW_size (by omega)] at hlo
  have d0 := List.pairwise_iff_getElem.1 h.dis 0 k k0.1 kk.1 (by omega) b
  have d1 := List.pairwise_iff_getElem.1 h.dis 1 k k1.1 kk.1 (by omega) C (by rw [k1.2]; simp [curG])
  rw [k0.2, kk.2] at d0
  rw [kk.2] at d1
  rcases Nat.lt_or_ge b w.heap.size with hlt | hge
  · exfalso
    by_cases e : b = C
    · exact d1 (e ▸ hb)
    · exact d0 (by simp only [oldG]; rw [List.mem_range'_1]; omega) hb
  · exact hge
theorem Held.ownPast {t : TypeId} {s n : Nat} {v : Value} {xs : List Value} (h : Held (cutW w C) W gs) (hC : C < w.heap.size) (h0 : gs[0]? = some (oldG w C)) (h1 : gs[1]? = some (curG C a len cap)) (k : Nat) (hk2 : 2 ≤ k) (hk : gs[k]? = some (rowG t s v n xs)) : W.ownsRow w.heap.size t s v n xs :=
  rowG_own (h.nth k hk) (h.past hC h0 h1 k hk2 hk)
end
end Go.Proofs.Ytaccigmkddomaaa.Law
