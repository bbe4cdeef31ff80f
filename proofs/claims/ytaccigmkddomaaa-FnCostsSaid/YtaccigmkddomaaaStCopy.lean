/- States: l07Copy of the reference model, as a contract: its statement draws the order of its four copies; by an invariant.
   Conditions: at most 2^20 leaves and numbers. -/
import Derived.Test.YtaccigmkddomaaaPkReg
import Derived.Test.YtaccigmkddomaaaStAns
import Derived.Deep.DrawnRows
import Derived.Maps.AppendAt
set_option maxRecDepth 100000
namespace Go.Proofs.Ytaccigmkddomaaa.State
open Go.ChangeShapes Go.WideShapes Go.ChangeAt Go.RowKit Go.Joins Go.Proofs.Ytaccigmkddomaaa.Cell Go.Proofs.Ytaccigmkddomaaa.Mesh Go.Proofs.Ytaccigmkddomaaa.Law Go.Proofs.Ytaccigmkddomaaa.Ints Go.Proofs.Ytaccigmkddomaaa.Draws Go.Deep

/-- One copied row of ints: not begun, begun (an empty row in slot s), done (slot d). -/
structure Part (a : Act) (began done : Bool) (s d : Nat) (v : Value) (n : Nat) (xs : List Int) (G : Grp) : Prop where
  no : began = false → done = false ∧ G = emptyG
  mid : began = true → done = false → ∃ u, At a s u ∧ G = rowG 3 1 u 0 []
  yes : done = true → At a d v ∧ G = rowG 3 1 v n (vals xs)
theorem Part.off {a : Act} {began done : Bool} {s d : Nat} {v : Value} {n : Nat} {xs : List Int} {G : Grp} (h : Part a began done s d v n xs G) {e : Nat} {u : Value} (h1 : s ≠ e) (h2 : d ≠ e) : Part (a.put (some e) u) began done s d v n xs G :=
  ⟨h.no, fun h3 h4 => let ⟨x, hx, hg⟩ := h.mid h3 h4; ⟨x, hx.off h1, hg⟩, fun h3 => ⟨(h.yes h3).1.off h2, (h.yes h3).2⟩⟩
theorem readsI_news {w : World} {g n : Nat} {xs : List Int} (h : ReadsI w (some ⟨g, 0, none⟩) n xs) : ∀ j u, (vals xs)[j]? = some u → w.cell? ((⟨g, 0, none⟩ : Addr).add j) = some u := by
  intro j u hu
  obtain ⟨x, hx, rfl⟩ : ∃ x, xs[j]? = some x ∧ Value.int .i64 x = u := by
    rw [vals, List.getElem?_map] at hu
    cases hx : xs[j]? with
    | none => rw [hx] at hu; cases hu
    | some x => rw [hx] at hu; exact ⟨x, rfl, by simpa using hu⟩
  obtain ⟨g', o, e, hc⟩ := h.at_ j x hx
  cases e
  rw [Addr.add_lit]; exact hc
theorem vals_one (xs : List Int) : ∀ u ∈ vals xs, u.oneCell' = true := by
  intro u hu
  obtain ⟨x, _, rfl⟩ := List.mem_map.1 hu
  rfl
theorem own_shapeAny {w : World} {base n s : Nat} {t : TypeId} {v : Value} {xs : List Value} (h : w.ownsRow base t s v n xs) : ∃ a cap, v = .slice a n cap := by
  rcases h.2 with ⟨rfl, rfl⟩ | ⟨g, cap, cur, rfl, -⟩
  · exact ⟨none, 0, rfl⟩
  · exact ⟨_, _, rfl⟩
theorem own_emptyI (W : World) (base : Nat) (hb : base ≤ W.heap.size) : (W.alloc (.cells #[] 3)).ownsRow base 3 1 (.slice (some ⟨W.heap.size, 0, none⟩) 0 0) 0 [] := World.ownsRow_lit W #[] 0 hb (by unfold maxLen; omega) rfl

theorem wp_value {P : Program} {o : Oper} {a : Act} {w w' : World} {K : Act → World → Prop} {Q : Exit → Act → World → Prop} {v : Value} (hr : (execOp a.eval o).run P w = .ok (.value v) w') (h : K (a.put o.dst v) w') : o.wp P a w K Q := by
  unfold Oper.wp; rw [hr]; exact h
theorem wp_skip {P : Program} {o : Oper} {a : Act} {w w' : World} {K : Act → World → Prop} {Q : Exit → Act → World → Prop} (hr : (execOp a.eval o).run P w = .ok .skip w') (h : K (a.put o.dst undef) w') : o.wp P a w K Q := by
  unfold Oper.wp; rw [hr]; exact h

/-- One append of a slice of ints to a row of ints of the call's own, as an operation. -/
theorem wp_append_ints {w : World} {o : Oper} {a : Act} {K : Act → World → Prop} {Q : Exit → Act → World → Prop} {s x : Operand} (ho : o.op = .call { callee := .builtin .append, args := #[s, x], argTypes := #[27, 27] })
    {u : Value} {g n m c : Nat} {xs : List Value} {ys : List Int} (hs : a.eval s = u) (hu : w.ownsRow 0 3 1 u n xs) (hx : a.eval x = .slice (some ⟨g, 0, none⟩) m c) (hy : ReadsI w (some ⟨g, 0, none⟩) m ys) (hn : n + m ≤ 2097152)
    (go : ∀ (u' : Value) (w' : World), w'.ownsRow 0 3 1 u' (n + m) (xs ++ vals ys) → w.grownBy w' u.ownBlock → (u'.ownBlock = u.ownBlock ∨ u'.ownBlock = some w.heap.size) → K (a.put o.dst u') w') : o.wp Try.prog a w K Q := by
  obtain ⟨i0, hi0, hz0, hz1, hz2⟩ := info_parts infoInt
  obtain ⟨u', w', hr, h2, h3, -, h4⟩ := run_append_own_at (P := Try.prog) w 0 27 o.type 3 i0 (.int .i64 0) 1 8 Try.underlying27 hi0 hz0 hz1 hz2 rfl (by decide) u n xs hu ⟨g, 0, none⟩ m c (vals ys) (by rw [vals_len, hy.len, Nat.mul_one]) (readsI_news hy) (vals_one ys) (by unfold maxLen; omega) (by omega) (Nat.zero_le _)
  refine wp_value (v := u') ?_ (go u' w' h2 h3 h4)
  simp only [execOp, ho, resolve, invoke, builtin, Sem.run_bind, Sem.run_pure, Result.andThen_ok, List.map_toArray, List.map_cons, List.map_nil, hs, hx, hr]

/-- What stands in the midst of the copying. -/
structure CopyI (R : Int) (g1 g2 g3 g4 n1 n2 n3 n4 c1 c2 c3 c4 : Nat) (xs : List C3) (ms ts bs : List Int) (w : World) (L : Nat → Bool) (a : Act) (W : World) : Prop where
  sz : a.tmps.size = 19
  df : a.defers = []
  t1 : At a 1 (.pointer (some ⟨w.heap.size, 0, none⟩))
  t2 : At a 2 (.pointer (some ⟨w.heap.size + 1, 0, none⟩))
  p0 : L 0 = true → At a 3 (.pointer (some ⟨w.heap.size, 0, none⟩))
  p1 : L 1 = true → At a 4 (.agg #[.int .i64 R, .slice (some ⟨g1, 0, none⟩) n1 c1])
  p4 : L 4 = true → At a 7 (.pointer (some ⟨w.heap.size, 2, none⟩))
  p5 : L 5 = true → At a 8 (.slice (some ⟨g2, 0, none⟩) n2 c2)
  p8 : L 8 = true → At a 11 (.pointer (some ⟨w.heap.size, 3, none⟩))
  p9 : L 9 = true → At a 12 (.slice (some ⟨g3, 0, none⟩) n3 c3)
  p12 : L 12 = true → At a 15 (.pointer (some ⟨w.heap.size, 4, none⟩))
  p13 : L 13 = true → At a 16 (.slice (some ⟨g4, 0, none⟩) n4 c4)
  body : ∃ (b1 b2 b3 b4 : Option Addr) (d1 d2 d3 d4 : Nat) (G0 G1 G2 G3 G4 : Grp), Held w W [boxG w.heap.size 29 #[.int .i64 R, .slice (some ⟨g1, 0, none⟩) n1 c1, .slice (some ⟨g2, 0, none⟩) n2 c2, .slice (some ⟨g3, 0, none⟩) n3 c3, .slice (some ⟨g4, 0, none⟩) n4 c4], G0, G1, G2, G3, G4]
    ∧ (L 2 = false → G1 = emptyG) ∧ (L 2 = true → At a 5 (.agg #[.int .i64 R, .slice b1 n1 d1]) ∧ G1 = rowG 35 3 (.slice b1 n1 d1) n1 (flatC xs))
    ∧ Part a (L 3) (L 6) 6 9 (.slice b2 n2 d2) n2 ms G2 ∧ Part a (L 7) (L 10) 10 13 (.slice b3 n3 d3) n3 ts G3 ∧ Part a (L 11) (L 14) 14 17 (.slice b4 n4 d4) n4 bs G4
    ∧ (L 15 = true → (L 2 = true ∧ L 6 = true ∧ L 10 = true ∧ L 14 = true) ∧ At a 18 (.agg #[.int .i64 R, .slice b1 n1 d1, .slice b2 n2 d2, .slice b3 n3 d3, .slice b4 n4 d4])) ∧ (L 16 = false → G0 = boxG (w.heap.size + 1) 29 #[.int .i64 0, .slice none 0 0, .slice none 0 0, .slice none 0 0, .slice none 0 0]) ∧ (L 16 = true → L 15 = true ∧ G0 = boxG (w.heap.size + 1) 29 #[.int .i64 R, .slice b1 n1 d1, .slice b2 n2 d2, .slice b3 n3 d3, .slice b4 n4 d4])


end Go.Proofs.Ytaccigmkddomaaa.State
