/- States: the tables of the regions of l08Split and l08Merge of the reference model that draw their order; appends of any slice of ints, as operations (written by wip/tools/stspec.py).
   Conditions: none. -/
import Derived.Test.YtfoilfgiablleaaStRoom
import Derived.Test.YtfoilfgiablleaaStPlace
import Derived.ArgAppend
set_option maxRecDepth 100000
namespace Go.Proofs.Ytfoilfgiablleaa.Ints
open Go
theorem vals_append2 (xs ys : List Int) : vals (xs ++ ys) = vals xs ++ vals ys := by simp [vals]
end Go.Proofs.Ytfoilfgiablleaa.Ints
namespace Go.Proofs.Ytfoilfgiablleaa.Draws
open Go
theorem eval_slot {a : Act} {d : Nat} {v u : Value} (h : At a d v) (e : v = u) : a.eval (.tmp d) = u := e ▸ h.ev
end Go.Proofs.Ytfoilfgiablleaa.Draws
namespace Go.Proofs.Ytfoilfgiablleaa.State
open Go.ChangeShapes Go.WideShapes Go.ChangeAt Go.RowKit Go.Joins Go.Proofs.Ytfoilfgiablleaa.Cell Go.Proofs.Ytfoilfgiablleaa.Mesh Go.Proofs.Ytfoilfgiablleaa.Law Go.Proofs.Ytfoilfgiablleaa.Ints Go.Proofs.Ytfoilfgiablleaa.Draws Go.Deep
set_option linter.unusedVariables false

/-- A slice from k on: where nothing is left of its room, it points at the beginning. -/
def cutV (g n c k : Nat) : Value := if c = k then .slice (some ⟨g, 0, none⟩) (n - k) 0 else .slice (some ⟨g, k, none⟩) (n - k) (c - k)
theorem cutV_full {g n c k : Nat} (h : c = k) : cutV g n c k = .slice (some ⟨g, 0, none⟩) (n - k) 0 := if_pos h
theorem cutV_part {g n c k : Nat} (h : ¬ c = k) : cutV g n c k = .slice (some ⟨g, k, none⟩) (n - k) (c - k) := if_neg h
theorem cutV_news {w : World} {g n c k : Nat} {xs : List Int} (h : ReadsI w (some ⟨g, 0, none⟩) n xs) (hk : k ≤ n ∧ n ≤ c) : ∃ (ad : Addr) (c' : Nat), cutV g n c k = .slice (some ad) (n - k) c' ∧ ∀ j u, (vals (xs.drop k))[j]? = some u → w.cell? (ad.add j) = some u := by
  have hl := h.len
  by_cases hc : c = k
  · refine ⟨_, _, cutV_full hc, fun j u hj => ?_⟩
    rw [List.drop_of_length_le (by omega)] at hj
    simp [vals] at hj
  · exact ⟨_, _, cutV_part hc, reads_rest h k⟩
/-- One append to a row of ints of the call's own, as an operation: of any slice of ints. -/
theorem wp_append_at {w : World} {o : Oper} {a : Act} {K : Act → World → Prop} {Q : Exit → Act → World → Prop} {s x : Operand} (ho : o.op = .call { callee := .builtin .append, args := #[s, x], argTypes := #[27, 27] })
    {u : Value} {n m c : Nat} {ad : Addr} {xs : List Value} {ys : List Int} (hs : a.eval s = u) (hu : w.ownsRow 0 3 1 u n xs) (hx : a.eval x = .slice (some ad) m c) (hl : ys.length = m) (hy : ∀ j v, (vals ys)[j]? = some v → w.cell? (ad.add j) = some v) (hn : n + m ≤ 2097152)
    (go : ∀ (u' : Value) (w' : World), w'.ownsRow 0 3 1 u' (n + m) (xs ++ vals ys) → w.grownBy w' u.ownBlock → (u'.ownBlock = u.ownBlock ∨ u'.ownBlock = some w.heap.size) → K (a.put o.dst u') w') : o.wp Try.prog a w K Q := by
  obtain ⟨i0, hi0, hz0, hz1, hz2⟩ := info_parts infoInt
  obtain ⟨u', w', hr, h2, h3, -, h4⟩ := run_append_own_at (P := Try.prog) w 0 27 o.type 3 i0 (.int .i64 0) 1 8 Try.underlying27 hi0 hz0 hz1 hz2 rfl (by decide) u n xs hu ad m c (vals ys) (by rw [vals_len, hl, Nat.mul_one]) hy (vals_one ys) (by unfold maxLen; omega) (by omega) (Nat.zero_le _)
  refine wp_value (v := u') ?_ (go u' w' h2 h3 h4)
  simp only [execOp, ho, resolve, invoke, builtin, Sem.run_bind, Sem.run_pure, Result.andThen_ok, List.map_toArray, List.map_cons, List.map_nil, hs, hx, hr]
/-- One append to an empty slice, of whoever it is: a row of the call's own. -/
theorem wp_append_new {w : World} {o : Oper} {a : Act} {K : Act → World → Prop} {Q : Exit → Act → World → Prop} {s x : Operand} (ho : o.op = .call { callee := .builtin .append, args := #[s, x], argTypes := #[27, 27] })
    {b g m c : Nat} {ys : List Int} (hs : a.eval s = .slice (some ⟨b, 0, none⟩) 0 0) (hx : a.eval x = .slice (some ⟨g, 0, none⟩) m c) (hy : ReadsI w (some ⟨g, 0, none⟩) m ys) (hm : 0 < m ∧ m ≤ 1048576)
    (go : ∀ (u' : Value) (w' : World), w'.ownsRow w.heap.size 3 1 u' m (vals ys) → w.grownBy w' none → K (a.put o.dst u') w') : o.wp Try.prog a w K Q := by
  obtain ⟨i0, hi0, hz0, hz1, hz2⟩ := info_parts infoInt
  obtain ⟨u', w', hr, h2, h3⟩ := run_append_arg_grows (P := Try.prog) w 27 o.type 3 i0 (.int .i64 0) 1 8 Try.underlying27 hi0 hz0 hz1 hz2 rfl (by decide) ⟨b, 0, none⟩ 0 0 [] rfl (fun j u h => by simp at h) ⟨g, 0, none⟩ m c (vals ys) (by rw [vals_len, hy.len, Nat.mul_one]) (readsI_newsA hy) (by omega) (by unfold maxLen; omega) (by omega)
  rw [Nat.zero_add, List.nil_append] at h2
  refine wp_value (v := u') ?_ (go u' w' h2 h3)
  simp only [execOp, ho, resolve, invoke, builtin, Sem.run_bind, Sem.run_pure, Result.andThen_ok, List.map_toArray, List.map_cons, List.map_nil, hs, hx, hr]
theorem built_one (W : World) (x : Int) : (W.alloc (.cells #[.int .i64 x] 3)).ownsRow 0 3 1 (.slice (some ⟨W.heap.size, 0, none⟩) 1 1) 1 (vals [x]) := World.ownsRow_lit W #[.int .i64 x] 1 (Nat.zero_le _) (by unfold maxLen; omega) rfl

/-- What each operation leaves. -/
def SsShG (R : Int) (g1 g2 g3 g4 n1 n2 n3 n4 c1 c2 c3 c4 k B : Nat) (xs : List C3) (ms ts bs : List Int) (m m2 t t2 lm tl : Int) (val : Nat → Value) (G : Nat → Grp) : Nat → Prop
  | 0 => val 0 = .pointer (some ⟨B, 3, none⟩)
  | 1 => val 1 = .slice (some ⟨g3, 0, none⟩) n3 c3
  | 2 => val 2 = .int .i64 (k : Int)
  | 3 => val 3 = .pointer (some ⟨g3, k, none⟩)
  | 4 => val 4 = .int .i64 t
  | 5 => val 5 = .int .i64 lm
  | 6 => val 6 = .pointer (some ⟨B, 2, none⟩)
  | 7 => val 7 = .slice (some ⟨g2, 0, none⟩) n2 c2
  | 8 => val 8 = .int .i64 (k : Int)
  | 9 => val 9 = .pointer (some ⟨g2, k, none⟩)
  | 10 => val 10 = .int .i64 m
  | 11 => val 11 = .int .i64 tl
  | 12 => val 12 = .int .i64 tl
  | _ => True
def SsShGDep : Nat → List Nat
  | 1 => [0] | 3 => [1, 2] | 4 => [3] | 7 => [6] | 9 => [7, 8] | 10 => [9] | 11 => [4, 5, 10] | 12 => [11] | _ => []
theorem SsShG_local (R : Int) (g1 g2 g3 g4 n1 n2 n3 n4 c1 c2 c3 c4 k B : Nat) (xs : List C3) (ms ts bs : List Int) (m m2 t t2 lm tl : Int) : Local SsShGDep (SsShG R g1 g2 g3 g4 n1 n2 n3 n4 c1 c2 c3 c4 k B xs ms ts bs m m2 t t2 lm tl) := by
  intro val val' G G' j hk h
  match j with
  | 0 => exact (hk 0 (.inl rfl)).1.trans h
  | 1 => exact (hk 1 (.inl rfl)).1.trans h
  | 2 => exact (hk 2 (.inl rfl)).1.trans h
  | 3 => exact (hk 3 (.inl rfl)).1.trans h
  | 4 => exact (hk 4 (.inl rfl)).1.trans h
  | 5 => exact (hk 5 (.inl rfl)).1.trans h
  | 6 => exact (hk 6 (.inl rfl)).1.trans h
  | 7 => exact (hk 7 (.inl rfl)).1.trans h
  | 8 => exact (hk 8 (.inl rfl)).1.trans h
  | 9 => exact (hk 9 (.inl rfl)).1.trans h
  | 10 => exact (hk 10 (.inl rfl)).1.trans h
  | 11 => exact (hk 11 (.inl rfl)).1.trans h
  | 12 => exact (hk 12 (.inl rfl)).1.trans h
  | _ + 13 => trivial

/-- What each operation leaves. -/
def SsMkG (R : Int) (g1 g2 g3 g4 n1 n2 n3 n4 c1 c2 c3 c4 k B : Nat) (xs : List C3) (ms ts bs : List Int) (m m2 t t2 lm tl : Int) (b2 b3 : Option Addr) (d2 d3 : Nat) (ml tr : List Int) (val : Nat → Value) (G : Nat → Grp) : Nat → Prop
  | 0 => val 0 = .pointer (some ⟨B, 0, none⟩)
  | 1 => val 1 = .agg #[.int .i64 R, .slice (some ⟨g1, 0, none⟩) n1 c1]
  | 2 => val 2 = .int .i64 (k : Int)
  | 3 => ∃ (b1 : Option Addr) (d1 : Nat), val 3 = .agg #[.int .i64 R, .slice b1 (n1 + 1) d1] ∧ G 3 = rowG 36 3 (.slice b1 (n1 + 1) d1) (n1 + 1) (flatC (split2 xs k))
  | 4 => val 4 = .slice b2 (k + 2) d2
  | 5 => val 5 = .pointer (some ⟨B, 2, none⟩)
  | 6 => val 6 = .slice (some ⟨g2, 0, none⟩) n2 c2
  | 7 => val 7 = .int .i64 (k : Int)
  | 8 => val 8 = .int .i64 ((k : Int) + 1)
  | 9 => val 9 = cutV g2 n2 c2 (k + 1)
  | 10 => ∃ (e2 : Option Addr) (f2 : Nat), val 10 = .slice e2 ((k + 2) + (n2 - (k + 1))) f2 ∧ G 10 = rowG 3 1 (.slice e2 ((k + 2) + (n2 - (k + 1))) f2) ((k + 2) + (n2 - (k + 1))) (vals (ml ++ ms.drop (k + 1)))
  | 11 => val 11 = .slice b3 (k + 2) d3
  | 12 => val 12 = .pointer (some ⟨B, 3, none⟩)
  | 13 => val 13 = .slice (some ⟨g3, 0, none⟩) n3 c3
  | 14 => val 14 = .int .i64 (k : Int)
  | 15 => val 15 = .int .i64 ((k : Int) + 1)
  | 16 => val 16 = cutV g3 n3 c3 (k + 1)
  | 17 => ∃ (e3 : Option Addr) (f3 : Nat), val 17 = .slice e3 ((k + 2) + (n3 - (k + 1))) f3 ∧ G 17 = rowG 3 1 (.slice e3 ((k + 2) + (n3 - (k + 1))) f3) ((k + 2) + (n3 - (k + 1))) (vals (tr ++ ts.drop (k + 1)))
  | 18 => ∃ (be : Nat), val 18 = .slice (some ⟨be, 0, none⟩) 0 0
  | 19 => val 19 = .pointer (some ⟨B, 4, none⟩)
  | 20 => val 20 = .slice (some ⟨g4, 0, none⟩) n4 c4
  | 21 => ∃ (b4 : Option Addr) (d4 : Nat), val 21 = .slice b4 n4 d4 ∧ G 21 = rowG 3 1 (.slice b4 n4 d4) (n4) (vals (bs))
  | 22 => ∃ (b1 : Option Addr) (d1 : Nat) (e2 : Option Addr) (f2 : Nat) (e3 : Option Addr) (f3 : Nat) (b4 : Option Addr) (d4 : Nat), val 22 = .agg #[.int .i64 R, .slice b1 (n1 + 1) d1, .slice e2 ((k + 2) + (n2 - (k + 1))) f2, .slice e3 ((k + 2) + (n3 - (k + 1))) f3, .slice b4 n4 d4] ∧ val 3 = .agg #[.int .i64 R, .slice b1 (n1 + 1) d1] ∧ val 10 = .slice e2 ((k + 2) + (n2 - (k + 1))) f2 ∧ val 17 = .slice e3 ((k + 2) + (n3 - (k + 1))) f3 ∧ val 21 = .slice b4 n4 d4
  | 23 => ∃ (b1 : Option Addr) (d1 : Nat) (e2 : Option Addr) (f2 : Nat) (e3 : Option Addr) (f3 : Nat) (b4 : Option Addr) (d4 : Nat), val 22 = .agg #[.int .i64 R, .slice b1 (n1 + 1) d1, .slice e2 ((k + 2) + (n2 - (k + 1))) f2, .slice e3 ((k + 2) + (n3 - (k + 1))) f3, .slice b4 n4 d4] ∧ G 23 = boxG (B + 1) 29 #[.int .i64 R, .slice b1 (n1 + 1) d1, .slice e2 ((k + 2) + (n2 - (k + 1))) f2, .slice e3 ((k + 2) + (n3 - (k + 1))) f3, .slice b4 n4 d4]
  | _ => True
def SsMkGDep : Nat → List Nat
  | 1 => [0] | 3 => [1, 2] | 6 => [5] | 8 => [7] | 9 => [6, 8] | 10 => [4, 9] | 13 => [12] | 15 => [14] | 16 => [13, 15] | 17 => [11, 16] | 20 => [19] | 21 => [18, 20] | 22 => [3, 10, 17, 21] | 23 => [22] | _ => []
theorem SsMkG_local (R : Int) (g1 g2 g3 g4 n1 n2 n3 n4 c1 c2 c3 c4 k B : Nat) (xs : List C3) (ms ts bs : List Int) (m m2 t t2 lm tl : Int) (b2 b3 : Option Addr) (d2 d3 : Nat) (ml tr : List Int) : Local SsMkGDep (SsMkG R g1 g2 g3 g4 n1 n2 n3 n4 c1 c2 c3 c4 k B xs ms ts bs m m2 t t2 lm tl b2 b3 d2 d3 ml tr) := by
  intro val val' G G' j hk h
  match j with
  | 0 => exact (hk 0 (.inl rfl)).1.trans h
  | 1 => exact (hk 1 (.inl rfl)).1.trans h
  | 2 => exact (hk 2 (.inl rfl)).1.trans h
  | 3 => obtain ⟨b1, d1, h0, h1⟩ := h; exact ⟨b1, d1, (hk 3 (.inl rfl)).1.trans h0, (hk 3 (.inl rfl)).2.trans h1⟩
  | 4 => exact (hk 4 (.inl rfl)).1.trans h
  | 5 => exact (hk 5 (.inl rfl)).1.trans h
  | 6 => exact (hk 6 (.inl rfl)).1.trans h
  | 7 => exact (hk 7 (.inl rfl)).1.trans h
  | 8 => exact (hk 8 (.inl rfl)).1.trans h
  | 9 => exact (hk 9 (.inl rfl)).1.trans h
  | 10 => obtain ⟨e2, f2, h0, h1⟩ := h; exact ⟨e2, f2, (hk 10 (.inl rfl)).1.trans h0, (hk 10 (.inl rfl)).2.trans h1⟩
  | 11 => exact (hk 11 (.inl rfl)).1.trans h
  | 12 => exact (hk 12 (.inl rfl)).1.trans h
  | 13 => exact (hk 13 (.inl rfl)).1.trans h
  | 14 => exact (hk 14 (.inl rfl)).1.trans h
  | 15 => exact (hk 15 (.inl rfl)).1.trans h
  | 16 => exact (hk 16 (.inl rfl)).1.trans h
  | 17 => obtain ⟨e3, f3, h0, h1⟩ := h; exact ⟨e3, f3, (hk 17 (.inl rfl)).1.trans h0, (hk 17 (.inl rfl)).2.trans h1⟩
  | 18 => obtain ⟨be, h0⟩ := h; exact ⟨be, (hk 18 (.inl rfl)).1.trans h0⟩
  | 19 => exact (hk 19 (.inl rfl)).1.trans h
  | 20 => exact (hk 20 (.inl rfl)).1.trans h
  | 21 => obtain ⟨b4, d4, h0, h1⟩ := h; exact ⟨b4, d4, (hk 21 (.inl rfl)).1.trans h0, (hk 21 (.inl rfl)).2.trans h1⟩
  | 22 => obtain ⟨b1, d1, e2, f2, e3, f3, b4, d4, h0, h1, h2, h3, h4⟩ := h; exact ⟨b1, d1, e2, f2, e3, f3, b4, d4, (hk 22 (.inl rfl)).1.trans h0, (hk 3 (.inr (by simp [SsMkGDep]))).1.trans h1, (hk 10 (.inr (by simp [SsMkGDep]))).1.trans h2, (hk 17 (.inr (by simp [SsMkGDep]))).1.trans h3, (hk 21 (.inr (by simp [SsMkGDep]))).1.trans h4⟩
  | 23 => obtain ⟨b1, d1, e2, f2, e3, f3, b4, d4, h0, h1⟩ := h; exact ⟨b1, d1, e2, f2, e3, f3, b4, d4, (hk 22 (.inr (by simp [SsMkGDep]))).1.trans h0, (hk 23 (.inl rfl)).2.trans h1⟩
  | _ + 24 => trivial

/-- What each operation leaves. -/
def SmMaG (R : Int) (g1 g2 g3 g4 n1 n2 n3 n4 c1 c2 c3 c4 k B : Nat) (xs : List C3) (ms ts bs : List Int) (m m2 t t2 lm tl : Int) (b2 : Option Addr) (d2 : Nat) (ml : List Int) (val : Nat → Value) (G : Nat → Grp) : Nat → Prop
  | 0 => val 0 = .slice b2 k d2
  | 1 => val 1 = .pointer (some ⟨B, 2, none⟩)
  | 2 => val 2 = .slice (some ⟨g2, 0, none⟩) n2 c2
  | 3 => val 3 = .int .i64 (k : Int)
  | 4 => val 4 = .pointer (some ⟨g2, k, none⟩)
  | 5 => val 5 = .int .i64 m
  | 6 => val 6 = .pointer (some ⟨B, 2, none⟩)
  | 7 => val 7 = .slice (some ⟨g2, 0, none⟩) n2 c2
  | 8 => val 8 = .int .i64 (k : Int)
  | 9 => val 9 = .int .i64 ((k : Int) + 1)
  | 10 => val 10 = .pointer (some ⟨g2, (k + 1), none⟩)
  | 11 => val 11 = .int .i64 m2
  | 12 => val 12 = .int .i64 (m + m2)
  | 13 => ∃ (be : Nat), val 13 = .slice (some ⟨be, 0, none⟩) 1 1 ∧ G 13 = rowG 3 1 (.slice (some ⟨be, 0, none⟩) 1 1) (1) (vals ([m + m2]))
  | 14 => ∃ (e2 : Option Addr) (f2 : Nat), val 14 = .slice e2 (k + 1) f2 ∧ G 14 = rowG 3 1 (.slice e2 (k + 1) f2) (k + 1) (vals (ml ++ [m + m2]))
  | 15 => ∃ (e2 : Option Addr) (f2 : Nat), val 15 = .slice e2 (k + 1) f2 ∧ val 14 = .slice e2 (k + 1) f2
  | _ => True
def SmMaGDep : Nat → List Nat
  | 2 => [1] | 4 => [2, 3] | 5 => [4] | 7 => [6] | 9 => [8] | 10 => [7, 9] | 11 => [10] | 12 => [5, 11] | 13 => [12] | 14 => [0, 13] | 15 => [14] | _ => []
theorem SmMaG_local (R : Int) (g1 g2 g3 g4 n1 n2 n3 n4 c1 c2 c3 c4 k B : Nat) (xs : List C3) (ms ts bs : List Int) (m m2 t t2 lm tl : Int) (b2 : Option Addr) (d2 : Nat) (ml : List Int) : Local SmMaGDep (SmMaG R g1 g2 g3 g4 n1 n2 n3 n4 c1 c2 c3 c4 k B xs ms ts bs m m2 t t2 lm tl b2 d2 ml) := by
  intro val val' G G' j hk h
  match j with
  | 0 => exact (hk 0 (.inl rfl)).1.trans h
  | 1 => exact (hk 1 (.inl rfl)).1.trans h
  | 2 => exact (hk 2 (.inl rfl)).1.trans h
  | 3 => exact (hk 3 (.inl rfl)).1.trans h
  | 4 => exact (hk 4 (.inl rfl)).1.trans h
  | 5 => exact (hk 5 (.inl rfl)).1.trans h
  | 6 => exact (hk 6 (.inl rfl)).1.trans h
  | 7 => exact (hk 7 (.inl rfl)).1.trans h
  | 8 => exact (hk 8 (.inl rfl)).1.trans h
  | 9 => exact (hk 9 (.inl rfl)).1.trans h
  | 10 => exact (hk 10 (.inl rfl)).1.trans h
  | 11 => exact (hk 11 (.inl rfl)).1.trans h
  | 12 => exact (hk 12 (.inl rfl)).1.trans h
  | 13 => obtain ⟨be, h0, h1⟩ := h; exact ⟨be, (hk 13 (.inl rfl)).1.trans h0, (hk 13 (.inl rfl)).2.trans h1⟩
  | 14 => obtain ⟨e2, f2, h0, h1⟩ := h; exact ⟨e2, f2, (hk 14 (.inl rfl)).1.trans h0, (hk 14 (.inl rfl)).2.trans h1⟩
  | 15 => obtain ⟨e2, f2, h0, h1⟩ := h; exact ⟨e2, f2, (hk 15 (.inl rfl)).1.trans h0, (hk 14 (.inr (by simp [SmMaGDep]))).1.trans h1⟩
  | _ + 16 => trivial

/-- What each operation leaves. -/
def SmTrG (R : Int) (g1 g2 g3 g4 n1 n2 n3 n4 c1 c2 c3 c4 k B : Nat) (xs : List C3) (ms ts bs : List Int) (m m2 t t2 lm tl : Int) (b2 : Option Addr) (d2 : Nat) (ml : List Int) (val : Nat → Value) (G : Nat → Grp) : Nat → Prop
  | 0 => val 0 = .slice b2 k d2
  | 1 => val 1 = .pointer (some ⟨B, 3, none⟩)
  | 2 => val 2 = .slice (some ⟨g3, 0, none⟩) n3 c3
  | 3 => val 3 = .int .i64 (k : Int)
  | 4 => val 4 = .pointer (some ⟨g3, k, none⟩)
  | 5 => val 5 = .int .i64 t
  | 6 => val 6 = .pointer (some ⟨B, 3, none⟩)
  | 7 => val 7 = .slice (some ⟨g3, 0, none⟩) n3 c3
  | 8 => val 8 = .int .i64 (k : Int)
  | 9 => val 9 = .int .i64 ((k : Int) + 1)
  | 10 => val 10 = .pointer (some ⟨g3, (k + 1), none⟩)
  | 11 => val 11 = .int .i64 t2
  | 12 => val 12 = .int .i64 (t + t2)
  | 13 => ∃ (be : Nat), val 13 = .slice (some ⟨be, 0, none⟩) 1 1 ∧ G 13 = rowG 3 1 (.slice (some ⟨be, 0, none⟩) 1 1) (1) (vals ([t + t2]))
  | 14 => ∃ (e2 : Option Addr) (f2 : Nat), val 14 = .slice e2 (k + 1) f2 ∧ G 14 = rowG 3 1 (.slice e2 (k + 1) f2) (k + 1) (vals (ml ++ [t + t2]))
  | 15 => ∃ (e2 : Option Addr) (f2 : Nat), val 15 = .slice e2 (k + 1) f2 ∧ val 14 = .slice e2 (k + 1) f2
  | _ => True
def SmTrGDep : Nat → List Nat
  | 2 => [1] | 4 => [2, 3] | 5 => [4] | 7 => [6] | 9 => [8] | 10 => [7, 9] | 11 => [10] | 12 => [5, 11] | 13 => [12] | 14 => [0, 13] | 15 => [14] | _ => []
theorem SmTrG_local (R : Int) (g1 g2 g3 g4 n1 n2 n3 n4 c1 c2 c3 c4 k B : Nat) (xs : List C3) (ms ts bs : List Int) (m m2 t t2 lm tl : Int) (b2 : Option Addr) (d2 : Nat) (ml : List Int) : Local SmTrGDep (SmTrG R g1 g2 g3 g4 n1 n2 n3 n4 c1 c2 c3 c4 k B xs ms ts bs m m2 t t2 lm tl b2 d2 ml) := by
  intro val val' G G' j hk h
  match j with
  | 0 => exact (hk 0 (.inl rfl)).1.trans h
  | 1 => exact (hk 1 (.inl rfl)).1.trans h
  | 2 => exact (hk 2 (.inl rfl)).1.trans h
  | 3 => exact (hk 3 (.inl rfl)).1.trans h
  | 4 => exact (hk 4 (.inl rfl)).1.trans h
  | 5 => exact (hk 5 (.inl rfl)).1.trans h
  | 6 => exact (hk 6 (.inl rfl)).1.trans h
  | 7 => exact (hk 7 (.inl rfl)).1.trans h
  | 8 => exact (hk 8 (.inl rfl)).1.trans h
  | 9 => exact (hk 9 (.inl rfl)).1.trans h
  | 10 => exact (hk 10 (.inl rfl)).1.trans h
  | 11 => exact (hk 11 (.inl rfl)).1.trans h
  | 12 => exact (hk 12 (.inl rfl)).1.trans h
  | 13 => obtain ⟨be, h0, h1⟩ := h; exact ⟨be, (hk 13 (.inl rfl)).1.trans h0, (hk 13 (.inl rfl)).2.trans h1⟩
  | 14 => obtain ⟨e2, f2, h0, h1⟩ := h; exact ⟨e2, f2, (hk 14 (.inl rfl)).1.trans h0, (hk 14 (.inl rfl)).2.trans h1⟩
  | 15 => obtain ⟨e2, f2, h0, h1⟩ := h; exact ⟨e2, f2, (hk 15 (.inl rfl)).1.trans h0, (hk 14 (.inr (by simp [SmTrGDep]))).1.trans h1⟩
  | _ + 16 => trivial

/-- What each operation leaves. -/
def SmMkG (R : Int) (g1 g2 g3 g4 n1 n2 n3 n4 c1 c2 c3 c4 k B : Nat) (xs : List C3) (ms ts bs : List Int) (m m2 t t2 lm tl : Int) (b2 b3 : Option Addr) (d2 d3 : Nat) (ml tr : List Int) (val : Nat → Value) (G : Nat → Grp) : Nat → Prop
  | 0 => val 0 = .pointer (some ⟨B, 0, none⟩)
  | 1 => val 1 = .agg #[.int .i64 R, .slice (some ⟨g1, 0, none⟩) n1 c1]
  | 2 => val 2 = .int .i64 (k : Int)
  | 3 => ∃ (b1 : Option Addr) (d1 : Nat), val 3 = .agg #[.int .i64 R, .slice b1 (k + 1 + (n1 - (k + 2))) d1] ∧ G 3 = rowG 36 3 (.slice b1 (k + 1 + (n1 - (k + 2))) d1) (k + 1 + (n1 - (k + 2))) (flatC (merge2 xs k))
  | 4 => val 4 = .slice b2 (k + 1) d2
  | 5 => val 5 = .pointer (some ⟨B, 2, none⟩)
  | 6 => val 6 = .slice (some ⟨g2, 0, none⟩) n2 c2
  | 7 => val 7 = .int .i64 (k : Int)
  | 8 => val 8 = .int .i64 ((k : Int) + 2)
  | 9 => val 9 = cutV g2 n2 c2 (k + 2)
  | 10 => ∃ (e2 : Option Addr) (f2 : Nat), val 10 = .slice e2 ((k + 1) + (n2 - (k + 2))) f2 ∧ G 10 = rowG 3 1 (.slice e2 ((k + 1) + (n2 - (k + 2))) f2) ((k + 1) + (n2 - (k + 2))) (vals (ml ++ ms.drop (k + 2)))
  | 11 => val 11 = .slice b3 (k + 1) d3
  | 12 => val 12 = .pointer (some ⟨B, 3, none⟩)
  | 13 => val 13 = .slice (some ⟨g3, 0, none⟩) n3 c3
  | 14 => val 14 = .int .i64 (k : Int)
  | 15 => val 15 = .int .i64 ((k : Int) + 2)
  | 16 => val 16 = cutV g3 n3 c3 (k + 2)
  | 17 => ∃ (e3 : Option Addr) (f3 : Nat), val 17 = .slice e3 ((k + 1) + (n3 - (k + 2))) f3 ∧ G 17 = rowG 3 1 (.slice e3 ((k + 1) + (n3 - (k + 2))) f3) ((k + 1) + (n3 - (k + 2))) (vals (tr ++ ts.drop (k + 2)))
  | 18 => ∃ (be : Nat), val 18 = .slice (some ⟨be, 0, none⟩) 0 0
  | 19 => val 19 = .pointer (some ⟨B, 4, none⟩)
  | 20 => val 20 = .slice (some ⟨g4, 0, none⟩) n4 c4
  | 21 => ∃ (b4 : Option Addr) (d4 : Nat), val 21 = .slice b4 n4 d4 ∧ G 21 = rowG 3 1 (.slice b4 n4 d4) (n4) (vals (bs))
  | 22 => ∃ (b1 : Option Addr) (d1 : Nat) (e2 : Option Addr) (f2 : Nat) (e3 : Option Addr) (f3 : Nat) (b4 : Option Addr) (d4 : Nat), val 22 = .agg #[.int .i64 R, .slice b1 (k + 1 + (n1 - (k + 2))) d1, .slice e2 ((k + 1) + (n2 - (k + 2))) f2, .slice e3 ((k + 1) + (n3 - (k + 2))) f3, .slice b4 n4 d4] ∧ val 3 = .agg #[.int .i64 R, .slice b1 (k + 1 + (n1 - (k + 2))) d1] ∧ val 10 = .slice e2 ((k + 1) + (n2 - (k + 2))) f2 ∧ val 17 = .slice e3 ((k + 1) + (n3 - (k + 2))) f3 ∧ val 21 = .slice b4 n4 d4
  | 23 => ∃ (b1 : Option Addr) (d1 : Nat) (e2 : Option Addr) (f2 : Nat) (e3 : Option Addr) (f3 : Nat) (b4 : Option Addr) (d4 : Nat), val 22 = .agg #[.int .i64 R, .slice b1 (k + 1 + (n1 - (k + 2))) d1, .slice e2 ((k + 1) + (n2 - (k + 2))) f2, .slice e3 ((k + 1) + (n3 - (k + 2))) f3, .slice b4 n4 d4] ∧ G 23 = boxG (B + 1) 29 #[.int .i64 R, .slice b1 (k + 1 + (n1 - (k + 2))) d1, .slice e2 ((k + 1) + (n2 - (k + 2))) f2, .slice e3 ((k + 1) + (n3 - (k + 2))) f3, .slice b4 n4 d4]
  | _ => True
def SmMkGDep : Nat → List Nat
  | 1 => [0] | 3 => [1, 2] | 6 => [5] | 8 => [7] | 9 => [6, 8] | 10 => [4, 9] | 13 => [12] | 15 => [14] | 16 => [13, 15] | 17 => [11, 16] | 20 => [19] | 21 => [18, 20] | 22 => [3, 10, 17, 21] | 23 => [22] | _ => []
theorem SmMkG_local (R : Int) (g1 g2 g3 g4 n1 n2 n3 n4 c1 c2 c3 c4 k B : Nat) (xs : List C3) (ms ts bs : List Int) (m m2 t t2 lm tl : Int) (b2 b3 : Option Addr) (d2 d3 : Nat) (ml tr : List Int) : Local SmMkGDep (SmMkG R g1 g2 g3 g4 n1 n2 n3 n4 c1 c2 c3 c4 k B xs ms ts bs m m2 t t2 lm tl b2 b3 d2 d3 ml tr) := by
  intro val val' G G' j hk h
  match j with
  | 0 => exact (hk 0 (.inl rfl)).1.trans h
  | 1 => exact (hk 1 (.inl rfl)).1.trans h
  | 2 => exact (hk 2 (.inl rfl)).1.trans h
  | 3 => obtain ⟨b1, d1, h0, h1⟩ := h; exact ⟨b1, d1, (hk 3 (.inl rfl)).1.trans h0, (hk 3 (.inl rfl)).2.trans h1⟩
  | 4 => exact (hk 4 (.inl rfl)).1.trans h
  | 5 => exact (hk 5 (.inl rfl)).1.trans h
  | 6 => exact (hk 6 (.inl rfl)).1.trans h
  | 7 => exact (hk 7 (.inl rfl)).1.trans h
  | 8 => exact (hk 8 (.inl rfl)).1.trans h
  | 9 => exact (hk 9 (.inl rfl)).1.trans h
  | 10 => obtain ⟨e2, f2, h0, h1⟩ := h; exact ⟨e2, f2, (hk 10 (.inl rfl)).1.trans h0, (hk 10 (.inl rfl)).2.trans h1⟩
  | 11 => exact (hk 11 (.inl rfl)).1.trans h
  | 12 => exact (hk 12 (.inl rfl)).1.trans h
  | 13 => exact (hk 13 (.inl rfl)).1.trans h
  | 14 => exact (hk 14 (.inl rfl)).1.trans h
  | 15 => exact (hk 15 (.inl rfl)).1.trans h
  | 16 => exact (hk 16 (.inl rfl)).1.trans h
  | 17 => obtain ⟨e3, f3, h0, h1⟩ := h; exact ⟨e3, f3, (hk 17 (.inl rfl)).1.trans h0, (hk 17 (.inl rfl)).2.trans h1⟩
  | 18 => obtain ⟨be, h0⟩ := h; exact ⟨be, (hk 18 (.inl rfl)).1.trans h0⟩
  | 19 => exact (hk 19 (.inl rfl)).1.trans h
  | 20 => exact (hk 20 (.inl rfl)).1.trans h
  | 21 => obtain ⟨b4, d4, h0, h1⟩ := h; exact ⟨b4, d4, (hk 21 (.inl rfl)).1.trans h0, (hk 21 (.inl rfl)).2.trans h1⟩
  | 22 => obtain ⟨b1, d1, e2, f2, e3, f3, b4, d4, h0, h1, h2, h3, h4⟩ := h; exact ⟨b1, d1, e2, f2, e3, f3, b4, d4, (hk 22 (.inl rfl)).1.trans h0, (hk 3 (.inr (by simp [SmMkGDep]))).1.trans h1, (hk 10 (.inr (by simp [SmMkGDep]))).1.trans h2, (hk 17 (.inr (by simp [SmMkGDep]))).1.trans h3, (hk 21 (.inr (by simp [SmMkGDep]))).1.trans h4⟩
  | 23 => obtain ⟨b1, d1, e2, f2, e3, f3, b4, d4, h0, h1⟩ := h; exact ⟨b1, d1, e2, f2, e3, f3, b4, d4, (hk 22 (.inr (by simp [SmMkGDep]))).1.trans h0, (hk 23 (.inl rfl)).2.trans h1⟩
  | _ + 24 => trivial
end Go.Proofs.Ytfoilfgiablleaa.State
