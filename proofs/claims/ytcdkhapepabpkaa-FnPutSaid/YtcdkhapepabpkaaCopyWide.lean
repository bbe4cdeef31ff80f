/- 'copy(dst, src)' of elements of any width into a row that is known whole; the row behind it, for two copies one behind the other. Plain lemmas.
   Conditions: none. -/
import Derived.Test.YtcdkhapepabpkaaMBox
import Derived.Laws.CopyOwn
import Derived.Lib.AppendZerosOnto
import Derived.Laws.NewBlocks
set_option maxRecDepth 100000
namespace Go.Proofs.Ytcdkhapepabpkaa.Mesh
open Go.ChangeShapes Go.WideShapes Go.ChangeAt Go.RowKit Go.Proofs.Ytcdkhapepabpkaa.Cell

theorem copy_wide {P : Program} (w : World) (dT sT ty elem : TypeId) (g o dLen dCap : Nat) (a : Addr) (sLen sCap : Nat) (cur : List Value) (t : TypeId) (cs : List Value) (i : TypeInfo)
    (hu : P.underlying dT = some (.slice elem)) (hi : P.info? elem = some i) (hg : w.heap[g]? = some (.cells cur.toArray t (0, 0))) (hn : cs.length = Nat.min sLen dLen * i.size)
    (hsrc : ∀ j v, cs[j]? = some v → w.cell? (a.add j) = some v) (hfit : o + cs.length ≤ cur.length) (h1 : ∀ v ∈ cs, v.oneCell' = true) :
    (Builtin.copy_ #[dT, sT] ty #[.slice (some ⟨g, o, none⟩) dLen dCap, .slice (some a) sLen sCap]).run P w = .ok (goInt (Nat.min sLen dLen)) (w.setRow g (splice cur o cs).toArray) := by
  have hl := run_loadCells_list (P := P) w a cs hsrc
  have hst := run_storeCells_at P g o t cs 0 cur.toArray w hg (by simpa using hfit) h1
  simp [Builtin.copy_, run_underlying hu, Builtin.lenOf, Builtin.firstCells, sizeOf, typeInfo, hi, ← hn, hl, hst, splice]

theorem wpList_copy_wide {P : Program} {w : World} {ops : Array Oper} {rest : List Oper} {o : Oper} {a : Act} {Q : Exit → Act → World → Prop} (hgd : o.guard = none) (d s : Operand) (dT sT : TypeId)
    (ho : o.op = .call { callee := .builtin .copy, args := #[d, s], argTypes := #[dT, sT] }) (v u : Value) (hd : a.eval d = v) (hs : a.eval s = u) {v' : Value} {w' : World}
    (hr : (Builtin.copy_ #[dT, sT] o.type #[v, u]).run P w = .ok v' w') (h : wpList P ops Q rest (a.put o.dst v') w') : wpList P ops Q (o :: rest) a w := by
  refine wpList_plain hgd fun K hK => ?_
  unfold Oper.wp
  simp [execOp, ho, resolve, invoke, builtin, hd, hs, hr, Result.andThen]
  exact hK _ _ h

theorem step_copy_wide {P : Program} {ops : Array Oper} {o : Oper} {a : Act} {w : World} {K : Act → World → Prop} {Q : Exit → Act → World → Prop} {E : Prop}
    (hg : o.guard = none) (d x : Operand) (dT sT : TypeId) (hop : o.op = Op.call { callee := Callee.builtin Builtin.copy, args := #[d, x], argTypes := #[dT, sT] })
    (v u : Value) (hd : a.eval d = v) (hx : a.eval x = u) {v' : Value} {w' : World} (hr : (Builtin.copy_ #[dT, sT] o.type #[v, u]).run P w = .ok v' w') (hK : K (a.put o.dst v') w') :
    if Region.wanted o (yielded ops a.tmps) = true then Oper.wp P o a w K Q else E := by
  have hw : Region.wanted o (yielded ops a.tmps) = true := by simp [Region.wanted, hg]
  rw [if_pos hw]
  unfold Oper.wp
  simp [execOp, hop, resolve, invoke, builtin, hd, hx, hr, Result.andThen]
  exact hK

/-- Two copies one behind the other: first the front part, then the back part. -/
theorem splice_front_back {α : Type} (L V T : List α) (o : Nat) (h : o + V.length + T.length ≤ L.length) :
    ((splice (splice L o V) (o + V.length) T).take (o + V.length + T.length)) = L.take o ++ V ++ T := by
  have ho : (L.take o).length = o := by rw [List.length_take]; omega
  have e1 : (splice L o V).take (o + V.length) = L.take o ++ V := by
    unfold splice
    rw [← List.append_assoc, List.take_append_of_le_length (by simp; omega), List.take_of_length_le (by simp; omega)]
  rw [splice, e1, ← List.append_assoc, List.take_append_of_le_length (by simp; omega), List.take_of_length_le (by simp; omega)]
/-- .. first the back part, then the front part. -/
theorem splice_back_front {α : Type} (L V T : List α) (o : Nat) (h : o + V.length + T.length ≤ L.length) :
    ((splice (splice L (o + V.length) T) o V).take (o + V.length + T.length)) = L.take o ++ V ++ T := by
  have ho : (L.take o).length = o := by rw [List.length_take]; omega
  have hp : (L.take (o + V.length)).length = o + V.length := by rw [List.length_take]; omega
  have e1 : (splice L (o + V.length) T).take o = L.take o := by
    unfold splice
    rw [List.take_append_of_le_length (by omega), List.take_take]
    congr 1
    omega
  have e2 : (splice L (o + V.length) T).drop (o + V.length) = T ++ L.drop (o + V.length + T.length) := by
    unfold splice
    rw [List.drop_append_of_le_length (by omega), List.drop_of_length_le (by omega), List.nil_append]
  rw [splice, e1, e2, ← List.append_assoc, ← List.append_assoc, List.take_append_of_le_length (by simp; omega), List.take_of_length_le (by simp; omega)]
theorem flatC_append (xs ys : List C3) : flatC (xs ++ ys) = flatC xs ++ flatC ys := by simp [flatC]
theorem flatC_take (xs : List C3) : ∀ k, (flatC xs).take (k * 3) = flatC (xs.take k) := by
  induction xs with
  | nil => intro k; simp [flatC]
  | cons x xs ih =>
    intro k
    cases k with
    | zero => simp [flatC]
    | succ k => 
      rw [List.take_succ_cons, show (k + 1) * 3 = k * 3 + 1 + 1 + 1 by omega]
      simp only [flatC, List.flatMap_cons, List.cons_append, List.nil_append, List.take_succ_cons] at ih ⊢
      rw [ih k]
theorem flatC_drop (xs : List C3) : ∀ k, (flatC xs).drop (k * 3) = flatC (xs.drop k) := by
  induction xs with
  | nil => intro k; simp [flatC]
  | cons x xs ih =>
    intro k
    cases k with
    | zero => simp [flatC]
    | succ k => 
      rw [List.drop_succ_cons, show (k + 1) * 3 = k * 3 + 1 + 1 + 1 by omega]
      simp only [flatC, List.flatMap_cons, List.cons_append, List.nil_append, List.drop_succ_cons] at ih ⊢
      rw [ih k]
theorem flatC_one (xs : List C3) : ∀ v ∈ flatC xs, v.oneCell' = true := by
  intro v hv
  simp only [flatC, List.mem_flatMap] at hv
  obtain ⟨x, -, hx⟩ := hv
  simp only [List.mem_cons, List.not_mem_nil, or_false] at hx
  rcases hx with rfl | rfl | rfl <;> rfl
theorem take_of_take {α : Type} {l m : List α} {a : Nat} (h : l.take a = m) (b : Nat) (hb : b ≤ a) : l.take b = m.take b := by
  rw [← h, List.take_take, Nat.min_eq_left hb]
end Go.Proofs.Ytcdkhapepabpkaa.Mesh
