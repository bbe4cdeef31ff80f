/- A region that draws its order, by an invariant that speaks of which operations have come up: each operation is looked at once, whatever the order. Plain lemmas.
   Conditions: none. -/
import Derived.Orders
set_option maxRecDepth 100000
namespace Go.Proofs.Ytcdkhapepabpkaa.Draws
open Go

section
variable {P : Program} {ops : Array Oper} {Q : Exit → Act → World → Prop}
theorem count_less {l : Array Bool} {i : Nat} (h : l.getD i true = false) : (l.setIfInBounds i true).toList.count false + 1 = l.toList.count false := by
  obtain ⟨l⟩ := l
  have hi : i < l.length := by
    rcases Nat.lt_or_ge i l.length with h' | h'
    · exact h'
    · simp [Array.getD, Nat.not_lt.2 h'] at h
  have hv : l[i] = false := by simpa [Array.getD, hi] using h
  have hmem : 0 < l.count false := List.count_pos_iff.2 (hv ▸ List.getElem_mem hi)
  have e : (List.set l i true).count false = l.count false - 1 := by rw [List.count_set (h := hi)]; simp [hv]
  simp only [List.setIfInBounds_toArray]
  rw [e]
  omega
theorem getD_same {l : Array Bool} {i : Nat} (h : l.getD i true = false) (j : Nat) : (l.setIfInBounds i true).getD j false = if j = i then true else l.getD j false := by
  obtain ⟨l⟩ := l
  have hi : i < l.length := by
    rcases Nat.lt_or_ge i l.length with h' | h'
    · exact h'
    · simp [Array.getD, Nat.not_lt.2 h'] at h
  by_cases e : j = i
  · subst e; simp [Array.getD, hi]
  · rw [if_neg e]; exact getD_set_ne false (Ne.symm e)
theorem getD_no {l : Array Bool} {i : Nat} (h : l.getD i true = false) : l.getD i false = false := by
  unfold Array.getD at h ⊢
  split at h
  · rename_i hi; simp [hi]; exact h
  · cases h
theorem not_ready {listed : Array Bool} (hs : listed.size = ops.size) (hback : ∀ i o, ops[i]? = some o → ∀ e ∈ o.after, Region.binds .any e = true → e.on < i) (hr : Region.ready .any ops listed = []) : ∀ i, i < ops.size → listed.getD i false = true := by
  intro i
  induction i using Nat.strongRecOn with
  | ind i ih =>
    intro hi
    cases hv : listed.getD i false with
    | true => rfl
    | false =>
      have hm : i ∈ Region.ready .any ops listed := mem_ready.2 ⟨by
        unfold Array.getD at hv ⊢
        rw [dif_pos (by omega)] at hv ⊢
        exact hv, ops[i], Array.getElem?_eq_getElem hi, fun e he hb => by
          have hlt := hback i _ (Array.getElem?_eq_getElem hi) e he hb
          exact ih e.on hlt (by omega)⟩
      rw [hr] at hm
      cases hm
theorem wpAny_inv (I : (Nat → Bool) → Act → World → Prop)
    (hback : ∀ i o, ops[i]? = some o → ∀ e ∈ o.after, Region.binds .any e = true → e.on < i)
    (hstep : ∀ L a w i o, I L a w → ops[i]? = some o → L i = false → (∀ e ∈ o.after, Region.binds .any e = true → L e.on = true) → wpOp P ops Q i (I (fun j => if j = i then true else L j)) a w)
    (hend : ∀ L a w, I L a w → (∀ i, i < ops.size → L i = true) → Q .normal a w) :
    ∀ (fuel : Nat) (listed : Array Bool) (a : Act) (w : World), listed.size = ops.size → listed.toList.count false ≤ fuel → I (fun j => listed.getD j false) a w → wpAny P .any ops Q fuel listed a w := by
  intro fuel
  induction fuel with
  | zero =>
    intro listed a w hs hc hI
    have hr : Region.ready .any ops listed = [] := by
      cases hr : Region.ready .any ops listed with
      | nil => rfl
      | cons i is =>
        have := count_less (mem_ready.1 (show i ∈ Region.ready .any ops listed by rw [hr]; exact List.mem_cons_self ..)).1
        omega
    exact ⟨hr, hend _ a w hI (not_ready hs hback hr)⟩
  | succ fuel ih =>
    intro listed a w hs hc hI
    refine ⟨fun hr => hend _ a w hI (not_ready hs hback hr), fun i hi => ?_⟩
    obtain ⟨h0, o, ho, hd⟩ := mem_ready.1 hi
    refine wpOp_mono (fun a' w' hI' => ?_) (hstep _ a w i o hI ho (getD_no h0) hd)
    refine ih (listed.setIfInBounds i true) a' w' (by simpa using hs) (by have := count_less h0; omega) ?_
    rw [show (fun j => (listed.setIfInBounds i true).getD j false) = fun j => if j = i then true else listed.getD j false from funext (getD_same h0)]
    exact hI'
/-- Every edge points back. -/
def backB (ops : Array Oper) : Bool := (List.range ops.size).all fun i => ((ops[i]?).map fun o => o.after.all fun e => decide (e.on < i)).getD true
theorem back_of (h : backB ops = true) : ∀ i o, ops[i]? = some o → ∀ e ∈ o.after, Region.binds .any e = true → e.on < i := by
  intro i o ho e he _
  have hi := (Array.getElem?_eq_some_iff.1 ho).1
  have h1 := List.all_eq_true.1 h i (List.mem_range.2 hi)
  rw [ho] at h1
  simp only [Option.map_some, Option.getD_some] at h1
  exact of_decide_eq_true (Array.all_eq_true_iff_forall_mem.1 h1 e he)
/-- The whole region. -/
theorem wp_region_inv {id : Nat} {a : Act} {w : World} (hm : P.follows .mixedOrders = true) (hback : backB ops = true) (I : (Nat → Bool) → Act → World → Prop)
    (hstart : I (fun _ => false) a { w with drawn := w.drawn + 1 })
    (hstep : ∀ L a w i o, I L a w → ops[i]? = some o → L i = false → (∀ e ∈ o.after, Region.binds .any e = true → L e.on = true) → wpOp P ops Q i (I (fun j => if j = i then true else L j)) a w)
    (hend : ∀ L a w, I L a w → (∀ i, i < ops.size → L i = true) → Q .normal a w) : (Code.region id ops true).wp P Q a w := by
  refine wp_region_any hm (wpAny_inv I (back_of hback) hstep hend _ _ _ _ (by simp) ?_ ?_)
  · refine Nat.le_trans List.count_le_length (by simp)
  · rw [show (fun j => (Array.replicate ops.size false).getD j false) = fun _ => false from funext fun j => by
      unfold Array.getD
      split <;> simp]
    exact hstart
theorem wpOp_of {i : Nat} {o : Oper} {K : Act → World → Prop} {a : Act} {w : World} (hi : ops[i]? = some o) (hg : o.guard = none) (h : o.wp P a w K Q) : wpOp P ops Q i K a w := by
  unfold wpOp
  rw [hi]
  simp only [Region.wanted, hg, if_true]
  exact .inl h
/-- A slot that is known, behind a put. -/
theorem put_at {a : Act} {d : Nat} {v : Value} (h : d < a.tmps.size) : (a.put (some d) v).tmps[d]? = some v := by simp [Act.put, h]
theorem put_off {a : Act} {d j : Nat} {v : Value} (h : j ≠ d) : (a.put (some d) v).tmps[j]? = a.tmps[j]? := by
  simp only [Act.put]; exact Array.getElem?_setIfInBounds_ne (Ne.symm h)
theorem put_size {a : Act} {d : Option Nat} {v : Value} : (a.put d v).tmps.size = a.tmps.size := by cases d <;> simp [Act.put]
theorem put_defers {a : Act} {d : Option Nat} {v : Value} : (a.put d v).defers = a.defers := by cases d <;> rfl
theorem eval_of {a : Act} {j : Nat} {v : Value} (h : a.tmps[j]? = some v) : a.eval (.tmp j) = v := by
  simp only [Act.eval, Array.getD_eq_getD_getElem?, h, Option.getD_some]
/-- What a slot holds. -/
def At (a : Act) (j : Nat) (v : Value) : Prop := a.tmps[j]? = some v
theorem At.ev {a : Act} {j : Nat} {v : Value} (h : At a j v) : a.eval (.tmp j) = v := eval_of h
theorem At.get {a : Act} {j : Nat} {v : Value} (h : At a j v) : a.tmps[j]?.getD undef = v := by rw [show a.tmps[j]? = some v from h]; rfl
theorem At.off {a : Act} {j d : Nat} {v u : Value} (h : At a j v) (hne : j ≠ d) : At (a.put (some d) u) j v := (put_off hne).trans h
theorem At.here {a : Act} {d : Nat} {u : Value} (h : d < a.tmps.size) : At (a.put (some d) u) d u := put_at h
theorem At.none {a : Act} {j : Nat} {v u : Value} (h : At a j v) : At (a.put Option.none u) j v := h
end
end Go.Proofs.Ytcdkhapepabpkaa.Draws
