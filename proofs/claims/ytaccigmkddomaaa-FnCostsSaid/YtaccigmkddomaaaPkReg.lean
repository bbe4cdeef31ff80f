/- A region that draws its order, by an invariant that speaks of which operations have come up: each operation is looked at once, whatever the order. Plain lemmas. A region that draws its order, by a table: each operation has its slot, its value and, if it makes memory, its group of blocks; each operation is looked at once, whatever the order. Plain lemmas. A region that draws its order, by a table: operations behind a guard that is met; an operation that turns a group that the region itself has made. The edges that bind nothing left aside. Plain lemmas. A region that draws its order, by a table: what an operation leaves may speak of an operation behind it, that turns its group. Plain lemmas.
   Conditions: as each says. -/
import Derived.Orders
import Derived.Test.YtaccigmkddomaaaHeld
import Derived.Deep.DrawnRows
set_option maxRecDepth 100000
namespace Go.Proofs.Ytaccigmkddomaaa.Draws
open Go

section
variable {P : Program} {ops : Array Oper} {Q : Exit → Act → World → Prop}
theorem count_less {l : Array Bool} {i : Nat} (h : l.getD i true = false) : (l.setIfInBounds i true).toList.count false + 1 = l.toList.count false := by
  obtain ⟨l⟩ := l
  have hi : i < l.length := by
    rcases Nat.lt_or_ge i l.length with h' | h'
    · exact h'
    · simp [Array.getD, Nat.not_lt.2 h'] at h
  have hv : l[i] = false := by simpa [Array.getD, hi] using h
  have hmem : 0 < l.count false := List.count_pos_iff.2 (hv ▸ List.getElem_mem hi)
  have e : (List.set l i true).count false = l.count false - 1 := by rw [List.count_set (h := hi)]; simp [hv]
  simp only [List.setIfInBounds_toArray]
  rw [e]
  omega
theorem getD_same {l : Array Bool} {i : Nat} (h : l.getD i true = false) (j : Nat) : (l.setIfInBounds i true).getD j false = if j = i then true else l.getD j false := by
  obtain ⟨l⟩ := l
  have hi : i < l.length := by
    rcases Nat.lt_or_ge i l.length with h' | h'
    · exact h'
    · simp [Array.getD, Nat.not_lt.2 h'] at h
  by_cases e : j = i
  · subst e; simp [Array.getD, hi]
  · rw [if_neg e]; exact getD_set_ne false (Ne.symm e)
theorem getD_no {l : Array Bool} {i : Nat} (h : l.getD i true = false) : l.getD i false = false := by
  unfold Array.getD at h ⊢
  split at h
  · rename_i hi; simp [hi]; exact h
  · cases h
theorem not_ready {listed : Array Bool} (hs : listed.size = ops.size) (hback : ∀ i o, ops[i]? = some o → ∀ e ∈ o.after, Region.binds .any e = true → e.on < i) (hr : Region.ready .any ops listed = []) : ∀ i, i < ops.size → listed.getD i false = true := by
  intro i
  induction i using Nat.strongRecOn with
  | ind i ih =>
    intro hi
    cases hv : listed.getD i false with
    | true => rfl
    | false =>
      have hm : i ∈ Region.ready .any ops listed := mem_ready.2 ⟨by
        unfold Array.getD at hv ⊢
        rw [dif_pos (by omega)] at hv ⊢
        exact hv, ops[i], Array.getElem?_eq_getElem hi, fun e he hb => by
          have hlt := hback i _ (Array.getElem?_eq_getElem hi) e he hb
          exact ih e.on hlt (by omega)⟩
      rw [hr] at hm
      cases hm
theorem wpAny_inv (I : (Nat → Bool) → Act → World → Prop)
    (hback : ∀ i o, ops[i]? = some o → ∀ e ∈ o.after, Region.binds .any e = true → e.on < i)
    (hstep : ∀ L a w i o, I L a w → ops[i]? = some o → L i = false → (∀ e ∈ o.after, Region.binds .any e = true → L e.on = true) → wpOp P ops Q i (I (fun j => if j = i then true else L j)) a w)
    (hend : ∀ L a w, I L a w → (∀ i, i < ops.size → L i = true) → Q .normal a w) :
    ∀ (fuel : Nat) (listed : Array Bool) (a : Act) (w : World), listed.size = ops.size → listed.toList.count false ≤ fuel → I (fun j => listed.getD j false) a w → wpAny P .any ops Q fuel listed a w := by
  intro fuel
  induction fuel with
  | zero =>
    intro listed a w hs hc hI
    have hr : Region.ready .any ops listed = [] := by
      cases hr : Region.ready .any ops listed with
      | nil => rfl
      | cons i is =>
        have := count_less (mem_ready.1 (show i ∈ Region.ready .any ops listed by rw [hr]; exact List.mem_cons_self ..)).1
        omega
    exact ⟨hr, hend _ a w hI (not_ready hs hback hr)⟩
  | succ fuel ih =>
    intro listed a w hs hc hI
    refine ⟨fun hr => hend _ a w hI (not_ready hs hback hr), fun i hi => ?_⟩
    obtain ⟨h0, o, ho, hd⟩ := mem_ready.1 hi
    refine wpOp_mono (fun a' w' hI' => ?_) (hstep _ a w i o hI ho (getD_no h0) hd)
    refine ih (listed.setIfInBounds i true) a' w' (by simpa using hs) (by have := count_less h0; omega) ?_
    rw [show (fun j => (listed.setIfInBounds i true).getD j false) = fun j => if j = i then true else listed.getD j false from funext (getD_same h0)]
    exact hI'
/-- Every edge points back. -/
def backB (ops : Array Oper) : Bool := (List.range ops.size).all fun i => ((ops[i]?).map fun o => o.after.all fun e => decide (e.on < i)).getD true
theorem back_of (h : backB ops = true) : ∀ i o, ops[i]? = some o → ∀ e ∈ o.after, Region.binds .any e = true → e.on < i := by
  intro i o ho e he _
  have hi := (Array.getElem?_eq_some_iff.1 ho).1
  have h1 := List.all_eq_true.1 h i (List.mem_range.2 hi)
  rw [ho] at h1
  simp only [Option.map_some, Option.getD_some] at h1
  exact of_decide_eq_true (Array.all_eq_true_iff_forall_mem.1 h1 e he)
/-- The whole region. -/
theorem wp_region_inv {id : Nat} {a : Act} {w : World} (hm : P.follows .mixedOrders = true) (hback : backB ops = true) (I : (Nat → Bool) → Act → World → Prop)
    (hstart : I (fun _ => false) a { w with drawn := w.drawn + 1 })
    (hstep : ∀ L a w i o, I L a w → ops[i]? = some o → L i = false → (∀ e ∈ o.after, Region.binds .any e = true → L e.on = true) → wpOp P ops Q i (I (fun j => if j = i then true else L j)) a w)
    (hend : ∀ L a w, I L a w → (∀ i, i < ops.size → L i = true) → Q .normal a w) : (Code.region id ops true).wp P Q a w := by
  refine wp_region_any hm (wpAny_inv I (back_of hback) hstep hend _ _ _ _ (by simp) ?_ ?_)
  · refine Nat.le_trans List.count_le_length (by simp)
  · rw [show (fun j => (Array.replicate ops.size false).getD j false) = fun _ => false from funext fun j => by
      unfold Array.getD
      split <;> simp]
    exact hstart
theorem wpOp_of {i : Nat} {o : Oper} {K : Act → World → Prop} {a : Act} {w : World} (hi : ops[i]? = some o) (hg : o.guard = none) (h : o.wp P a w K Q) : wpOp P ops Q i K a w := by
  unfold wpOp
  rw [hi]
  simp only [Region.wanted, hg, if_true]
  exact .inl h
/-- A slot that is known, behind a put. -/
theorem put_at {a : Act} {d : Nat} {v : Value} (h : d < a.tmps.size) : (a.put (some d) v).tmps[d]? = some v := by simp [Act.put, h]
theorem put_off {a : Act} {d j : Nat} {v : Value} (h : j ≠ d) : (a.put (some d) v).tmps[j]? = a.tmps[j]? := by
  simp only [Act.put]; exact Array.getElem?_setIfInBounds_ne (Ne.symm h)
theorem put_size {a : Act} {d : Option Nat} {v : Value} : (a.put d v).tmps.size = a.tmps.size := by cases d <;> simp [Act.put]
theorem put_defers {a : Act} {d : Option Nat} {v : Value} : (a.put d v).defers = a.defers := by cases d <;> rfl
theorem eval_of {a : Act} {j : Nat} {v : Value} (h : a.tmps[j]? = some v) : a.eval (.tmp j) = v := by
  simp only [Act.eval, Array.getD_eq_getD_getElem?, h, Option.getD_some]
/-- What a slot holds. -/
def At (a : Act) (j : Nat) (v : Value) : Prop := a.tmps[j]? = some v
theorem At.ev {a : Act} {j : Nat} {v : Value} (h : At a j v) : a.eval (.tmp j) = v := eval_of h
theorem At.get {a : Act} {j : Nat} {v : Value} (h : At a j v) : a.tmps[j]?.getD undef = v := by rw [show a.tmps[j]? = some v from h]; rfl
theorem At.off {a : Act} {j d : Nat} {v u : Value} (h : At a j v) (hne : j ≠ d) : At (a.put (some d) u) j v := (put_off hne).trans h
theorem At.here {a : Act} {d : Nat} {u : Value} (h : d < a.tmps.size) : At (a.put (some d) u) d u := put_at h
theorem At.none {a : Act} {j : Nat} {v u : Value} (h : At a j v) : At (a.put Option.none u) j v := h
end
end Go.Proofs.Ytaccigmkddomaaa.Draws

namespace Go.Proofs.Ytaccigmkddomaaa.Draws
open Go Go.ChangeShapes Go.WideShapes Go.ChangeAt Go.RowKit Go.Proofs.Ytaccigmkddomaaa.Law

/-- f, but v at i. -/
def upd {α : Type} (f : Nat → α) (i : Nat) (v : α) : Nat → α := fun j => if j = i then v else f j
theorem upd_at {α : Type} (f : Nat → α) (i : Nat) (v : α) : upd f i v i = v := by simp [upd]
theorem upd_off {α : Type} (f : Nat → α) {i j : Nat} (v : α) (h : j ≠ i) : upd f i v j = f j := by simp [upd, h]
/-- An operation's slot. -/
def slotOf (ops : Array Oper) (j : Nat) : Option Nat := (ops[j]?).bind Oper.dst
/-- The slots are in range and differ. -/
def dstB (ops : Array Oper) (N : Nat) : Bool := (List.range ops.size).all fun j => match slotOf ops j with
  | none => true
  | some d => decide (d < N) && (List.range ops.size).all fun k => decide (k = j) || !decide (slotOf ops k = some d)
/-- What operation j speaks of has come up before it. -/
def depsB (ops : Array Oper) (dep : Nat → List Nat) : Bool := (List.range ops.size).all fun j => (dep j).all fun k => ((ops[j]?).map fun o => o.after.any fun e => decide (e.on = k) && Region.binds .any e).getD false
def Local (dep : Nat → List Nat) (Good : (Nat → Value) → (Nat → Grp) → Nat → Prop) : Prop :=
  ∀ (val val' : Nat → Value) (G G' : Nat → Grp) (j : Nat), (∀ k, k = j ∨ k ∈ dep j → val' k = val k ∧ G' k = G k) → Good val G j → Good val' G' j

structure TabI (ops : Array Oper) (dep : Nat → List Nat) (a0 : Act) (w : World) (gs0 : List Grp) (mk : List Nat) (G0 : Nat → Grp) (Good : (Nat → Value) → (Nat → Grp) → Nat → Prop) (L : Nat → Bool) (a : Act) (W : World) (val : Nat → Value) (G : Nat → Grp) : Prop where
  sz : a.tmps.size = a0.tmps.size
  df : a.defers = a0.defers
  fr : ∀ d, (∀ j, slotOf ops j = some d → L j = false) → a.tmps[d]? = a0.tmps[d]?
  at_ : ∀ j d, slotOf ops j = some d → L j = true → At a d (val j)
  cl : ∀ j k, L j = true → k ∈ dep j → L k = true
  lt : ∀ j, L j = true → j < ops.size
  no : ∀ j, L j = false → G j = G0 j
  gd : ∀ j, L j = true → Good val G j
  hd : Held w W (gs0 ++ mk.map G)
  nv : ∀ j, L j = false → val j = undef

section
variable {P : Program} {ops : Array Oper} {Q : Exit → Act → World → Prop} {dep : Nat → List Nat} {a0 a : Act} {w W : World} {gs0 : List Grp} {mk : List Nat} {G0 G : Nat → Grp} {Good : (Nat → Value) → (Nat → Grp) → Nat → Prop} {L : Nat → Bool} {val : Nat → Value}
theorem slot_lt {N : Nat} (h : dstB ops N = true) {j d : Nat} (hj : slotOf ops j = some d) : d < N ∧ ∀ k, slotOf ops k = some d → k = j := by
  have hjs : j < ops.size := by
    unfold slotOf at hj
    cases e : ops[j]? with
    | none => rw [e] at hj; cases hj
    | some o => exact (Array.getElem?_eq_some_iff.1 e).1
  have h1 := List.all_eq_true.1 h j (List.mem_range.2 hjs)
  rw [hj] at h1
  simp only [Bool.and_eq_true, decide_eq_true_eq] at h1
  refine ⟨h1.1, fun k hk => ?_⟩
  have hks : k < ops.size := by
    unfold slotOf at hk
    cases e : ops[k]? with
    | none => rw [e] at hk; cases hk
    | some o => exact (Array.getElem?_eq_some_iff.1 e).1
  have h2 := List.all_eq_true.1 h1.2 k (List.mem_range.2 hks)
  simp only [Bool.or_eq_true, decide_eq_true_eq, Bool.not_eq_true', decide_eq_false_iff_not] at h2
  rcases h2 with h2 | h2
  · exact h2
  · exact absurd hk h2
theorem deps_bind (h : depsB ops dep = true) {i k : Nat} {o : Oper} (ho : ops[i]? = some o) (hk : k ∈ dep i) : ∃ e ∈ o.after, Region.binds .any e = true ∧ e.on = k := by
  have hi := (Array.getElem?_eq_some_iff.1 ho).1
  have h1 := List.all_eq_true.1 (List.all_eq_true.1 h i (List.mem_range.2 hi)) k hk
  rw [ho] at h1
  simp only [Option.map_some, Option.getD_some, Array.any_eq_true'] at h1
  obtain ⟨e, he, h2⟩ := h1
  simp only [Bool.and_eq_true, decide_eq_true_eq] at h2
  exact ⟨e, he, h2.2, h2.1⟩
/-- What stood stands on. -/
theorem TabI.keep (hI : TabI ops dep a0 w gs0 mk G0 Good L a W val G) (hloc : Local dep Good) {i : Nat} (hL : L i = false) (v : Value) {G' : Nat → Grp} (hG : ∀ j, j ≠ i → L j = true → G' j = G j) : ∀ j, j ≠ i → L j = true → Good (upd val i v) G' j := by
  intro j hj hl
  refine hloc val _ G _ j (fun k hk => ?_) (hI.gd j hl)
  have hlk : L k = true := by
    rcases hk with rfl | hk
    · exact hl
    · exact hI.cl j k hl hk
  have hki : k ≠ i := fun e => by rw [e, hL] at hlk; cases hlk
  exact ⟨upd_off _ _ hki, hG k hki hlk⟩
/-- What an operation leaves. -/
def TabStep (w : World) (gs0 : List Grp) (mk : List Nat) (Good : (Nat → Value) → (Nat → Grp) → Nat → Prop) (L : Nat → Bool) (val : Nat → Value) (G : Nat → Grp) (a : Act) (i : Nat) (dst : Option Nat) (a' : Act) (W' : World) : Prop :=
  ∃ v G', a' = a.put dst v ∧ Held w W' (gs0 ++ mk.map G') ∧ (∀ j, j ≠ i → L j = false → G' j = G j) ∧ Good (upd val i v) G' i ∧ (∀ j, j ≠ i → L j = true → Good (upd val i v) G' j)
/-- An operation that makes nothing. -/
theorem TabI.same (hI : TabI ops dep a0 w gs0 mk G0 Good L a W val G) (hloc : Local dep Good) {i : Nat} (hL : L i = false) (dst : Option Nat) (v : Value) {W' : World} (hg : W.grownBy W' none) (hgd : Good (upd val i v) G i) : TabStep w gs0 mk Good L val G a i dst (a.put dst v) W' :=
  ⟨v, G, rfl, hI.hd.on hg, fun _ _ _ => rfl, hgd, hI.keep hloc hL v fun _ _ _ => rfl⟩
/-- An operation that makes a group of its own. -/
theorem TabI.made (hI : TabI ops dep a0 w gs0 mk G0 Good L a W val G) (hloc : Local dep Good) {i : Nat} (hL : L i = false) (dst : Option Nat) (v : Value) (g : Grp) {W' : World} (hh : Held w W' (gs0 ++ mk.map (upd G i g))) (hgd : Good (upd val i v) (upd G i g) i) : TabStep w gs0 mk Good L val G a i dst (a.put dst v) W' :=
  ⟨v, upd G i g, rfl, hh, fun _ hj _ => upd_off _ _ hj, hgd, hI.keep hloc hL v fun _ hj _ => upd_off _ _ hj⟩

theorem wp_region_tab {id : Nat} {W0 : World} (hm : P.follows .mixedOrders = true) (hback : backB ops = true) (hdst : dstB ops a0.tmps.size = true) (dep : Nat → List Nat) (hdep : depsB ops dep = true)
    (gs0 : List Grp) (mk : List Nat) (G0 : Nat → Grp) (Good : (Nat → Value) → (Nat → Grp) → Nat → Prop)
    (hstart : Held w { W0 with drawn := W0.drawn + 1 } (gs0 ++ mk.map G0))
    (hstep : ∀ L a W val G i o, TabI ops dep a0 w gs0 mk G0 Good L a W val G → ops[i]? = some o → L i = false → (∀ j, j ∈ dep i → L j = true) → wpOp P ops Q i (TabStep w gs0 mk Good L val G a i o.dst) a W)
    (hend : ∀ L a W val G, TabI ops dep a0 w gs0 mk G0 Good L a W val G → (∀ i, i < ops.size → L i = true) → Q .normal a W) :
    (Code.region id ops true).wp P Q a0 W0 := by
  refine wp_region_inv hm hback (fun L a W => ∃ val G, TabI ops dep a0 w gs0 mk G0 Good L a W val G) ?_ ?_ ?_
  · exact ⟨fun _ => undef, G0, rfl, rfl, fun _ _ => rfl, (fun _ _ _ h => nomatch h), (fun _ _ h => nomatch h), (fun _ h => nomatch h), fun _ _ => rfl, (fun _ h => nomatch h), hstart, fun _ _ => rfl⟩
  · rintro L a W i o ⟨val, G, hI⟩ ho hL hd
    have hdi : ∀ j, j ∈ dep i → L j = true := fun j hj => by
      obtain ⟨e, he, hb, rfl⟩ := deps_bind hdep ho hj
      exact hd e he hb
    refine wpOp_mono (fun a' W' hs => ?_) (hstep L a W val G i o hI ho hL hdi)
    obtain ⟨v, G', rfl, hH, hn, hgi, hgj⟩ := hs
    have hsl : slotOf ops i = o.dst := by unfold slotOf; rw [ho]; rfl
    refine ⟨upd val i v, G', ?_, ?_, ?_, ?_, ?_, ?_, ?_, ?_, hH, ?_⟩
    · rw [put_size]; exact hI.sz
    · rw [put_defers]; exact hI.df
    · intro d hd'
      have hfr := hI.fr d fun j hj => by
        have h2 := hd' j hj
        by_cases hji : j = i
        · subst hji; simp at h2
        · simpa [hji] using h2
      rw [← hfr]
      cases hdst' : o.dst with
      | none => rfl
      | some e =>
        exact put_off fun h => by
          have h2 := hd' i (by rw [hsl, hdst', h])
          simp at h2
    · intro j d hj hl
      by_cases hji : j = i
      · subst hji
        rw [hsl] at hj
        rw [hj, upd_at]
        exact At.here (by rw [hI.sz]; exact (slot_lt hdst (hsl.trans hj)).1)
      · simp only [if_neg hji] at hl
        rw [upd_off _ _ hji]
        have := hI.at_ j d hj hl
        cases hdst' : o.dst with
        | none => exact this
        | some e => exact this.off fun h => hji ((slot_lt hdst (j := i) (d := e) (by rw [hsl, hdst'])).2 j (by rw [hj, h]))
    · intro j k hl hk
      by_cases hji : j = i
      · subst hji
        have := hdi k hk
        by_cases hkj : k = j <;> simp [hkj, this]
      · simp only [if_neg hji] at hl
        have := hI.cl j k hl hk
        by_cases hki : k = i <;> simp [hki, this]
    · intro j hl
      by_cases hji : j = i
      · subst hji; exact (Array.getElem?_eq_some_iff.1 ho).1
      · simp only [if_neg hji] at hl
        exact hI.lt j hl
    · intro j hl
      by_cases hji : j = i
      · subst hji; simp at hl
      · simp only [if_neg hji] at hl
        rw [hn j hji hl]; exact hI.no j hl
    · intro j hl
      by_cases hji : j = i
      · subst hji; exact hgi
      · simp only [if_neg hji] at hl
        exact hgj j hji hl
    · intro j hl
      by_cases hji : j = i
      · subst hji; simp at hl
      · simp only [if_neg hji] at hl
        rw [upd_off _ _ hji]; exact hI.nv j hl
  · rintro L a W ⟨val, G, hI⟩ hall
    exact hend L a W val G hI hall

/-- A group that the region leaves. -/
theorem TabI.stays (hI : TabI ops dep a0 w gs0 mk G0 Good L a W val G) (j : Nat) (h : ops.size ≤ j) : G j = G0 j := hI.no j (by
  cases hl : L j with
  | false => rfl
  | true => have := hI.lt j hl; omega)
/-- A slot that the region leaves. -/
def notB (ops : Array Oper) (d : Nat) : Bool := (List.range ops.size).all fun j => !decide (slotOf ops j = some d)
theorem not_slot {d : Nat} (h : notB ops d = true) (j : Nat) : slotOf ops j ≠ some d := by
  intro hj
  have hjs : j < ops.size := by
    unfold slotOf at hj
    cases e : ops[j]? with
    | none => rw [e] at hj; cases hj
    | some o => exact (Array.getElem?_eq_some_iff.1 e).1
  have h1 := List.all_eq_true.1 h j (List.mem_range.2 hjs)
  simp only [Bool.not_eq_true', decide_eq_false_iff_not] at h1
  exact h1 hj
theorem TabI.old (hI : TabI ops dep a0 w gs0 mk G0 Good L a W val G) (d : Nat) {v : Value} (h : notB ops d = true) (h0 : a0.tmps[d]? = some v) : At a d v := (hI.fr d fun j hj => absurd hj (not_slot h j)).trans h0

/-- A slot that one operation alone writes, and not yet. -/
def onlyB (ops : Array Oper) (d i : Nat) : Bool := (List.range ops.size).all fun j => decide (j = i) || !decide (slotOf ops j = some d)
theorem TabI.oldAt (hI : TabI ops dep a0 w gs0 mk G0 Good L a W val G) (d i : Nat) {v : Value} (h : onlyB ops d i = true) (hL : L i = false) (h0 : a0.tmps[d]? = some v) : At a d v :=
  (hI.fr d fun j hj => by
    have hjs : j < ops.size := by
      unfold slotOf at hj
      cases e : ops[j]? with
      | none => rw [e] at hj; cases hj
      | some o => exact (Array.getElem?_eq_some_iff.1 e).1
    have h1 := List.all_eq_true.1 h j (List.mem_range.2 hjs)
    simp only [Bool.or_eq_true, decide_eq_true_eq, Bool.not_eq_true', decide_eq_false_iff_not] at h1
    rcases h1 with h1 | h1
    · rw [h1]; exact hL
    · exact absurd hj h1).trans h0
/-- The frame behind the region: the values in the text's order. -/
def frameOf (ops : Array Oper) (val : Nat → Value) (a0 : Act) (n : Nat) : Act := (List.range n).foldl (fun a j => a.put (slotOf ops j) (val j)) a0
theorem frame_next (ops : Array Oper) (val : Nat → Value) (a0 : Act) (n : Nat) : frameOf ops val a0 (n + 1) = (frameOf ops val a0 n).put (slotOf ops n) (val n) := by
  unfold frameOf; rw [List.range_succ, List.foldl_append]; rfl
theorem frame_parts (ops : Array Oper) (val : Nat → Value) (a0 : Act) (hdst : dstB ops a0.tmps.size = true) (n : Nat) :
    (frameOf ops val a0 n).tmps.size = a0.tmps.size ∧ (frameOf ops val a0 n).defers = a0.defers ∧ (∀ d, (∀ j, j < n → slotOf ops j ≠ some d) → (frameOf ops val a0 n).tmps[d]? = a0.tmps[d]?) ∧ (∀ j d, j < n → slotOf ops j = some d → At (frameOf ops val a0 n) d (val j)) := by
  induction n with
  | zero => exact ⟨rfl, rfl, fun _ _ => rfl, fun _ _ h => absurd h (Nat.not_lt_zero _)⟩
  | succ n ih =>
    obtain ⟨h1, h2, h3, h4⟩ := ih
    rw [frame_next]
    refine ⟨by rw [put_size]; exact h1, by rw [put_defers]; exact h2, ?_, ?_⟩
    · intro d hd
      rw [← h3 d fun j hj => hd j (by omega)]
      cases hs : slotOf ops n with
      | none => rfl
      | some e => exact put_off fun h => hd n (by omega) (by rw [hs, h])
    · intro j d hj hs
      by_cases hjn : j = n
      · subst hjn
        rw [hs]
        exact At.here (by rw [h1]; exact (slot_lt hdst hs).1)
      · have := h4 j d (by omega) hs
        cases hs' : slotOf ops n with
        | none => exact this
        | some e => exact this.off fun h => hjn ((slot_lt hdst hs').2 j (by rw [hs, h]))
theorem TabI.frame (hI : TabI ops dep a0 w gs0 mk G0 Good L a W val G) (hdst : dstB ops a0.tmps.size = true) (hall : ∀ i, i < ops.size → L i = true) : a = frameOf ops val a0 ops.size := by
  obtain ⟨h1, h2, h3, h4⟩ := frame_parts ops val a0 hdst ops.size
  have ht : a.tmps = (frameOf ops val a0 ops.size).tmps := by
    refine Array.ext_getElem? fun d => ?_
    by_cases hex : ∃ j, slotOf ops j = some d
    · obtain ⟨j, hj⟩ := hex
      have hjs : j < ops.size := by
        unfold slotOf at hj
        cases e : ops[j]? with
        | none => rw [e] at hj; cases hj
        | some o => exact (Array.getElem?_eq_some_iff.1 e).1
      exact (hI.at_ j d hj (hall j hjs)).trans (h4 j d hjs hj).symm
    · rw [hI.fr d fun j hj => absurd ⟨j, hj⟩ hex, h3 d fun j _ hj => hex ⟨j, hj⟩]
  have hd : a.defers = (frameOf ops val a0 ops.size).defers := hI.df.trans h2.symm
  cases a
  cases hf : frameOf ops val a0 ops.size
  rw [hf] at ht hd
  simp only at ht hd
  rw [ht, hd]
end
end Go.Proofs.Ytaccigmkddomaaa.Draws

namespace Go.Proofs.Ytaccigmkddomaaa.Draws
open Go Go.ChangeShapes Go.WideShapes Go.ChangeAt Go.RowKit Go.Proofs.Ytaccigmkddomaaa.Law

section
variable {P : Program} {ops : Array Oper} {Q : Exit → Act → World → Prop} {dep : Nat → List Nat} {a0 a : Act} {w W : World} {gs0 : List Grp} {mk : List Nat} {G0 G : Nat → Grp} {Good : (Nat → Value) → (Nat → Grp) → Nat → Prop} {L : Nat → Bool} {val : Nat → Value}
theorem wpOp_want {i : Nat} {o : Oper} {K : Act → World → Prop} (hi : ops[i]? = some o) (hw : Region.wanted o (yielded ops a.tmps) = true) (h : o.wp P a w K Q) : wpOp P ops Q i K a w := by
  unfold wpOp
  rw [hi]
  simp only [hw, if_true]
  exact .inl h
theorem want_at {o : Oper} {b : Bool} (j d : Nat) (hg : o.guard = some (j, b)) (hs : slotOf ops j = some d) (ha : At a d (.bool b)) : Region.wanted o (yielded ops a.tmps) = true := by
  have hy : yielded ops a.tmps j = some b := by
    unfold yielded
    rw [show (ops[j]?).bind (fun x => x.dst) = some d from hs, Option.bind_some, show a.tmps[d]? = some (.bool b) from ha]
  simp [Region.wanted, hg, hy]
/-- Every edge that binds points back. -/
def backG (ops : Array Oper) : Bool := (List.range ops.size).all fun i => ((ops[i]?).map fun o => o.after.all fun e => !Region.binds .any e || decide (e.on < i)).getD true
theorem back_ofG (h : backG ops = true) : ∀ i o, ops[i]? = some o → ∀ e ∈ o.after, Region.binds .any e = true → e.on < i := by
  intro i o ho e he hb
  have hi := (Array.getElem?_eq_some_iff.1 ho).1
  have h1 := List.all_eq_true.1 h i (List.mem_range.2 hi)
  rw [ho] at h1
  simp only [Option.map_some, Option.getD_some] at h1
  have h2 := Array.all_eq_true_iff_forall_mem.1 h1 e he
  simp only [hb, Bool.not_true, Bool.false_or, decide_eq_true_eq] at h2
  exact h2
theorem wp_region_invG {id : Nat} {a : Act} {w : World} (hm : P.follows .mixedOrders = true) (hback : backG ops = true) (I : (Nat → Bool) → Act → World → Prop)
    (hstart : I (fun _ => false) a { w with drawn := w.drawn + 1 })
    (hstep : ∀ L a w i o, I L a w → ops[i]? = some o → L i = false → (∀ e ∈ o.after, Region.binds .any e = true → L e.on = true) → wpOp P ops Q i (I (fun j => if j = i then true else L j)) a w)
    (hend : ∀ L a w, I L a w → (∀ i, i < ops.size → L i = true) → Q .normal a w) : (Code.region id ops true).wp P Q a w := by
  refine wp_region_any hm (wpAny_inv I (back_ofG hback) hstep hend _ _ _ _ (by simp) ?_ ?_)
  · refine Nat.le_trans List.count_le_length (by simp)
  · rw [show (fun j => (Array.replicate ops.size false).getD j false) = fun _ => false from funext fun j => by
      unfold Array.getD
      split <;> simp]
    exact hstart
theorem wp_region_tabG {id : Nat} {W0 : World} (hm : P.follows .mixedOrders = true) (hback : backG ops = true) (hdst : dstB ops a0.tmps.size = true) (dep : Nat → List Nat) (hdep : depsB ops dep = true)
    (gs0 : List Grp) (mk : List Nat) (G0 : Nat → Grp) (Good : (Nat → Value) → (Nat → Grp) → Nat → Prop)
    (hstart : Held w { W0 with drawn := W0.drawn + 1 } (gs0 ++ mk.map G0))
    (hstep : ∀ L a W val G i o, TabI ops dep a0 w gs0 mk G0 Good L a W val G → ops[i]? = some o → L i = false → (∀ j, j ∈ dep i → L j = true) → wpOp P ops Q i (TabStep w gs0 mk Good L val G a i o.dst) a W)
    (hend : ∀ L a W val G, TabI ops dep a0 w gs0 mk G0 Good L a W val G → (∀ i, i < ops.size → L i = true) → Q .normal a W) :
    (Code.region id ops true).wp P Q a0 W0 := by
  refine wp_region_invG hm hback (fun L a W => ∃ val G, TabI ops dep a0 w gs0 mk G0 Good L a W val G) ?_ ?_ ?_
  · exact ⟨fun _ => undef, G0, rfl, rfl, fun _ _ => rfl, (fun _ _ _ h => nomatch h), (fun _ _ h => nomatch h), (fun _ h => nomatch h), fun _ _ => rfl, (fun _ h => nomatch h), hstart, fun _ _ => rfl⟩
  · rintro L a W i o ⟨val, G, hI⟩ ho hL hd
    have hdi : ∀ j, j ∈ dep i → L j = true := fun j hj => by
      obtain ⟨e, he, hb, rfl⟩ := deps_bind hdep ho hj
      exact hd e he hb
    refine wpOp_mono (fun a' W' hs => ?_) (hstep L a W val G i o hI ho hL hdi)
    obtain ⟨v, G', rfl, hH, hn, hgi, hgj⟩ := hs
    have hsl : slotOf ops i = o.dst := by unfold slotOf; rw [ho]; rfl
    refine ⟨upd val i v, G', ?_, ?_, ?_, ?_, ?_, ?_, ?_, ?_, hH, ?_⟩
    · rw [put_size]; exact hI.sz
    · rw [put_defers]; exact hI.df
    · intro d hd'
      have hfr := hI.fr d fun j hj => by
        have h2 := hd' j hj
        by_cases hji : j = i
        · subst hji; simp at h2
        · simpa [hji] using h2
      rw [← hfr]
      cases hdst' : o.dst with
      | none => rfl
      | some e =>
        exact put_off fun h => by
          have h2 := hd' i (by rw [hsl, hdst', h])
          simp at h2
    · intro j d hj hl
      by_cases hji : j = i
      · subst hji
        rw [hsl] at hj
        rw [hj, upd_at]
        exact At.here (by rw [hI.sz]; exact (slot_lt hdst (hsl.trans hj)).1)
      · simp only [if_neg hji] at hl
        rw [upd_off _ _ hji]
        have := hI.at_ j d hj hl
        cases hdst' : o.dst with
        | none => exact this
        | some e => exact this.off fun h => hji ((slot_lt hdst (j := i) (d := e) (by rw [hsl, hdst'])).2 j (by rw [hj, h]))
    · intro j k hl hk
      by_cases hji : j = i
      · subst hji
        have := hdi k hk
        by_cases hkj : k = j <;> simp [hkj, this]
      · simp only [if_neg hji] at hl
        have := hI.cl j k hl hk
        by_cases hki : k = i <;> simp [hki, this]
    · intro j hl
      by_cases hji : j = i
      · subst hji; exact (Array.getElem?_eq_some_iff.1 ho).1
      · simp only [if_neg hji] at hl
        exact hI.lt j hl
    · intro j hl
      by_cases hji : j = i
      · subst hji; simp at hl
      · simp only [if_neg hji] at hl
        rw [hn j hji hl]; exact hI.no j hl
    · intro j hl
      by_cases hji : j = i
      · subst hji; exact hgi
      · simp only [if_neg hji] at hl
        exact hgj j hji hl
    · intro j hl
      by_cases hji : j = i
      · subst hji; simp at hl
      · simp only [if_neg hji] at hl
        rw [upd_off _ _ hji]; exact hI.nv j hl
  · rintro L a W ⟨val, G, hI⟩ hall
    exact hend L a W val G hI hall
theorem TabI.turned (hI : TabI ops dep a0 w gs0 mk G0 Good L a W val G) (hloc : Local dep Good) {i c : Nat} (hL : L i = false) (dst : Option Nat) (v : Value) (g : Grp) {W' : World} (hh : Held w W' (gs0 ++ mk.map (upd G c g))) (hc : L c = true)
    (hdep : ((List.range ops.size).all fun j => decide (j = i) || !(dep j).contains c) = true) (hgc : Good (upd val i v) (upd G c g) c) (hgd : Good (upd val i v) (upd G c g) i) : TabStep w gs0 mk Good L val G a i dst (a.put dst v) W' := by
  refine ⟨v, upd G c g, rfl, hh, fun j _ hj => upd_off _ _ (fun e => by rw [e, hc] at hj; cases hj), hgd, fun j hj hl => ?_⟩
  by_cases hjc : j = c
  · subst hjc; exact hgc
  · refine hloc val _ G _ j (fun k hk => ?_) (hI.gd j hl)
    have hlk : L k = true := by
      rcases hk with rfl | hk
      · exact hl
      · exact hI.cl j k hl hk
    have hki : k ≠ i := fun e => by rw [e, hL] at hlk; cases hlk
    have hd := List.all_eq_true.1 hdep j (List.mem_range.2 (hI.lt j hl))
    simp only [Bool.or_eq_true, decide_eq_true_eq, Bool.not_eq_true', List.contains_eq_mem, decide_eq_false_iff_not] at hd
    have hkc : k ≠ c := fun e => by
      rcases hk with hk | hk
      · exact hjc (hk ▸ e)
      · rcases hd with h | h
        · exact hj h
        · exact h (e ▸ hk)
    exact ⟨upd_off _ _ hki, upd_off _ _ hkc⟩
end
end Go.Proofs.Ytaccigmkddomaaa.Draws

namespace Go.Proofs.Ytaccigmkddomaaa.Draws
open Go Go.ChangeShapes Go.WideShapes Go.ChangeAt Go.RowKit Go.Proofs.Ytaccigmkddomaaa.Law

section
variable {ops : Array Oper} {dep fwd : Nat → List Nat} {a0 a : Act} {w W : World} {gs0 : List Grp} {mk : List Nat} {G0 G : Nat → Grp} {Good : (Nat → Value) → (Nat → Grp) → Nat → Prop} {L : Nat → Bool} {val : Nat → Value}
/-- No operation but those of cs speaks ahead of i. -/
def fwdB (ops : Array Oper) (fwd : Nat → List Nat) (i : Nat) (cs : List Nat) : Bool := (List.range ops.size).all fun j => cs.contains j || !(fwd j).contains i
theorem fwd_not {i : Nat} {cs : List Nat} (h : fwdB ops fwd i cs = true) {j : Nat} (hj : j < ops.size) (hc : j ∉ cs) : i ∉ fwd j := by
  have h1 := List.all_eq_true.1 h j (List.mem_range.2 hj)
  simp only [Bool.or_eq_true, List.contains_eq_mem, decide_eq_true_eq, Bool.not_eq_true', decide_eq_false_iff_not] at h1
  rcases h1 with h1 | h1
  · exact absurd h1 hc
  · exact h1
theorem TabI.keepF (hI : TabI ops dep a0 w gs0 mk G0 Good L a W val G) (hloc : Local (fun j => dep j ++ fwd j) Good) {i : Nat} (hL : L i = false) (v : Value) {G' : Nat → Grp} (j : Nat) (hj : j ≠ i) (hl : L j = true) (hf : i ∉ fwd j) (hG : ∀ k, k = j ∨ k ∈ dep j ++ fwd j → G' k = G k) : Good (upd val i v) G' j := by
  refine hloc val _ G _ j (fun k hk => ⟨upd_off _ _ ?_, hG k hk⟩) (hI.gd j hl)
  rcases hk with rfl | hk
  · exact hj
  · rcases List.mem_append.1 hk with hk | hk
    · intro e; have := hI.cl j k hl hk; rw [e, hL] at this; cases this
    · exact fun e => hf (e ▸ hk)
theorem TabI.not_yet (hI : TabI ops dep a0 w gs0 mk G0 Good L a W val G) {i j : Nat} (hd : i ∈ dep j) (h : L i = false) : L j = false := by
  cases hj : L j with
  | false => rfl
  | true => have := hI.cl j i hj hd; rw [h] at this; cases this
/-- An operation that makes nothing. -/
theorem TabI.sameF (hI : TabI ops dep a0 w gs0 mk G0 Good L a W val G) (hloc : Local (fun j => dep j ++ fwd j) Good) {i : Nat} (hf : fwdB ops fwd i [] = true) (hL : L i = false) (dst : Option Nat) (v : Value) {W' : World} (hg : W.grownBy W' none) (hgd : Good (upd val i v) G i) : TabStep w gs0 mk Good L val G a i dst (a.put dst v) W' :=
  ⟨v, G, rfl, hI.hd.on hg, fun _ _ _ => rfl, hgd, fun j hj hl => hI.keepF hloc hL v j hj hl (fwd_not hf (hI.lt j hl) (by simp)) fun _ _ => rfl⟩
/-- An operation that makes a group of its own, of which nothing that has come up speaks. -/
theorem TabI.madeF (hI : TabI ops dep a0 w gs0 mk G0 Good L a W val G) (hloc : Local (fun j => dep j ++ fwd j) Good) {i : Nat} (hf : fwdB ops fwd i [] = true) (hL : L i = false) (dst : Option Nat) (v : Value) (g : Grp) {W' : World} (hh : Held w W' (gs0 ++ mk.map (upd G i g))) (hgd : Good (upd val i v) (upd G i g) i) : TabStep w gs0 mk Good L val G a i dst (a.put dst v) W' := by
  refine ⟨v, upd G i g, rfl, hh, fun _ hj _ => upd_off _ _ hj, hgd, fun j hj hl => hI.keepF hloc hL v j hj hl (fwd_not hf (hI.lt j hl) (by simp)) fun k hk => upd_off _ _ fun e => ?_⟩
  rcases hk with rfl | hk
  · exact hj e
  · rcases List.mem_append.1 hk with hk | hk
    · have := hI.cl j k hl hk; rw [e, hL] at this; cases this
    · exact fwd_not hf (hI.lt j hl) (by simp) (e ▸ hk)
/-- An operation that turns the group of an elder one, which alone may speak ahead of it. -/
theorem TabI.turnedF (hI : TabI ops dep a0 w gs0 mk G0 Good L a W val G) (hloc : Local (fun j => dep j ++ fwd j) Good) {i c : Nat} (hf : fwdB ops fwd i [c] = true) (hL : L i = false) (dst : Option Nat) (v : Value) (g : Grp) {W' : World} (hh : Held w W' (gs0 ++ mk.map (upd G c g))) (hc : L c = true)
    (hdep : ((List.range ops.size).all fun j => decide (j = i) || decide (j = c) || !(dep j ++ fwd j).contains c) = true) (hgc : Good (upd val i v) (upd G c g) c) (hgd : Good (upd val i v) (upd G c g) i) : TabStep w gs0 mk Good L val G a i dst (a.put dst v) W' := by
  refine ⟨v, upd G c g, rfl, hh, fun j _ hj => upd_off _ _ (fun e => by rw [e, hc] at hj; cases hj), hgd, fun j hj hl => ?_⟩
  by_cases hjc : j = c
  · subst hjc; exact hgc
  · refine hI.keepF hloc hL v j hj hl (fwd_not hf (hI.lt j hl) (by simpa using hjc)) fun k hk => upd_off _ _ fun e => ?_
    have hd := List.all_eq_true.1 hdep j (List.mem_range.2 (hI.lt j hl))
    simp only [Bool.or_eq_true, decide_eq_true_eq, Bool.not_eq_true', List.contains_eq_mem, decide_eq_false_iff_not] at hd
    rcases hk with rfl | hk
    · exact hjc e
    · rcases hd with (h | h) | h
      · exact hj h
      · exact hjc h
      · exact h (e ▸ hk)
end
end Go.Proofs.Ytaccigmkddomaaa.Draws
