/- A region that draws its order, by a table: operations behind a guard that is met; an operation that turns a group that the region itself has made. The edges that bind nothing left aside. Plain lemmas.
   Conditions: none. -/
import Derived.Test.YtjmmdfphhpfbfaaPkReg
set_option maxRecDepth 100000
namespace Go.Proofs.Ytjmmdfphhpfbfaa.Draws
open Go Go.ChangeShapes Go.WideShapes Go.ChangeAt Go.RowKit Go.Proofs.Ytjmmdfphhpfbfaa.Law

section
variable {P : Program} {ops : Array Oper} {Q : Exit → Act → World → Prop} {dep : Nat → List Nat} {a0 a : Act} {w W : World} {gs0 : List Grp} {mk : List Nat} {G0 G : Nat → Grp} {Good : (Nat → Value) → (Nat → Grp) → Nat → Prop} {L : Nat → Bool} {val : Nat → Value}
theorem wpOp_want {i : Nat} {o : Oper} {K : Act → World → Prop} (hi : ops[i]? = some o) (hw : Region.wanted o (yielded ops a.tmps) = true) (h : o.wp P a w K Q) : wpOp P ops Q i K a w := by
  unfold wpOp
  rw [hi]
  simp only [hw, if_true]
  exact .inl h
theorem want_at {o : Oper} {b : Bool} (j d : Nat) (hg : o.guard = some (j, b)) (hs : slotOf ops j = some d) (ha : At a d (.bool b)) : Region.wanted o (yielded ops a.tmps) = true := by
  have hy : yielded ops a.tmps j = some b := by
    unfold yielded
    rw [show (ops[j]?).bind (fun x => x.dst) = some d from hs, Option.bind_some, show a.tmps[d]? = some (.bool b) from ha]
  simp [Region.wanted, hg, hy]
/-- Every edge that binds points back. -/
def backG (ops : Array Oper) : Bool := (List.range ops.size).all fun i => ((ops[i]?).map fun o => o.after.all fun e => !Region.binds .any e || decide (e.on < i)).getD true
theorem back_ofG (h : backG ops = true) : ∀ i o, ops[i]? = some o → ∀ e ∈ o.after, Region.binds .any e = true → e.on < i := by
  intro i o ho e he hb
  have hi := (Array.getElem?_eq_some_iff.1 ho).1
  have h1 := List.all_eq_true.1 h i (List.mem_range.2 hi)
  rw [ho] at h1
  simp only [Option.map_some, Option.getD_some] at h1
  have h2 := Array.all_eq_true_iff_forall_mem.1 h1 e he
  simp only [hb, Bool.not_true, Bool.false_or, decide_eq_true_eq] at h2
  exact h2
theorem wp_region_invG {id : Nat} {a : Act} {w : World} (hm : P.follows .mixedOrders = true) (hback : backG ops = true) (I : (Nat → Bool) → Act → World → Prop)
    (hstart : I (fun _ => false) a { w with drawn := w.drawn + 1 })
    (hstep : ∀ L a w i o, I L a w → ops[i]? = some o → L i = false → (∀ e ∈ o.after, Region.binds .any e = true → L e.on = true) → wpOp P ops Q i (I (fun j => if j = i then true else L j)) a w)
    (hend : ∀ L a w, I L a w → (∀ i, i < ops.size → L i = true) → Q .normal a w) : (Code.region id ops true).wp P Q a w := by
  refine wp_region_any hm (wpAny_inv I (back_ofG hback) hstep hend _ _ _ _ (by simp) ?_ ?_)
  · refine Nat.le_trans List.count_le_length (by simp)
  · rw [show (fun j => (Array.replicate ops.size false).getD j false) = fun _ => false from funext fun j => by
      unfold Array.getD
      split <;> simp]
    exact hstart
theorem wp_region_tabG {id : Nat} {W0 : World} (hm : P.follows .mixedOrders = true) (hback : backG ops = true) (hdst : dstB ops a0.tmps.size = true) (dep : Nat → List Nat) (hdep : depsB ops dep = true)
    (gs0 : List Grp) (mk : List Nat) (G0 : Nat → Grp) (Good : (Nat → Value) → (Nat → Grp) → Nat → Prop)
    (hstart : Held w { W0 with drawn := W0.drawn + 1 } (gs0 ++ mk.map G0))
    (hstep : ∀ L a W val G i o, TabI ops dep a0 w gs0 mk G0 Good L a W val G → ops[i]? = some o → L i = false → (∀ j, j ∈ dep i → L j = true) → wpOp P ops Q i (TabStep w gs0 mk Good L val G a i o.dst) a W)
    (hend : ∀ L a W val G, TabI ops dep a0 w gs0 mk G0 Good L a W val G → (∀ i, i < ops.size → L i = true) → Q .normal a W) :
    (Code.region id ops true).wp P Q a0 W0 := by
  refine wp_region_invG hm hback (fun L a W => ∃ val G, TabI ops dep a0 w gs0 mk G0 Good L a W val G) ?_ ?_ ?_
  · exact ⟨fun _ => undef, G0, rfl, rfl, fun _ _ => rfl, (fun _ _ _ h => nomatch h), (fun _ _ h => nomatch h), (fun _ h => nomatch h), fun _ _ => rfl, (fun _ h => nomatch h), hstart, fun _ _ => rfl⟩
  · rintro L a W i o ⟨val, G, hI⟩ ho hL hd
    have hdi : ∀ j, j ∈ dep i → L j = true := fun j hj => by
      obtain ⟨e, he, hb, rfl⟩ := deps_bind hdep ho hj
      exact hd e he hb
    refine wpOp_mono (fun a' W' hs => ?_) (hstep L a W val G i o hI ho hL hdi)
    obtain ⟨v, G', rfl, hH, hn, hgi, hgj⟩ := hs
    have hsl : slotOf ops i = o.dst := by unfold slotOf; rw [ho]; rfl
    refine ⟨upd val i v, G', ?_, ?_, ?_, ?_, ?_, ?_, ?_, ?_, hH, ?_⟩
    · rw [put_size]; exact hI.sz
    · rw [put_defers]; exact hI.df
    · intro d hd'
      have hfr := hI.fr d fun j hj => by
        have h2 := hd' j hj
        by_cases hji : j = i
        · subst hji; simp at h2
        · simpa [hji] using h2
      rw [← hfr]
      cases hdst' : o.dst with
      | none => rfl
      | some e =>
        exact put_off fun h => by
          have h2 := hd' i (by rw [hsl, hdst', h])
          simp at h2
    · intro j d hj hl
      by_cases hji : j = i
      · subst hji
        rw [hsl] at hj
        rw [hj, upd_at]
        exact At.here (by rw [hI.sz]; exact (slot_lt hdst (hsl.trans hj)).1)
      · simp only [if_neg hji] at hl
        rw [upd_off _ _ hji]
        have := hI.at_ j d hj hl
        cases hdst' : o.dst with
        | none => exact this
        | some e => exact this.off fun h => hji ((slot_lt hdst (j := i) (d := e) (by rw [hsl, hdst'])).2 j (by rw [hj, h]))
    · intro j k hl hk
      by_cases hji : j = i
      · subst hji
        have := hdi k hk
        by_cases hkj : k = j <;> simp [hkj, this]
      · simp only [if_neg hji] at hl
        have := hI.cl j k hl hk
        by_cases hki : k = i <;> simp [hki, this]
    · intro j hl
      by_cases hji : j = i
      · subst hji; exact (Array.getElem?_eq_some_iff.1 ho).1
      · simp only [if_neg hji] at hl
        exact hI.lt j hl
    · intro j hl
      by_cases hji : j = i
      · subst hji; simp at hl
      · simp only [if_neg hji] at hl
        rw [hn j hji hl]; exact hI.no j hl
    · intro j hl
      by_cases hji : j = i
      · subst hji; exact hgi
      · simp only [if_neg hji] at hl
        exact hgj j hji hl
    · intro j hl
      by_cases hji : j = i
      · subst hji; simp at hl
      · simp only [if_neg hji] at hl
        rw [upd_off _ _ hji]; exact hI.nv j hl
  · rintro L a W ⟨val, G, hI⟩ hall
    exact hend L a W val G hI hall
theorem TabI.turned (hI : TabI ops dep a0 w gs0 mk G0 Good L a W val G) (hloc : Local dep Good) {i c : Nat} (hL : L i = false) (dst : Option Nat) (v : Value) (g : Grp) {W' : World} (hh : Held w W' (gs0 ++ mk.map (upd G c g))) (hc : L c = true)
    (hdep : ((List.range ops.size).all fun j => decide (j = i) || !(dep j).contains c) = true) (hgc : Good (upd val i v) (upd G c g) c) (hgd : Good (upd val i v) (upd G c g) i) : TabStep w gs0 mk Good L val G a i dst (a.put dst v) W' := by
  refine ⟨v, upd G c g, rfl, hh, fun j _ hj => upd_off _ _ (fun e => by rw [e, hc] at hj; cases hj), hgd, fun j hj hl => ?_⟩
  by_cases hjc : j = c
  · subst hjc; exact hgc
  · refine hloc val _ G _ j (fun k hk => ?_) (hI.gd j hl)
    have hlk : L k = true := by
      rcases hk with rfl | hk
      · exact hl
      · exact hI.cl j k hl hk
    have hki : k ≠ i := fun e => by rw [e, hL] at hlk; cases hlk
    have hd := List.all_eq_true.1 hdep j (List.mem_range.2 (hI.lt j hl))
    simp only [Bool.or_eq_true, decide_eq_true_eq, Bool.not_eq_true', List.contains_eq_mem, decide_eq_false_iff_not] at hd
    have hkc : k ≠ c := fun e => by
      rcases hk with hk | hk
      · exact hjc (hk ▸ e)
      · rcases hd with h | h
        · exact hj h
        · exact h (e ▸ hk)
    exact ⟨upd_off _ _ hki, upd_off _ _ hkc⟩
end
end Go.Proofs.Ytjmmdfphhpfbfaa.Draws
