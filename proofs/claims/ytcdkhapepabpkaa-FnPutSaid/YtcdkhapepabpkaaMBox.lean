/- Meshes: a mesh in a box of the call's own, its leaves a row of the call's own: for what collects cells. Plain lemmas.
   Conditions: none. -/
import Derived.RangeFuncNested
import Derived.RangeFuncBox
import Derived.Test.YtcdkhapepabpkaaMOk
set_option maxRecDepth 100000
namespace Go.Proofs.Ytcdkhapepabpkaa.Mesh
open Go.ChangeShapes Go.WideShapes Go.ChangeAt Go.RowKit Go.Proofs.Ytcdkhapepabpkaa.Cell

/-- The values of a row of cells. -/
def flatC (xs : List C3) : List Value := xs.flatMap fun x => [.int .i64 x.1, .int .i64 x.2.1, .int .i64 x.2.2]
theorem flatC_snoc (xs : List C3) (x : C3) : flatC (xs ++ [x]) = flatC xs ++ [.int .i64 x.1, .int .i64 x.2.1, .int .i64 x.2.2] := by simp [flatC]
theorem flatC_len (xs : List C3) : (flatC xs).length = xs.length * 3 := by
  induction xs with
  | nil => rfl
  | cons x xs ih => simp only [flatC, List.flatMap_cons, List.length_append, List.length_cons, List.length_nil] at ih ⊢; omega
theorem flatC_at (xs : List C3) : ∀ (k : Nat) (x : C3), xs[k]? = some x → (flatC xs)[k * 3]? = some (.int .i64 x.1) ∧ (flatC xs)[k * 3 + 1]? = some (.int .i64 x.2.1) ∧ (flatC xs)[k * 3 + 2]? = some (.int .i64 x.2.2) := by
  induction xs with
  | nil => intro k x h; simp at h
  | cons y ys ih =>
    intro k x h
    cases k with
    | zero => simp at h; subst h; exact ⟨rfl, rfl, rfl⟩
    | succ k =>
      have h' : ys[k]? = some x := by simpa using h
      obtain ⟨a, b, c⟩ := ih k x h'
      have e : ∀ j, (flatC (y :: ys))[j + 3]? = (flatC ys)[j]? := fun j => by simp [flatC]
      refine ⟨?_, ?_, ?_⟩
      · rw [show (k + 1) * 3 = k * 3 + 3 by omega, e, a]
      · rw [show (k + 1) * 3 + 1 = (k * 3 + 1) + 3 by omega, e, b]
      · rw [show (k + 1) * 3 + 2 = (k * 3 + 2) + 3 by omega, e, c]

/-- A row of cells that a call owns reads as the list. -/
theorem own_reads {w : World} {base n cap : Nat} {a : Option Addr} {xs : List C3} (h : w.ownsRow base 36 3 (.slice a n cap) n (flatC xs)) : Reads w a n xs := by
  have hlen := h.1
  rw [flatC_len] at hlen
  refine ⟨by omega, fun k x hk => ?_⟩
  have hkl := (List.getElem?_eq_some_iff.1 hk).1
  rcases h.2 with ⟨h', h0⟩ | ⟨g, cap', cur, h', hb, hg, hnc, hcm, hcs, htake⟩
  · omega
  · simp only [Value.slice.injEq] at h'
    obtain ⟨rfl, -, -⟩ := h'
    obtain ⟨f0, f1, f2⟩ := flatC_at xs k x hk
    have hc : ∀ j v, j < n * 3 → (flatC xs)[j]? = some v → w.cell? ⟨g, j, none⟩ = some v := fun j v hj hv => by
      have e : cur[j]? = some v := by
        have : (cur.toList.take (n * 3))[j]? = some v := by rw [htake]; exact hv
        rw [List.getElem?_take_of_lt hj] at this
        simpa using this
      exact (cell_of_row w g j cur _ (0, 0) hg).trans e
    exact ⟨g, rfl, lt_of_block hg, hc _ _ (by omega) f0, hc _ _ (by omega) f1, hc _ _ (by omega) f2⟩

/-- Block B is the mesh's box: the number of roots, the slice of the leaves. -/
def MBox (W : World) (B : Nat) (R : Int) (v : Value) : Prop := W.heap[B]? = some (.cells #[.int .i64 R, v] 26 (0, 0))
variable {W W' w1 : World} {B : Nat} {R : Int} {v : Value}
theorem MBox.lt (h : MBox W B R v) : B < W.heap.size := (Array.getElem?_eq_some_iff.1 h).1
theorem MBox.c0 (h : MBox W B R v) : W.cell? ⟨B, 0, none⟩ = some (.int .i64 R) := by simp [World.cell?, show W.heap[B]? = _ from h]
theorem MBox.c1 (h : MBox W B R v) : W.cell? ⟨B, 1, none⟩ = some v := by simp [World.cell?, show W.heap[B]? = _ from h]
theorem MBox.f0 (h : MBox W B R v) : W.frozen? ⟨B, 0, none⟩ = false := by simp [World.frozen?, show W.heap[B]? = _ from h]
theorem MBox.f1 (h : MBox W B R v) : W.frozen? ⟨B, 1, none⟩ = false := by simp [World.frozen?, show W.heap[B]? = _ from h]
theorem MBox.new (W : World) (R : Int) (v : Value) : MBox (W.alloc (.cells #[.int .i64 R, v] 26)) W.heap.size R v := World.alloc_heap_new W _
theorem MBox.kept {row : Option Nat} (h : MBox W B R v) (hg : W.grownBy W' row) (hne : some B ≠ row) : MBox W' B R v := (hg.block B h.lt hne).trans h
theorem MBox.alloc (h : MBox W B R v) (o : Obj) : MBox (W.alloc o) B R v := h.kept (World.grownBy_alloc W o none) (by simp)
theorem MBox.set1 (h : MBox W B R v) (v' : Value) : MBox (W.setCell ⟨B, 1, none⟩ v') B R v' := heap_setCell_same W B 1 _ _ v' h
theorem MBox.set0 (h : MBox W B R v) (R' : Int) : MBox (W.setCell ⟨B, 0, none⟩ (.int .i64 R')) B R' v := heap_setCell_same W B 0 _ _ _ h
theorem grownBy_setC (W : World) (b j : Nat) (v : Value) : W.grownBy (W.setCell ⟨b, j, none⟩ v) (some b) :=
  ⟨rfl, rfl, rfl, (KeepsWalks.setCell W _ v).size, fun k _ hk => Below.heap_setCell _ _ _ k (fun e => hk (by rw [e]))⟩
theorem MBox.not_row (h : MBox W B R v) {base k : Nat} {u : Value} {xs : List Value} (hr : W.ownsRow base 36 3 u k xs) : some B ≠ u.ownBlock := by
  rcases hr.2 with ⟨rfl, _⟩ | ⟨g, cap, cur, rfl, _, hgb, _⟩
  · simp [Value.ownBlock]
  · intro e'
    obtain rfl : B = g := by simpa [Value.ownBlock] using e'
    have := (show W.heap[B]? = _ from h).symm.trans hgb
    simp at this
/-- The box and its row speak of cells alone. -/
theorem holds_own {β : Type} (n₀ B : Nat) (R : β → Int) (k : β → Nat) (f : β → List Value) : Own (fun s W => ∃ v, MBox W B (R s) v ∧ W.ownsRow n₀ 36 3 v (k s) (f s)) := by
  rintro s X Y row ⟨v, hv, hr⟩ hg hrow
  refine ⟨v, hv.kept hg (fun e' => ?_), hr.kept hg ?_⟩
  · obtain ⟨o, ho, hc⟩ := hrow B e'.symm
    rw [show X.heap[B]? = _ from hv] at ho; cases ho; cases hc
  · rcases hr.2 with ⟨rfl, _⟩ | ⟨g, cap, cur, rfl, _, hgb, _⟩
    · exact .inl rfl
    · refine .inr fun e' => ?_
      obtain ⟨o, ho, hc⟩ := hrow g (by simpa [Value.ownBlock] using e'.symm)
      rw [hgb] at ho; cases ho; cases hc
/-- Whatever block of cells is known whole speaks of cells alone. -/
theorem block_own {β : Type} (B : Nat) (t : TypeId) (f : β → Array Value) : Own (fun s (W : World) => W.heap[B]? = some (.cells (f s) t (0, 0))) := fun s X Y row hs hg hrow =>
  (hg.block B (Array.getElem?_eq_some_iff.1 hs).1 (fun e' => by obtain ⟨o, ho, hc⟩ := hrow B e'.symm; rw [hs] at ho; cases ho; cases hc)).trans hs
/-- A cell in a box. -/
def IBox (W : World) (B : Nat) (x : C3) : Prop := W.heap[B]? = some (.cells #[.int .i64 x.1, .int .i64 x.2.1, .int .i64 x.2.2] 36 (0, 0))
theorem IBox.lt {x : C3} (h : IBox W B x) : B < W.heap.size := (Array.getElem?_eq_some_iff.1 h).1
theorem IBox.c0 {x : C3} (h : IBox W B x) : W.cell? ⟨B, 0, none⟩ = some (.int .i64 x.1) := by simp [World.cell?, show W.heap[B]? = _ from h]
theorem IBox.c1 {x : C3} (h : IBox W B x) : W.cell? ⟨B, 1, none⟩ = some (.int .i64 x.2.1) := by simp [World.cell?, show W.heap[B]? = _ from h]
theorem IBox.c2 {x : C3} (h : IBox W B x) : W.cell? ⟨B, 2, none⟩ = some (.int .i64 x.2.2) := by simp [World.cell?, show W.heap[B]? = _ from h]
theorem IBox.new (W : World) (x : C3) : IBox (W.alloc (.cells #[.int .i64 x.1, .int .i64 x.2.1, .int .i64 x.2.2] 36)) W.heap.size x := World.alloc_heap_new W _
theorem box_own_any {β : Type} (b0 : Nat) (x : C3) (Pa : Nat → Prop) : Own (fun (_ : β) (W : World) => ∃ Bx, b0 < Bx ∧ IBox W Bx x ∧ Pa Bx) := fun s X Y row hs hg hrow => by
  obtain ⟨Bx, h1, h2, h3⟩ := hs
  exact ⟨Bx, h1, block_own Bx _ (fun (_ : Unit) => #[.int .i64 x.1, .int .i64 x.2.1, .int .i64 x.2.2]) () X Y row h2 hg hrow, h3⟩
/-- 'm.Leaves = append(m.Leaves, ..)', what the walk owes behind it. -/
theorem MBox.appended {n₀ k m : Nat} {v' : Value} {xs ys : List Value} {tmp : Obj}
    (hv : MBox W B R v) (hrow : W.ownsRow n₀ 36 3 v k xs) (hn₀ : n₀ ≤ W.heap.size) (hB : n₀ ≤ B)
    (hown' : w1.ownsRow n₀ 36 3 v' m ys) (hgrow : (W.alloc tmp).grownBy w1 v.ownBlock) :
    MBox w1 B R v ∧ MBox (w1.setCell ⟨B, 1, none⟩ v') B R v' ∧ (w1.setCell ⟨B, 1, none⟩ v').ownsRow n₀ 36 3 v' m ys ∧ KeepsOthers W (w1.setCell ⟨B, 1, none⟩ v') ∧ Below n₀ W (w1.setCell ⟨B, 1, none⟩ v')
    ∧ ∀ b, b < W.heap.size → some b ≠ v.ownBlock → b ≠ B → (w1.setCell ⟨B, 1, none⟩ v').heap[b]? = W.heap[b]? := by
  have hv1 : MBox w1 B R v := (hv.alloc tmp).kept hgrow (hv.not_row hrow)
  refine ⟨hv1, hv1.set1 v', hown'.kept (grownBy_setC w1 B 1 v') (.inr (hv1.not_row hown').symm), ?_, ?_, ?_⟩
  · refine ((KeepsOthers.alloc W tmp).trans (KeepsOthers.of_grownBy hgrow fun j o ej hj => ?_)).trans (KeepsOthers.setCell _ _ _)
    rcases (hrow.alloc tmp).2 with ⟨rfl, _⟩ | ⟨g, cap, cur, rfl, _, hgb, _⟩
    · simp [Value.ownBlock] at ej
    · obtain rfl : g = j := by simpa [Value.ownBlock] using ej
      rw [hgb] at hj; cases hj; rfl
  · refine (((Below.refl n₀ W).alloc hn₀ tmp).grown hgrow (by simp; omega) fun j ej => ?_).setCell (p := ⟨B, 1, none⟩) hB v'
    rcases hrow.2 with ⟨rfl, _⟩ | ⟨g, cap, cur, rfl, hb, _, _⟩
    · simp [Value.ownBlock] at ej
    · obtain rfl : g = j := by simpa [Value.ownBlock] using ej
      exact hb
  · intro b hb h1 h2
    exact (Below.heap_setCell _ _ _ b h2).trans ((hgrow.block b (by simp; omega) h1).trans (Below.heap_alloc W _ b hb))
end Go.Proofs.Ytcdkhapepabpkaa.Mesh
