/- States: the table of the region of the law of the kept shares that draws its order (written by wip/tools/fnshares.py).
   Conditions: none. -/
import Derived.Test.YtfoilfgiablleaaStPutL
import Derived.Test.YtfoilfgiablleaaPkReg
import Derived.Test.YtfoilfgiablleaaStBalS
import Derived.Test.YtfoilfgiablleaaStTrcI
import Derived.Test.YtfoilfgiablleaaStTrcS
set_option maxRecDepth 100000
namespace Go.Proofs.Ytfoilfgiablleaa.State
open Go.ChangeShapes Go.WideShapes Go.ChangeAt Go.RowKit Go.Proofs.Ytfoilfgiablleaa.Cell Go.Proofs.Ytfoilfgiablleaa.Mesh Go.Proofs.Ytfoilfgiablleaa.Law Go.Proofs.Ytfoilfgiablleaa.Ints Go.Proofs.Ytfoilfgiablleaa.Draws
set_option linter.unusedVariables false

theorem ok_sizesK {R : Int} {xs : List C3} {ms ts bs : List Int} (h : stOk R xs ms ts bs = true) : ms.length = xs.length ∧ ts.length = xs.length ∧ 1 ≤ xs.length ∧ xs.length ≤ 128 := by
  obtain ⟨hp, -⟩ := pre_of h
  obtain ⟨-, h1, h2⟩ := mesh_parts hp.mesh
  exact ⟨hp.lm, hp.lt, h1, h2⟩

/-- What each operation leaves. -/
def ShkG (R : Int) (g1 g2 g3 g4 n1 n2 m c1 c2 c3 c4 k gp cp B3 : Nat) (b : Bool) (p0 : Int) (ys : List C3) (mr tr bs : List Int) (val : Nat → Value) (G : Nat → Grp) : Nat → Prop
  | 0 => val 0 = .agg #[.int .i64 R, .slice (some ⟨g1, 0, none⟩) n1 c1, .slice (some ⟨g2, 0, none⟩) n1 c2, .slice (some ⟨g3, 0, none⟩) n1 c3, .slice (some ⟨g4, 0, none⟩) n2 c4]
  | 1 => val 1 = .slice (some ⟨gp, 0, none⟩) 12 cp
  | 2 => val 2 = .pointer (some ⟨gp, 0, none⟩)
  | 3 => val 3 = .int .i64 p0
  | 4 => val 4 = .pointer (some ⟨B3, 2, none⟩)
  | 5 => val 5 = .slice (some ⟨g2, 0, none⟩) n1 c2
  | 6 => val 6 = .int .i64 (n1 : Int)
  | 7 => val 7 = .int .i64 (k : Int)
  | 8 => ∃ (b1 : Option Addr) (d1 : Nat) (b2 : Option Addr) (d2 : Nat) (b3 : Option Addr) (d3 : Nat) (b4 : Option Addr) (d4 : Nat), val 8 = .tuple #[.agg #[.int .i64 R, .slice b1 m d1, .slice b2 m d2, .slice b3 m d3, .slice b4 n2 d4], .bool b] ∧ G 8 = stateG (.slice b1 m d1) (.slice b2 m d2) (.slice b3 m d3) (.slice b4 n2 d4) m m m n2 ys mr tr bs
  | 9 => ∃ (b1 : Option Addr) (d1 : Nat) (b2 : Option Addr) (d2 : Nat) (b3 : Option Addr) (d3 : Nat) (b4 : Option Addr) (d4 : Nat), val 9 = .tuple #[.agg #[.int .i64 R, .slice b1 m d1, .slice b2 m d2, .slice b3 m d3, .slice b4 n2 d4], .bool b] ∧ val 8 = .tuple #[.agg #[.int .i64 R, .slice b1 m d1, .slice b2 m d2, .slice b3 m d3, .slice b4 n2 d4], .bool b]
  | 10 => ∃ (b1 : Option Addr) (d1 : Nat) (b2 : Option Addr) (d2 : Nat) (b3 : Option Addr) (d3 : Nat) (b4 : Option Addr) (d4 : Nat), val 10 = .agg #[.int .i64 R, .slice b1 m d1, .slice b2 m d2, .slice b3 m d3, .slice b4 n2 d4] ∧ val 9 = .tuple #[.agg #[.int .i64 R, .slice b1 m d1, .slice b2 m d2, .slice b3 m d3, .slice b4 n2 d4], .bool b]
  | 11 => val 11 = .bool b
  | 12 => ∃ (B6 : Nat) (o0 : Value) (o1 : Value) (o2 : Value) (o3 : Value) (o4 : Value), val 12 = .pointer (some ⟨B6, 0, none⟩) ∧ G 12 = boxG B6 29 #[o0, o1, o2, o3, o4]
  | 13 => ∃ (B6 : Nat) (b1 : Option Addr) (d1 : Nat) (b2 : Option Addr) (d2 : Nat) (b3 : Option Addr) (d3 : Nat) (b4 : Option Addr) (d4 : Nat), val 12 = .pointer (some ⟨B6, 0, none⟩) ∧ val 10 = .agg #[.int .i64 R, .slice b1 m d1, .slice b2 m d2, .slice b3 m d3, .slice b4 n2 d4] ∧ G 12 = boxG B6 29 #[.int .i64 R, .slice b1 m d1, .slice b2 m d2, .slice b3 m d3, .slice b4 n2 d4]
  | 14 => val 14 = .bool b
  | _ => True
def ShkGDep : Nat → List Nat
  | 2 => [1] | 3 => [2] | 5 => [4] | 6 => [5] | 7 => [3, 6] | 8 => [0, 7] | 9 => [8] | 10 => [9] | 11 => [9] | 13 => [12, 10] | 14 => [11] | _ => []
theorem ShkG_local (R : Int) (g1 g2 g3 g4 n1 n2 m c1 c2 c3 c4 k gp cp B3 : Nat) (b : Bool) (p0 : Int) (ys : List C3) (mr tr bs : List Int) : Local ShkGDep (ShkG R g1 g2 g3 g4 n1 n2 m c1 c2 c3 c4 k gp cp B3 b p0 ys mr tr bs) := by
  intro val val' G G' j hk h
  match j with
  | 0 => exact (hk 0 (.inl rfl)).1.trans h
  | 1 => exact (hk 1 (.inl rfl)).1.trans h
  | 2 => exact (hk 2 (.inl rfl)).1.trans h
  | 3 => exact (hk 3 (.inl rfl)).1.trans h
  | 4 => exact (hk 4 (.inl rfl)).1.trans h
  | 5 => exact (hk 5 (.inl rfl)).1.trans h
  | 6 => exact (hk 6 (.inl rfl)).1.trans h
  | 7 => exact (hk 7 (.inl rfl)).1.trans h
  | 8 => obtain ⟨b1, d1, b2, d2, b3, d3, b4, d4, h0, h1⟩ := h; exact ⟨b1, d1, b2, d2, b3, d3, b4, d4, (hk 8 (.inl rfl)).1.trans h0, (hk 8 (.inl rfl)).2.trans h1⟩
  | 9 => obtain ⟨b1, d1, b2, d2, b3, d3, b4, d4, h0, h1⟩ := h; exact ⟨b1, d1, b2, d2, b3, d3, b4, d4, (hk 9 (.inl rfl)).1.trans h0, (hk 8 (.inr (by simp [ShkGDep]))).1.trans h1⟩
  | 10 => obtain ⟨b1, d1, b2, d2, b3, d3, b4, d4, h0, h1⟩ := h; exact ⟨b1, d1, b2, d2, b3, d3, b4, d4, (hk 10 (.inl rfl)).1.trans h0, (hk 9 (.inr (by simp [ShkGDep]))).1.trans h1⟩
  | 11 => exact (hk 11 (.inl rfl)).1.trans h
  | 12 => obtain ⟨B6, o0, o1, o2, o3, o4, h0, h1⟩ := h; exact ⟨B6, o0, o1, o2, o3, o4, (hk 12 (.inl rfl)).1.trans h0, (hk 12 (.inl rfl)).2.trans h1⟩
  | 13 => obtain ⟨B6, b1, d1, b2, d2, b3, d3, b4, d4, h0, h1, h2⟩ := h; exact ⟨B6, b1, d1, b2, d2, b3, d3, b4, d4, (hk 12 (.inr (by simp [ShkGDep]))).1.trans h0, (hk 10 (.inr (by simp [ShkGDep]))).1.trans h1, (hk 12 (.inr (by simp [ShkGDep]))).2.trans h2⟩
  | 14 => exact (hk 14 (.inl rfl)).1.trans h
  | _ + 15 => trivial
end Go.Proofs.Ytfoilfgiablleaa.State
