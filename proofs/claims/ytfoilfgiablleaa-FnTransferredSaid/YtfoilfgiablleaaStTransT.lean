/- States: the tables of the regions of the law of the transfer that draw their order (written by wip/tools/fntransfer.py); a valid state's sizes.
   Conditions: none. -/
import Derived.Test.YtfoilfgiablleaaStTrBoth
import Derived.Test.YtfoilfgiablleaaStPutL
import Derived.Test.YtfoilfgiablleaaStSame
set_option maxRecDepth 100000
namespace Go.Proofs.Ytfoilfgiablleaa.State
open Go.ChangeShapes Go.WideShapes Go.ChangeAt Go.RowKit Go.Proofs.Ytfoilfgiablleaa.Cell Go.Proofs.Ytfoilfgiablleaa.Mesh Go.Proofs.Ytfoilfgiablleaa.Law Go.Proofs.Ytfoilfgiablleaa.Ints Go.Proofs.Ytfoilfgiablleaa.Draws
set_option linter.unusedVariables false

theorem ok_sizes {R : Int} {xs : List C3} {ms ts bs : List Int} (h : stOk R xs ms ts bs = true) : ms.length = xs.length ∧ ts.length = xs.length ∧ 1 ≤ xs.length ∧ xs.length ≤ 128 := by
  obtain ⟨hp, -⟩ := pre_of h
  obtain ⟨-, h1, h2⟩ := mesh_parts hp.mesh
  exact ⟨hp.lm, hp.lt, h1, h2⟩
theorem brB_at {R : Int} {xs : List C3} {ms ts bs : List Int} {k : Nat} {x : C3} (h : stOk R xs ms ts bs = true) (hx : xs[k]? = some x) : brB R xs ms ts bs k = decide (x.2.1 < 4) := by
  unfold brB
  rw [h, mayRef_in (pre_of h).1.mesh hx]
  rfl

/-- What each operation leaves. -/
def TrGa (R : Int) (g1 g2 g3 g4 n1 n2 c1 c2 c3 c4 k B3 B6 v1 v2 v3 v4 m d1 d2 d3 d4 : Nat) (M T lv : Int) (b : Bool) (val : Nat → Value) (G : Nat → Grp) : Nat → Prop
  | 0 => val 0 = .agg #[.int .i64 R, .slice (some ⟨v1, 0, none⟩) m d1, .slice (some ⟨v2, 0, none⟩) m d2, .slice (some ⟨v3, 0, none⟩) m d3, .slice (some ⟨v4, 0, none⟩) n2 d4]
  | 1 => val 1 = .bool true
  | 2 => val 2 = .bool false
  | 3 => val 3 = .bool false
  | 4 => val 4 = .bool b
  | 5 => val 5 = .pointer (some ⟨B3, 0, none⟩)
  | 6 => val 6 = .pointer (some ⟨B3, 1, none⟩)
  | 7 => val 7 = .slice (some ⟨g1, 0, none⟩) n1 c1
  | 8 => val 8 = .int .i64 (k : Int)
  | 9 => val 9 = .pointer (some ⟨g1, (k * 3), none⟩)
  | 10 => val 10 = .pointer (some ⟨g1, (k * 3 + 1), none⟩)
  | 11 => val 11 = .int .i64 lv
  | 12 => val 12 = .bool b
  | 13 => val 13 = .bool false
  | 14 => val 14 = .bool false
  | 15 => val 15 = .bool false
  | 16 => val 16 = .agg #[.int .i64 R, .slice (some ⟨v1, 0, none⟩) m d1, .slice (some ⟨v2, 0, none⟩) m d2, .slice (some ⟨v3, 0, none⟩) m d3, .slice (some ⟨v4, 0, none⟩) n2 d4]
  | 17 => val 17 = .int .i64 M
  | 18 => val 18 = .agg #[.int .i64 R, .slice (some ⟨g1, 0, none⟩) n1 c1, .slice (some ⟨g2, 0, none⟩) n1 c2, .slice (some ⟨g3, 0, none⟩) n1 c3, .slice (some ⟨g4, 0, none⟩) n2 c4]
  | 19 => val 19 = .int .i64 M
  | 20 => val 20 = .bool false
  | 21 => val 21 = .bool false
  | 22 => val 22 = .bool false
  | 23 => val 23 = .agg #[.int .i64 R, .slice (some ⟨v1, 0, none⟩) m d1, .slice (some ⟨v2, 0, none⟩) m d2, .slice (some ⟨v3, 0, none⟩) m d3, .slice (some ⟨v4, 0, none⟩) n2 d4]
  | 24 => val 24 = .int .i64 T
  | 25 => val 25 = .agg #[.int .i64 R, .slice (some ⟨g1, 0, none⟩) n1 c1, .slice (some ⟨g2, 0, none⟩) n1 c2, .slice (some ⟨g3, 0, none⟩) n1 c3, .slice (some ⟨g4, 0, none⟩) n2 c4]
  | 26 => val 26 = .int .i64 T
  | 27 => val 27 = .bool false
  | 28 => val 28 = .bool false
  | _ => True
def TrGaDep : Nat → List Nat
  | 1 => [0] | 2 => [1] | 3 => [2] | 4 => [3] | 5 => [3] | 6 => [5, 3] | 7 => [6, 3] | 8 => [3] | 9 => [7, 8, 3] | 10 => [9, 3] | 11 => [10, 3] | 12 => [11, 3] | 13 => [4, 12, 3] | 14 => [3, 13] | 15 => [14] | 16 => [15] | 17 => [16, 15] | 18 => [15] | 19 => [18, 15] | 20 => [17, 19, 15] | 21 => [15, 20] | 22 => [21] | 23 => [22] | 24 => [23, 22] | 25 => [22] | 26 => [25, 22] | 27 => [24, 26, 22] | 28 => [22, 27] | _ => []
theorem TrGa_local (R : Int) (g1 g2 g3 g4 n1 n2 c1 c2 c3 c4 k B3 B6 v1 v2 v3 v4 m d1 d2 d3 d4 : Nat) (M T lv : Int) (b : Bool) : Local TrGaDep (TrGa R g1 g2 g3 g4 n1 n2 c1 c2 c3 c4 k B3 B6 v1 v2 v3 v4 m d1 d2 d3 d4 M T lv b) := by
  intro val val' G G' j hk h
  match j with
  | 0 => exact (hk 0 (.inl rfl)).1.trans h
  | 1 => exact (hk 1 (.inl rfl)).1.trans h
  | 2 => exact (hk 2 (.inl rfl)).1.trans h
  | 3 => exact (hk 3 (.inl rfl)).1.trans h
  | 4 => exact (hk 4 (.inl rfl)).1.trans h
  | 5 => exact (hk 5 (.inl rfl)).1.trans h
  | 6 => exact (hk 6 (.inl rfl)).1.trans h
  | 7 => exact (hk 7 (.inl rfl)).1.trans h
  | 8 => exact (hk 8 (.inl rfl)).1.trans h
  | 9 => exact (hk 9 (.inl rfl)).1.trans h
  | 10 => exact (hk 10 (.inl rfl)).1.trans h
  | 11 => exact (hk 11 (.inl rfl)).1.trans h
  | 12 => exact (hk 12 (.inl rfl)).1.trans h
  | 13 => exact (hk 13 (.inl rfl)).1.trans h
  | 14 => exact (hk 14 (.inl rfl)).1.trans h
  | 15 => exact (hk 15 (.inl rfl)).1.trans h
  | 16 => exact (hk 16 (.inl rfl)).1.trans h
  | 17 => exact (hk 17 (.inl rfl)).1.trans h
  | 18 => exact (hk 18 (.inl rfl)).1.trans h
  | 19 => exact (hk 19 (.inl rfl)).1.trans h
  | 20 => exact (hk 20 (.inl rfl)).1.trans h
  | 21 => exact (hk 21 (.inl rfl)).1.trans h
  | 22 => exact (hk 22 (.inl rfl)).1.trans h
  | 23 => exact (hk 23 (.inl rfl)).1.trans h
  | 24 => exact (hk 24 (.inl rfl)).1.trans h
  | 25 => exact (hk 25 (.inl rfl)).1.trans h
  | 26 => exact (hk 26 (.inl rfl)).1.trans h
  | 27 => exact (hk 27 (.inl rfl)).1.trans h
  | 28 => exact (hk 28 (.inl rfl)).1.trans h
  | _ + 29 => trivial

/-- What each operation leaves. -/
def TrGb (R : Int) (g1 g2 g3 g4 n1 n2 c1 c2 c3 c4 j B3 B6 B9 v1 v2 v3 v4 m d1 d2 d3 d4 u1 u2 u3 u4 l f1 f2 f3 f4 : Nat) (M T : Int) (b2 : Bool) (val : Nat → Value) (G : Nat → Grp) : Nat → Prop
  | 0 => val 0 = .agg #[.int .i64 R, .slice (some ⟨u1, 0, none⟩) l f1, .slice (some ⟨u2, 0, none⟩) l f2, .slice (some ⟨u3, 0, none⟩) l f3, .slice (some ⟨u4, 0, none⟩) n2 f4]
  | 1 => val 1 = .bool true
  | 2 => val 2 = .bool false
  | 3 => val 3 = .bool false
  | 4 => val 4 = .bool b2
  | 5 => val 5 = .pointer (some ⟨B6, 0, none⟩)
  | 6 => val 6 = .agg #[.int .i64 R, .slice (some ⟨v1, 0, none⟩) m d1]
  | 7 => val 7 = .int .i64 (j : Int)
  | 8 => val 8 = .bool b2
  | 9 => val 9 = .bool false
  | 10 => val 10 = .bool false
  | 11 => val 11 = .bool false
  | 12 => val 12 = .agg #[.int .i64 R, .slice (some ⟨u1, 0, none⟩) l f1, .slice (some ⟨u2, 0, none⟩) l f2, .slice (some ⟨u3, 0, none⟩) l f3, .slice (some ⟨u4, 0, none⟩) n2 f4]
  | 13 => val 13 = .int .i64 M
  | 14 => val 14 = .agg #[.int .i64 R, .slice (some ⟨g1, 0, none⟩) n1 c1, .slice (some ⟨g2, 0, none⟩) n1 c2, .slice (some ⟨g3, 0, none⟩) n1 c3, .slice (some ⟨g4, 0, none⟩) n2 c4]
  | 15 => val 15 = .int .i64 M
  | 16 => val 16 = .bool false
  | 17 => val 17 = .bool false
  | 18 => val 18 = .bool false
  | 19 => val 19 = .agg #[.int .i64 R, .slice (some ⟨u1, 0, none⟩) l f1, .slice (some ⟨u2, 0, none⟩) l f2, .slice (some ⟨u3, 0, none⟩) l f3, .slice (some ⟨u4, 0, none⟩) n2 f4]
  | 20 => val 20 = .int .i64 T
  | 21 => val 21 = .agg #[.int .i64 R, .slice (some ⟨g1, 0, none⟩) n1 c1, .slice (some ⟨g2, 0, none⟩) n1 c2, .slice (some ⟨g3, 0, none⟩) n1 c3, .slice (some ⟨g4, 0, none⟩) n2 c4]
  | 22 => val 22 = .int .i64 T
  | 23 => val 23 = .bool false
  | 24 => val 24 = .bool false
  | _ => True
def TrGbDep : Nat → List Nat
  | 1 => [0] | 2 => [1] | 3 => [2] | 4 => [3] | 5 => [3] | 6 => [5, 3] | 7 => [3] | 8 => [6, 7, 3] | 9 => [4, 8, 3] | 10 => [3, 9] | 11 => [10] | 12 => [11] | 13 => [12, 11] | 14 => [11] | 15 => [14, 11] | 16 => [13, 15, 11] | 17 => [11, 16] | 18 => [17] | 19 => [18] | 20 => [19, 18] | 21 => [18] | 22 => [21, 18] | 23 => [20, 22, 18] | 24 => [18, 23] | _ => []
theorem TrGb_local (R : Int) (g1 g2 g3 g4 n1 n2 c1 c2 c3 c4 j B3 B6 B9 v1 v2 v3 v4 m d1 d2 d3 d4 u1 u2 u3 u4 l f1 f2 f3 f4 : Nat) (M T : Int) (b2 : Bool) : Local TrGbDep (TrGb R g1 g2 g3 g4 n1 n2 c1 c2 c3 c4 j B3 B6 B9 v1 v2 v3 v4 m d1 d2 d3 d4 u1 u2 u3 u4 l f1 f2 f3 f4 M T b2) := by
  intro val val' G G' j hk h
  match j with
  | 0 => exact (hk 0 (.inl rfl)).1.trans h
  | 1 => exact (hk 1 (.inl rfl)).1.trans h
  | 2 => exact (hk 2 (.inl rfl)).1.trans h
  | 3 => exact (hk 3 (.inl rfl)).1.trans h
  | 4 => exact (hk 4 (.inl rfl)).1.trans h
  | 5 => exact (hk 5 (.inl rfl)).1.trans h
  | 6 => exact (hk 6 (.inl rfl)).1.trans h
  | 7 => exact (hk 7 (.inl rfl)).1.trans h
  | 8 => exact (hk 8 (.inl rfl)).1.trans h
  | 9 => exact (hk 9 (.inl rfl)).1.trans h
  | 10 => exact (hk 10 (.inl rfl)).1.trans h
  | 11 => exact (hk 11 (.inl rfl)).1.trans h
  | 12 => exact (hk 12 (.inl rfl)).1.trans h
  | 13 => exact (hk 13 (.inl rfl)).1.trans h
  | 14 => exact (hk 14 (.inl rfl)).1.trans h
  | 15 => exact (hk 15 (.inl rfl)).1.trans h
  | 16 => exact (hk 16 (.inl rfl)).1.trans h
  | 17 => exact (hk 17 (.inl rfl)).1.trans h
  | 18 => exact (hk 18 (.inl rfl)).1.trans h
  | 19 => exact (hk 19 (.inl rfl)).1.trans h
  | 20 => exact (hk 20 (.inl rfl)).1.trans h
  | 21 => exact (hk 21 (.inl rfl)).1.trans h
  | 22 => exact (hk 22 (.inl rfl)).1.trans h
  | 23 => exact (hk 23 (.inl rfl)).1.trans h
  | 24 => exact (hk 24 (.inl rfl)).1.trans h
  | _ + 25 => trivial
end Go.Proofs.Ytfoilfgiablleaa.State
