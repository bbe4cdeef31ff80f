/- States: the tables of the regions of l09Flux and SteepestFace of the reference model that draw their order (written by wip/tools/stflux.py).
   Conditions: none. -/
import Derived.Test.YtnelgnfahkljmaaPkReg
import Derived.Test.YtnelgnfahkljmaaStFluxS
import Derived.Test.YtnelgnfahkljmaaStCopy
set_option maxRecDepth 100000
namespace Go.Proofs.Ytnelgnfahkljmaa.State
open Go.ChangeShapes Go.WideShapes Go.ChangeAt Go.RowKit Go.Joins Go.Proofs.Ytnelgnfahkljmaa.Cell Go.Proofs.Ytnelgnfahkljmaa.Mesh Go.Proofs.Ytnelgnfahkljmaa.Law Go.Proofs.Ytnelgnfahkljmaa.Ints Go.Proofs.Ytnelgnfahkljmaa.Draws Go.Deep
set_option linter.unusedVariables false

/-- What each operation leaves. -/
def FxG (R : Int) (g1 g2 o2 : Nat) (a3 a4 : Option Addr) (n2 n3 n4 c1 c2 c3 c4 k B : Nat) (s t ma mb la lb F : Int) (val : Nat → Value) (G : Nat → Grp) : Nat → Prop
  | 0 => val 0 = .agg #[.int .i64 R, .slice (some ⟨g1, 0, none⟩) n2 c1, .slice (some ⟨g2, o2, none⟩) n2 c2, .slice a3 n3 c3, .slice a4 n4 c4]
  | 1 => val 1 = .int .i64 (k : Int)
  | 2 => val 2 = .int .i64 s
  | 3 => val 3 = .agg #[.int .i64 R, .slice (some ⟨g1, 0, none⟩) n2 c1, .slice (some ⟨g2, o2, none⟩) n2 c2, .slice a3 n3 c3, .slice a4 n4 c4]
  | 4 => val 4 = .int .i64 (k : Int)
  | 5 => val 5 = .int .i64 ((k : Int) + 1)
  | 6 => val 6 = .int .i64 t
  | 7 => val 7 = .pointer (some ⟨B, 2, none⟩)
  | 8 => val 8 = .slice (some ⟨g2, o2, none⟩) n2 c2
  | 9 => val 9 = .int .i64 (k : Int)
  | 10 => val 10 = .pointer (some ⟨g2, (o2 + k), none⟩)
  | 11 => val 11 = .int .i64 ma
  | 12 => val 12 = .pointer (some ⟨B, 2, none⟩)
  | 13 => val 13 = .slice (some ⟨g2, o2, none⟩) n2 c2
  | 14 => val 14 = .int .i64 (k : Int)
  | 15 => val 15 = .int .i64 ((k : Int) + 1)
  | 16 => val 16 = .pointer (some ⟨g2, (o2 + (k + 1)), none⟩)
  | 17 => val 17 = .int .i64 mb
  | 18 => val 18 = .pointer (some ⟨B, 0, none⟩)
  | 19 => val 19 = .pointer (some ⟨B, 1, none⟩)
  | 20 => val 20 = .slice (some ⟨g1, 0, none⟩) n2 c1
  | 21 => val 21 = .int .i64 (k : Int)
  | 22 => val 22 = .pointer (some ⟨g1, (k * 3), none⟩)
  | 23 => val 23 = .pointer (some ⟨g1, (k * 3 + 1), none⟩)
  | 24 => val 24 = .int .i64 la
  | 25 => val 25 = .pointer (some ⟨B, 0, none⟩)
  | 26 => val 26 = .pointer (some ⟨B, 1, none⟩)
  | 27 => val 27 = .slice (some ⟨g1, 0, none⟩) n2 c1
  | 28 => val 28 = .int .i64 (k : Int)
  | 29 => val 29 = .int .i64 ((k : Int) + 1)
  | 30 => val 30 = .pointer (some ⟨g1, ((k + 1) * 3), none⟩)
  | 31 => val 31 = .pointer (some ⟨g1, ((k + 1) * 3 + 1), none⟩)
  | 32 => val 32 = .int .i64 lb
  | 33 => val 33 = .int .i64 F
  | 34 => val 34 = .int .i64 F
  | _ => True
def FxGDep : Nat → List Nat
  | 2 => [0, 1] | 5 => [4] | 6 => [3, 5] | 8 => [7] | 10 => [8, 9] | 11 => [10] | 13 => [12] | 15 => [14] | 16 => [13, 15] | 17 => [16] | 19 => [18] | 20 => [19] | 22 => [20, 21] | 23 => [22] | 24 => [23] | 26 => [25] | 27 => [26] | 29 => [28] | 30 => [27, 29] | 31 => [30] | 32 => [31] | 33 => [2, 6, 11, 17, 24, 32] | 34 => [33] | _ => []
theorem FxG_local (R : Int) (g1 g2 o2 : Nat) (a3 a4 : Option Addr) (n2 n3 n4 c1 c2 c3 c4 k B : Nat) (s t ma mb la lb F : Int) : Local FxGDep (FxG R g1 g2 o2 a3 a4 n2 n3 n4 c1 c2 c3 c4 k B s t ma mb la lb F) := by
  intro val val' G G' j hk h
  match j with
  | 0 => exact (hk 0 (.inl rfl)).1.trans h
  | 1 => exact (hk 1 (.inl rfl)).1.trans h
  | 2 => exact (hk 2 (.inl rfl)).1.trans h
  | 3 => exact (hk 3 (.inl rfl)).1.trans h
  | 4 => exact (hk 4 (.inl rfl)).1.trans h
  | 5 => exact (hk 5 (.inl rfl)).1.trans h
  | 6 => exact (hk 6 (.inl rfl)).1.trans h
  | 7 => exact (hk 7 (.inl rfl)).1.trans h
  | 8 => exact (hk 8 (.inl rfl)).1.trans h
  | 9 => exact (hk 9 (.inl rfl)).1.trans h
  | 10 => exact (hk 10 (.inl rfl)).1.trans h
  | 11 => exact (hk 11 (.inl rfl)).1.trans h
  | 12 => exact (hk 12 (.inl rfl)).1.trans h
  | 13 => exact (hk 13 (.inl rfl)).1.trans h
  | 14 => exact (hk 14 (.inl rfl)).1.trans h
  | 15 => exact (hk 15 (.inl rfl)).1.trans h
  | 16 => exact (hk 16 (.inl rfl)).1.trans h
  | 17 => exact (hk 17 (.inl rfl)).1.trans h
  | 18 => exact (hk 18 (.inl rfl)).1.trans h
  | 19 => exact (hk 19 (.inl rfl)).1.trans h
  | 20 => exact (hk 20 (.inl rfl)).1.trans h
  | 21 => exact (hk 21 (.inl rfl)).1.trans h
  | 22 => exact (hk 22 (.inl rfl)).1.trans h
  | 23 => exact (hk 23 (.inl rfl)).1.trans h
  | 24 => exact (hk 24 (.inl rfl)).1.trans h
  | 25 => exact (hk 25 (.inl rfl)).1.trans h
  | 26 => exact (hk 26 (.inl rfl)).1.trans h
  | 27 => exact (hk 27 (.inl rfl)).1.trans h
  | 28 => exact (hk 28 (.inl rfl)).1.trans h
  | 29 => exact (hk 29 (.inl rfl)).1.trans h
  | 30 => exact (hk 30 (.inl rfl)).1.trans h
  | 31 => exact (hk 31 (.inl rfl)).1.trans h
  | 32 => exact (hk 32 (.inl rfl)).1.trans h
  | 33 => exact (hk 33 (.inl rfl)).1.trans h
  | 34 => exact (hk 34 (.inl rfl)).1.trans h
  | _ + 35 => trivial

/-- What each operation leaves. -/
def StpG (R : Int) (a1 a2 a3 a4 : Option Addr) (n1 n2 n3 n4 c1 c2 c3 c4 k B : Nat) (s t F : Int) (val : Nat → Value) (G : Nat → Grp) : Nat → Prop
  | 0 => val 0 = .agg #[.int .i64 R, .slice a1 n1 c1, .slice a2 n2 c2, .slice a3 n3 c3, .slice a4 n4 c4]
  | 1 => val 1 = .int .i64 (k : Int)
  | 2 => val 2 = .int .i64 s
  | 3 => val 3 = .agg #[.int .i64 R, .slice a1 n1 c1, .slice a2 n2 c2, .slice a3 n3 c3, .slice a4 n4 c4]
  | 4 => val 4 = .int .i64 (k : Int)
  | 5 => val 5 = .int .i64 ((k : Int) + 1)
  | 6 => val 6 = .int .i64 t
  | 7 => val 7 = .int .i64 F
  | 8 => val 8 = .int .i64 F
  | _ => True
def StpGDep : Nat → List Nat
  | 2 => [0, 1] | 5 => [4] | 6 => [3, 5] | 7 => [2, 6] | 8 => [7] | _ => []
theorem StpG_local (R : Int) (a1 a2 a3 a4 : Option Addr) (n1 n2 n3 n4 c1 c2 c3 c4 k B : Nat) (s t F : Int) : Local StpGDep (StpG R a1 a2 a3 a4 n1 n2 n3 n4 c1 c2 c3 c4 k B s t F) := by
  intro val val' G G' j hk h
  match j with
  | 0 => exact (hk 0 (.inl rfl)).1.trans h
  | 1 => exact (hk 1 (.inl rfl)).1.trans h
  | 2 => exact (hk 2 (.inl rfl)).1.trans h
  | 3 => exact (hk 3 (.inl rfl)).1.trans h
  | 4 => exact (hk 4 (.inl rfl)).1.trans h
  | 5 => exact (hk 5 (.inl rfl)).1.trans h
  | 6 => exact (hk 6 (.inl rfl)).1.trans h
  | 7 => exact (hk 7 (.inl rfl)).1.trans h
  | 8 => exact (hk 8 (.inl rfl)).1.trans h
  | _ + 9 => trivial
end Go.Proofs.Ytnelgnfahkljmaa.State
