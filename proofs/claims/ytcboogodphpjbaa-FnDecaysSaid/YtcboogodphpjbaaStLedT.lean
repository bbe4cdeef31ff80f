/- Ledgers: the tables of LedgerHolds' region, which draws its order, one for each way its guards go; an operation whose guard is not met (written by wip/tools/stledh.py).
   Conditions: none. -/
import Derived.Test.YtcboogodphpjbaaStLedK
import Derived.Test.YtcboogodphpjbaaPkReg
set_option maxRecDepth 100000
namespace Go.Proofs.Ytcboogodphpjbaa.Draws
open Go Go.ChangeShapes Go.WideShapes Go.ChangeAt Go.RowKit Go.Proofs.Ytcboogodphpjbaa.Law
section
variable {P : Program} {ops : Array Oper} {Q : Exit → Act → World → Prop} {a : Act} {w : World}
/-- An operation whose guard is not met leaves nothing. -/
theorem wpOp_not {i : Nat} {o : Oper} {K : Act → World → Prop} (hi : ops[i]? = some o) (hw : Region.wanted o (yielded ops a.tmps) = false) (h : K (a.put o.dst undef) w) : wpOp P ops Q i K a w := by
  unfold wpOp
  rw [hi]
  simp only [hw]
  exact h
theorem want_off {o : Oper} {b c : Bool} (j d : Nat) (hg : o.guard = some (j, b)) (hs : slotOf ops j = some d) (ha : At a d (.bool c)) (hne : c ≠ b) : Region.wanted o (yielded ops a.tmps) = false := by
  have hy : yielded ops a.tmps j = some c := by
    unfold yielded
    rw [show (ops[j]?).bind (fun x => x.dst) = some d from hs, Option.bind_some, show a.tmps[d]? = some (.bool c) from ha]
  cases b <;> cases c <;> simp_all [Region.wanted]
end
end Go.Proofs.Ytcboogodphpjbaa.Draws
namespace Go.Proofs.Ytcboogodphpjbaa.State
open Go.ChangeShapes Go.WideShapes Go.ChangeAt Go.RowKit Go.Proofs.Ytcboogodphpjbaa.Cell Go.Proofs.Ytcboogodphpjbaa.Mesh Go.Proofs.Ytcboogodphpjbaa.Law Go.Proofs.Ytcboogodphpjbaa.Ints Go.Proofs.Ytcboogodphpjbaa.Draws
set_option linter.unusedVariables false

/-- What each operation leaves. -/
def HoldA (R R' : Int) (a1 a2 a3 a4 b1 b2 b3 b4 : Option Addr) (n1 n2 n3 n4 c1 c2 c3 c4 m1 m2 m3 m4 d1 d2 d3 d4 K : Nat) (p q r s U V Y Z U1 U2 Y1 Y2 : Int) (val : Nat → Value) (G : Nat → Grp) : Nat → Prop
  | 0 => val 0 = .agg #[.int .i64 R, .slice a1 n1 c1, .slice a2 n2 c2, .slice a3 n3 c3, .slice a4 n4 c4]
  | 1 => val 1 = .bool false
  | 2 => val 2 = .bool false
  | 3 => val 3 = undef
  | 4 => val 4 = undef
  | 5 => val 5 = .bool false
  | 6 => val 6 = .bool false
  | 7 => val 7 = undef
  | 8 => val 8 = undef
  | 9 => val 9 = undef
  | 10 => val 10 = undef
  | 11 => val 11 = undef
  | 12 => val 12 = undef
  | 13 => val 13 = undef
  | 14 => val 14 = undef
  | 15 => val 15 = undef
  | 16 => val 16 = undef
  | 17 => val 17 = undef
  | 18 => val 18 = .bool false
  | 19 => val 19 = .bool false
  | 20 => val 20 = undef
  | 21 => val 21 = undef
  | 22 => val 22 = undef
  | 23 => val 23 = undef
  | 24 => val 24 = undef
  | 25 => val 25 = undef
  | 26 => val 26 = undef
  | 27 => val 27 = undef
  | 28 => val 28 = undef
  | 29 => val 29 = undef
  | 30 => val 30 = undef
  | 31 => val 31 = .bool false
  | 32 => val 32 = .bool false
  | _ => True
def HoldADep : Nat → List Nat
  | 1 => [0] | 2 => [1] | 3 => [2] | 4 => [3, 2] | 5 => [2, 4] | 6 => [5] | 7 => [6] | 8 => [7, 6] | 9 => [6] | 10 => [9, 6] | 11 => [6] | 12 => [11, 6] | 13 => [10, 12, 6] | 14 => [6] | 15 => [14, 6] | 16 => [13, 15, 6] | 17 => [8, 16, 6] | 18 => [6, 17] | 19 => [18] | 20 => [19] | 21 => [20, 19] | 22 => [19] | 23 => [22, 19] | 24 => [19] | 25 => [24, 19] | 26 => [23, 25, 19] | 27 => [19] | 28 => [27, 19] | 29 => [26, 28, 19] | 30 => [21, 29, 19] | 31 => [19, 30] | 32 => [31] | _ => []
theorem HoldA_local (R R' : Int) (a1 a2 a3 a4 b1 b2 b3 b4 : Option Addr) (n1 n2 n3 n4 c1 c2 c3 c4 m1 m2 m3 m4 d1 d2 d3 d4 K : Nat) (p q r s U V Y Z U1 U2 Y1 Y2 : Int) : Local HoldADep (HoldA R R' a1 a2 a3 a4 b1 b2 b3 b4 n1 n2 n3 n4 c1 c2 c3 c4 m1 m2 m3 m4 d1 d2 d3 d4 K p q r s U V Y Z U1 U2 Y1 Y2) := by
  intro val val' G G' j hk h
  match j with
  | 0 => exact (hk 0 (.inl rfl)).1.trans h
  | 1 => exact (hk 1 (.inl rfl)).1.trans h
  | 2 => exact (hk 2 (.inl rfl)).1.trans h
  | 3 => exact (hk 3 (.inl rfl)).1.trans h
  | 4 => exact (hk 4 (.inl rfl)).1.trans h
  | 5 => exact (hk 5 (.inl rfl)).1.trans h
  | 6 => exact (hk 6 (.inl rfl)).1.trans h
  | 7 => exact (hk 7 (.inl rfl)).1.trans h
  | 8 => exact (hk 8 (.inl rfl)).1.trans h
  | 9 => exact (hk 9 (.inl rfl)).1.trans h
  | 10 => exact (hk 10 (.inl rfl)).1.trans h
  | 11 => exact (hk 11 (.inl rfl)).1.trans h
  | 12 => exact (hk 12 (.inl rfl)).1.trans h
  | 13 => exact (hk 13 (.inl rfl)).1.trans h
  | 14 => exact (hk 14 (.inl rfl)).1.trans h
  | 15 => exact (hk 15 (.inl rfl)).1.trans h
  | 16 => exact (hk 16 (.inl rfl)).1.trans h
  | 17 => exact (hk 17 (.inl rfl)).1.trans h
  | 18 => exact (hk 18 (.inl rfl)).1.trans h
  | 19 => exact (hk 19 (.inl rfl)).1.trans h
  | 20 => exact (hk 20 (.inl rfl)).1.trans h
  | 21 => exact (hk 21 (.inl rfl)).1.trans h
  | 22 => exact (hk 22 (.inl rfl)).1.trans h
  | 23 => exact (hk 23 (.inl rfl)).1.trans h
  | 24 => exact (hk 24 (.inl rfl)).1.trans h
  | 25 => exact (hk 25 (.inl rfl)).1.trans h
  | 26 => exact (hk 26 (.inl rfl)).1.trans h
  | 27 => exact (hk 27 (.inl rfl)).1.trans h
  | 28 => exact (hk 28 (.inl rfl)).1.trans h
  | 29 => exact (hk 29 (.inl rfl)).1.trans h
  | 30 => exact (hk 30 (.inl rfl)).1.trans h
  | 31 => exact (hk 31 (.inl rfl)).1.trans h
  | 32 => exact (hk 32 (.inl rfl)).1.trans h
  | _ + 33 => trivial

/-- What each operation leaves. -/
def HoldB (R R' : Int) (a1 a2 a3 a4 b1 b2 b3 b4 : Option Addr) (n1 n2 n3 n4 c1 c2 c3 c4 m1 m2 m3 m4 d1 d2 d3 d4 K : Nat) (p q r s U V Y Z U1 U2 Y1 Y2 : Int) (val : Nat → Value) (G : Nat → Grp) : Nat → Prop
  | 0 => val 0 = .agg #[.int .i64 R, .slice a1 n1 c1, .slice a2 n2 c2, .slice a3 n3 c3, .slice a4 n4 c4]
  | 1 => val 1 = .bool true
  | 2 => val 2 = .bool true
  | 3 => val 3 = .agg #[.int .i64 R', .slice b1 m1 d1, .slice b2 m2 d2, .slice b3 m3 d3, .slice b4 m4 d4]
  | 4 => val 4 = .bool false
  | 5 => val 5 = .bool false
  | 6 => val 6 = .bool false
  | 7 => val 7 = undef
  | 8 => val 8 = undef
  | 9 => val 9 = undef
  | 10 => val 10 = undef
  | 11 => val 11 = undef
  | 12 => val 12 = undef
  | 13 => val 13 = undef
  | 14 => val 14 = undef
  | 15 => val 15 = undef
  | 16 => val 16 = undef
  | 17 => val 17 = undef
  | 18 => val 18 = .bool false
  | 19 => val 19 = .bool false
  | 20 => val 20 = undef
  | 21 => val 21 = undef
  | 22 => val 22 = undef
  | 23 => val 23 = undef
  | 24 => val 24 = undef
  | 25 => val 25 = undef
  | 26 => val 26 = undef
  | 27 => val 27 = undef
  | 28 => val 28 = undef
  | 29 => val 29 = undef
  | 30 => val 30 = undef
  | 31 => val 31 = .bool false
  | 32 => val 32 = .bool false
  | _ => True
def HoldBDep : Nat → List Nat
  | 1 => [0] | 2 => [1] | 3 => [2] | 4 => [3, 2] | 5 => [2, 4] | 6 => [5] | 7 => [6] | 8 => [7, 6] | 9 => [6] | 10 => [9, 6] | 11 => [6] | 12 => [11, 6] | 13 => [10, 12, 6] | 14 => [6] | 15 => [14, 6] | 16 => [13, 15, 6] | 17 => [8, 16, 6] | 18 => [6, 17] | 19 => [18] | 20 => [19] | 21 => [20, 19] | 22 => [19] | 23 => [22, 19] | 24 => [19] | 25 => [24, 19] | 26 => [23, 25, 19] | 27 => [19] | 28 => [27, 19] | 29 => [26, 28, 19] | 30 => [21, 29, 19] | 31 => [19, 30] | 32 => [31] | _ => []
theorem HoldB_local (R R' : Int) (a1 a2 a3 a4 b1 b2 b3 b4 : Option Addr) (n1 n2 n3 n4 c1 c2 c3 c4 m1 m2 m3 m4 d1 d2 d3 d4 K : Nat) (p q r s U V Y Z U1 U2 Y1 Y2 : Int) : Local HoldBDep (HoldB R R' a1 a2 a3 a4 b1 b2 b3 b4 n1 n2 n3 n4 c1 c2 c3 c4 m1 m2 m3 m4 d1 d2 d3 d4 K p q r s U V Y Z U1 U2 Y1 Y2) := by
  intro val val' G G' j hk h
  match j with
  | 0 => exact (hk 0 (.inl rfl)).1.trans h
  | 1 => exact (hk 1 (.inl rfl)).1.trans h
  | 2 => exact (hk 2 (.inl rfl)).1.trans h
  | 3 => exact (hk 3 (.inl rfl)).1.trans h
  | 4 => exact (hk 4 (.inl rfl)).1.trans h
  | 5 => exact (hk 5 (.inl rfl)).1.trans h
  | 6 => exact (hk 6 (.inl rfl)).1.trans h
  | 7 => exact (hk 7 (.inl rfl)).1.trans h
  | 8 => exact (hk 8 (.inl rfl)).1.trans h
  | 9 => exact (hk 9 (.inl rfl)).1.trans h
  | 10 => exact (hk 10 (.inl rfl)).1.trans h
  | 11 => exact (hk 11 (.inl rfl)).1.trans h
  | 12 => exact (hk 12 (.inl rfl)).1.trans h
  | 13 => exact (hk 13 (.inl rfl)).1.trans h
  | 14 => exact (hk 14 (.inl rfl)).1.trans h
  | 15 => exact (hk 15 (.inl rfl)).1.trans h
  | 16 => exact (hk 16 (.inl rfl)).1.trans h
  | 17 => exact (hk 17 (.inl rfl)).1.trans h
  | 18 => exact (hk 18 (.inl rfl)).1.trans h
  | 19 => exact (hk 19 (.inl rfl)).1.trans h
  | 20 => exact (hk 20 (.inl rfl)).1.trans h
  | 21 => exact (hk 21 (.inl rfl)).1.trans h
  | 22 => exact (hk 22 (.inl rfl)).1.trans h
  | 23 => exact (hk 23 (.inl rfl)).1.trans h
  | 24 => exact (hk 24 (.inl rfl)).1.trans h
  | 25 => exact (hk 25 (.inl rfl)).1.trans h
  | 26 => exact (hk 26 (.inl rfl)).1.trans h
  | 27 => exact (hk 27 (.inl rfl)).1.trans h
  | 28 => exact (hk 28 (.inl rfl)).1.trans h
  | 29 => exact (hk 29 (.inl rfl)).1.trans h
  | 30 => exact (hk 30 (.inl rfl)).1.trans h
  | 31 => exact (hk 31 (.inl rfl)).1.trans h
  | 32 => exact (hk 32 (.inl rfl)).1.trans h
  | _ + 33 => trivial

/-- What each operation leaves. -/
def HoldC (R R' : Int) (a1 a2 a3 a4 b1 b2 b3 b4 : Option Addr) (n1 n2 n3 n4 c1 c2 c3 c4 m1 m2 m3 m4 d1 d2 d3 d4 K : Nat) (p q r s U V Y Z U1 U2 Y1 Y2 : Int) (val : Nat → Value) (G : Nat → Grp) : Nat → Prop
  | 0 => val 0 = .agg #[.int .i64 R, .slice a1 n1 c1, .slice a2 n2 c2, .slice a3 n3 c3, .slice a4 n4 c4]
  | 1 => val 1 = .bool true
  | 2 => val 2 = .bool true
  | 3 => val 3 = .agg #[.int .i64 R', .slice b1 m1 d1, .slice b2 m2 d2, .slice b3 m3 d3, .slice b4 m4 d4]
  | 4 => val 4 = .bool true
  | 5 => val 5 = .bool true
  | 6 => val 6 = .bool true
  | 7 => val 7 = .agg #[.int .i64 R', .slice b1 m1 d1, .slice b2 m2 d2, .slice b3 m3 d3, .slice b4 m4 d4]
  | 8 => val 8 = .int .i64 V
  | 9 => val 9 = .agg #[.int .i64 R, .slice a1 n1 c1, .slice a2 n2 c2, .slice a3 n3 c3, .slice a4 n4 c4]
  | 10 => val 10 = .int .i64 U
  | 11 => val 11 = .pointer (some ⟨(K + 1 + 1), 0, none⟩)
  | 12 => val 12 = .int .i64 p
  | 13 => val 13 = .int .i64 U1
  | 14 => val 14 = .pointer (some ⟨(K + 1 + 1), 1, none⟩)
  | 15 => val 15 = .int .i64 q
  | 16 => val 16 = .int .i64 U2
  | 17 => val 17 = .bool false
  | 18 => val 18 = .bool false
  | 19 => val 19 = .bool false
  | 20 => val 20 = undef
  | 21 => val 21 = undef
  | 22 => val 22 = undef
  | 23 => val 23 = undef
  | 24 => val 24 = undef
  | 25 => val 25 = undef
  | 26 => val 26 = undef
  | 27 => val 27 = undef
  | 28 => val 28 = undef
  | 29 => val 29 = undef
  | 30 => val 30 = undef
  | 31 => val 31 = .bool false
  | 32 => val 32 = .bool false
  | _ => True
def HoldCDep : Nat → List Nat
  | 1 => [0] | 2 => [1] | 3 => [2] | 4 => [3, 2] | 5 => [2, 4] | 6 => [5] | 7 => [6] | 8 => [7, 6] | 9 => [6] | 10 => [9, 6] | 11 => [6] | 12 => [11, 6] | 13 => [10, 12, 6] | 14 => [6] | 15 => [14, 6] | 16 => [13, 15, 6] | 17 => [8, 16, 6] | 18 => [6, 17] | 19 => [18] | 20 => [19] | 21 => [20, 19] | 22 => [19] | 23 => [22, 19] | 24 => [19] | 25 => [24, 19] | 26 => [23, 25, 19] | 27 => [19] | 28 => [27, 19] | 29 => [26, 28, 19] | 30 => [21, 29, 19] | 31 => [19, 30] | 32 => [31] | _ => []
theorem HoldC_local (R R' : Int) (a1 a2 a3 a4 b1 b2 b3 b4 : Option Addr) (n1 n2 n3 n4 c1 c2 c3 c4 m1 m2 m3 m4 d1 d2 d3 d4 K : Nat) (p q r s U V Y Z U1 U2 Y1 Y2 : Int) : Local HoldCDep (HoldC R R' a1 a2 a3 a4 b1 b2 b3 b4 n1 n2 n3 n4 c1 c2 c3 c4 m1 m2 m3 m4 d1 d2 d3 d4 K p q r s U V Y Z U1 U2 Y1 Y2) := by
  intro val val' G G' j hk h
  match j with
  | 0 => exact (hk 0 (.inl rfl)).1.trans h
  | 1 => exact (hk 1 (.inl rfl)).1.trans h
  | 2 => exact (hk 2 (.inl rfl)).1.trans h
  | 3 => exact (hk 3 (.inl rfl)).1.trans h
  | 4 => exact (hk 4 (.inl rfl)).1.trans h
  | 5 => exact (hk 5 (.inl rfl)).1.trans h
  | 6 => exact (hk 6 (.inl rfl)).1.trans h
  | 7 => exact (hk 7 (.inl rfl)).1.trans h
  | 8 => exact (hk 8 (.inl rfl)).1.trans h
  | 9 => exact (hk 9 (.inl rfl)).1.trans h
  | 10 => exact (hk 10 (.inl rfl)).1.trans h
  | 11 => exact (hk 11 (.inl rfl)).1.trans h
  | 12 => exact (hk 12 (.inl rfl)).1.trans h
  | 13 => exact (hk 13 (.inl rfl)).1.trans h
  | 14 => exact (hk 14 (.inl rfl)).1.trans h
  | 15 => exact (hk 15 (.inl rfl)).1.trans h
  | 16 => exact (hk 16 (.inl rfl)).1.trans h
  | 17 => exact (hk 17 (.inl rfl)).1.trans h
  | 18 => exact (hk 18 (.inl rfl)).1.trans h
  | 19 => exact (hk 19 (.inl rfl)).1.trans h
  | 20 => exact (hk 20 (.inl rfl)).1.trans h
  | 21 => exact (hk 21 (.inl rfl)).1.trans h
  | 22 => exact (hk 22 (.inl rfl)).1.trans h
  | 23 => exact (hk 23 (.inl rfl)).1.trans h
  | 24 => exact (hk 24 (.inl rfl)).1.trans h
  | 25 => exact (hk 25 (.inl rfl)).1.trans h
  | 26 => exact (hk 26 (.inl rfl)).1.trans h
  | 27 => exact (hk 27 (.inl rfl)).1.trans h
  | 28 => exact (hk 28 (.inl rfl)).1.trans h
  | 29 => exact (hk 29 (.inl rfl)).1.trans h
  | 30 => exact (hk 30 (.inl rfl)).1.trans h
  | 31 => exact (hk 31 (.inl rfl)).1.trans h
  | 32 => exact (hk 32 (.inl rfl)).1.trans h
  | _ + 33 => trivial

/-- What each operation leaves. -/
def HoldD (R R' : Int) (a1 a2 a3 a4 b1 b2 b3 b4 : Option Addr) (n1 n2 n3 n4 c1 c2 c3 c4 m1 m2 m3 m4 d1 d2 d3 d4 K : Nat) (p q r s U V Y Z U1 U2 Y1 Y2 : Int) (eT : Bool) (val : Nat → Value) (G : Nat → Grp) : Nat → Prop
  | 0 => val 0 = .agg #[.int .i64 R, .slice a1 n1 c1, .slice a2 n2 c2, .slice a3 n3 c3, .slice a4 n4 c4]
  | 1 => val 1 = .bool true
  | 2 => val 2 = .bool true
  | 3 => val 3 = .agg #[.int .i64 R', .slice b1 m1 d1, .slice b2 m2 d2, .slice b3 m3 d3, .slice b4 m4 d4]
  | 4 => val 4 = .bool true
  | 5 => val 5 = .bool true
  | 6 => val 6 = .bool true
  | 7 => val 7 = .agg #[.int .i64 R', .slice b1 m1 d1, .slice b2 m2 d2, .slice b3 m3 d3, .slice b4 m4 d4]
  | 8 => val 8 = .int .i64 V
  | 9 => val 9 = .agg #[.int .i64 R, .slice a1 n1 c1, .slice a2 n2 c2, .slice a3 n3 c3, .slice a4 n4 c4]
  | 10 => val 10 = .int .i64 U
  | 11 => val 11 = .pointer (some ⟨(K + 1 + 1), 0, none⟩)
  | 12 => val 12 = .int .i64 p
  | 13 => val 13 = .int .i64 U1
  | 14 => val 14 = .pointer (some ⟨(K + 1 + 1), 1, none⟩)
  | 15 => val 15 = .int .i64 q
  | 16 => val 16 = .int .i64 U2
  | 17 => val 17 = .bool true
  | 18 => val 18 = .bool true
  | 19 => val 19 = .bool true
  | 20 => val 20 = .agg #[.int .i64 R', .slice b1 m1 d1, .slice b2 m2 d2, .slice b3 m3 d3, .slice b4 m4 d4]
  | 21 => val 21 = .int .i64 Z
  | 22 => val 22 = .agg #[.int .i64 R, .slice a1 n1 c1, .slice a2 n2 c2, .slice a3 n3 c3, .slice a4 n4 c4]
  | 23 => val 23 = .int .i64 Y
  | 24 => val 24 = .pointer (some ⟨(K + 1 + 1), 2, none⟩)
  | 25 => val 25 = .int .i64 r
  | 26 => val 26 = .int .i64 Y1
  | 27 => val 27 = .pointer (some ⟨(K + 1 + 1), 3, none⟩)
  | 28 => val 28 = .int .i64 s
  | 29 => val 29 = .int .i64 Y2
  | 30 => val 30 = .bool eT
  | 31 => val 31 = .bool eT
  | 32 => val 32 = .bool eT
  | _ => True
def HoldDDep : Nat → List Nat
  | 1 => [0] | 2 => [1] | 3 => [2] | 4 => [3, 2] | 5 => [2, 4] | 6 => [5] | 7 => [6] | 8 => [7, 6] | 9 => [6] | 10 => [9, 6] | 11 => [6] | 12 => [11, 6] | 13 => [10, 12, 6] | 14 => [6] | 15 => [14, 6] | 16 => [13, 15, 6] | 17 => [8, 16, 6] | 18 => [6, 17] | 19 => [18] | 20 => [19] | 21 => [20, 19] | 22 => [19] | 23 => [22, 19] | 24 => [19] | 25 => [24, 19] | 26 => [23, 25, 19] | 27 => [19] | 28 => [27, 19] | 29 => [26, 28, 19] | 30 => [21, 29, 19] | 31 => [19, 30] | 32 => [31] | _ => []
theorem HoldD_local (R R' : Int) (a1 a2 a3 a4 b1 b2 b3 b4 : Option Addr) (n1 n2 n3 n4 c1 c2 c3 c4 m1 m2 m3 m4 d1 d2 d3 d4 K : Nat) (p q r s U V Y Z U1 U2 Y1 Y2 : Int) (eT : Bool) : Local HoldDDep (HoldD R R' a1 a2 a3 a4 b1 b2 b3 b4 n1 n2 n3 n4 c1 c2 c3 c4 m1 m2 m3 m4 d1 d2 d3 d4 K p q r s U V Y Z U1 U2 Y1 Y2 eT) := by
  intro val val' G G' j hk h
  match j with
  | 0 => exact (hk 0 (.inl rfl)).1.trans h
  | 1 => exact (hk 1 (.inl rfl)).1.trans h
  | 2 => exact (hk 2 (.inl rfl)).1.trans h
  | 3 => exact (hk 3 (.inl rfl)).1.trans h
  | 4 => exact (hk 4 (.inl rfl)).1.trans h
  | 5 => exact (hk 5 (.inl rfl)).1.trans h
  | 6 => exact (hk 6 (.inl rfl)).1.trans h
  | 7 => exact (hk 7 (.inl rfl)).1.trans h
  | 8 => exact (hk 8 (.inl rfl)).1.trans h
  | 9 => exact (hk 9 (.inl rfl)).1.trans h
  | 10 => exact (hk 10 (.inl rfl)).1.trans h
  | 11 => exact (hk 11 (.inl rfl)).1.trans h
  | 12 => exact (hk 12 (.inl rfl)).1.trans h
  | 13 => exact (hk 13 (.inl rfl)).1.trans h
  | 14 => exact (hk 14 (.inl rfl)).1.trans h
  | 15 => exact (hk 15 (.inl rfl)).1.trans h
  | 16 => exact (hk 16 (.inl rfl)).1.trans h
  | 17 => exact (hk 17 (.inl rfl)).1.trans h
  | 18 => exact (hk 18 (.inl rfl)).1.trans h
  | 19 => exact (hk 19 (.inl rfl)).1.trans h
  | 20 => exact (hk 20 (.inl rfl)).1.trans h
  | 21 => exact (hk 21 (.inl rfl)).1.trans h
  | 22 => exact (hk 22 (.inl rfl)).1.trans h
  | 23 => exact (hk 23 (.inl rfl)).1.trans h
  | 24 => exact (hk 24 (.inl rfl)).1.trans h
  | 25 => exact (hk 25 (.inl rfl)).1.trans h
  | 26 => exact (hk 26 (.inl rfl)).1.trans h
  | 27 => exact (hk 27 (.inl rfl)).1.trans h
  | 28 => exact (hk 28 (.inl rfl)).1.trans h
  | 29 => exact (hk 29 (.inl rfl)).1.trans h
  | 30 => exact (hk 30 (.inl rfl)).1.trans h
  | 31 => exact (hk 31 (.inl rfl)).1.trans h
  | 32 => exact (hk 32 (.inl rfl)).1.trans h
  | _ + 33 => trivial
end Go.Proofs.Ytcboogodphpjbaa.State
