/- Steps: what the laws of chapter 11 want besides: sameInts at equal lists, the tables of their regions that draw their order (written by wip/tools/fnstep.py).
   Conditions: at most 2^20 numbers. -/
import Derived.Test.YtnaofcbbdlhjpaaStStepI
import Derived.Test.YtnaofcbbdlhjpaaStPutL
import Derived.Test.YtnaofcbbdlhjpaaStSame
import Derived.Test.YtnaofcbbdlhjpaaPkReg
import Derived.Test.YtnaofcbbdlhjpaaStTrcS
set_option maxRecDepth 100000
namespace Go.Proofs.Ytnaofcbbdlhjpaa.State
open Go.ChangeShapes Go.WideShapes Go.ChangeAt Go.RowKit Go.Proofs.Ytnaofcbbdlhjpaa.Cell Go.Proofs.Ytnaofcbbdlhjpaa.Mesh Go.Proofs.Ytnaofcbbdlhjpaa.Law Go.Proofs.Ytnaofcbbdlhjpaa.Ints Go.Proofs.Ytnaofcbbdlhjpaa.Draws
set_option linter.unusedVariables false

set_option maxHeartbeats 2000000 in
theorem sameInts_is (a b : Option Addr) (n c1 c2 : Nat) (xs : List Int) (w : World) (hx : ReadsI w a n xs) (hy : ReadsI w b n xs) (hn : n ≤ 1048576) :
    Calls Try.prog 20 #[.slice a n c1, .slice b n c2] w fun e w' => e = .returned (.bool true) ∧ w.grownBy w' none := by
  have hni : (n : Int) ≤ 1048576 := by omega
  clear hn
  have HA := Lib.hid hx; clear hx
  have HB := Lib.hid hy; clear hy
  go_enter Try.func20, Try.ntmps20
  go_wp2_with fail
  go_loopw [5] (fun i wr => ∃ k : Nat, (k : Int) ≤ n ∧ i = .int .i64 k ∧ Hid (w.grownBy wr none)) (fun i _ => n - (intOf i).toNat)
  case atStart => exact ⟨0, by omega, rfl, Lib.hid (grown_refl w)⟩
  case round =>
    obtain ⟨k, hk, rfl, HG⟩ := hrel
    by_cases hlt : (k : Int) < n
    · obtain ⟨x, hx⟩ := getI HA.out.len (k := k) (by omega)
      obtain ⟨g1, o1, rfl, d0⟩ := (HA.out.on HG.out).at_ k _ hx
      obtain ⟨g2, o2, rfl, f0⟩ := (HB.out.on HG.out).at_ k _ hx
      clear hx
      go_wp2_with fail
      go_quiet (fail)
      go_wp2_with fail
      go_roundw
      case rel => exact ⟨k + 1, by omega, by go_num, Lib.hid (g_drewN HG.out _)⟩
      case measure => simp [intOf]; omega
    · go_wp2_with fail
      go_ret
      exact ⟨rfl, HG.out⟩

/-- What each operation leaves. -/
def Cons5 (R : Int) (g1 g2 g3 g4 n1 n2 c1 c2 c3 c4 gp cp B3 : Nat) (t p0 : Int) (xs : List C3) (mr tr bs : List Int) (val : Nat → Value) (G : Nat → Grp) : Nat → Prop
  | 0 => val 0 = .agg #[.int .i64 R, .slice (some ⟨g1, 0, none⟩) n1 c1, .slice (some ⟨g2, 0, none⟩) n1 c2, .slice (some ⟨g3, 0, none⟩) n1 c3, .slice (some ⟨g4, 0, none⟩) n2 c4]
  | 1 => val 1 = .slice (some ⟨gp, 0, none⟩) 12 cp
  | 2 => val 2 = .pointer (some ⟨gp, 0, none⟩)
  | 3 => val 3 = .int .i64 p0
  | 4 => val 4 = .int .i64 t
  | 5 => ∃ (b1 : Option Addr) (d1 : Nat) (b2 : Option Addr) (d2 : Nat) (b3 : Option Addr) (d3 : Nat) (b4 : Option Addr) (d4 : Nat), val 5 = .agg #[.int .i64 R, .slice b1 n1 d1, .slice b2 n1 d2, .slice b3 n1 d3, .slice b4 n2 d4] ∧ G 5 = stateG (.slice b1 n1 d1) (.slice b2 n1 d2) (.slice b3 n1 d3) (.slice b4 n2 d4) n1 n1 n1 n2 xs mr tr bs
  | 6 => ∃ (B6 : Nat) (o0 : Value) (o1 : Value) (o2 : Value) (o3 : Value) (o4 : Value), val 6 = .pointer (some ⟨B6, 0, none⟩) ∧ G 6 = boxG B6 29 #[o0, o1, o2, o3, o4]
  | 7 => ∃ (B6 : Nat) (b1 : Option Addr) (d1 : Nat) (b2 : Option Addr) (d2 : Nat) (b3 : Option Addr) (d3 : Nat) (b4 : Option Addr) (d4 : Nat), val 6 = .pointer (some ⟨B6, 0, none⟩) ∧ val 5 = .agg #[.int .i64 R, .slice b1 n1 d1, .slice b2 n1 d2, .slice b3 n1 d3, .slice b4 n2 d4] ∧ G 6 = boxG B6 29 #[.int .i64 R, .slice b1 n1 d1, .slice b2 n1 d2, .slice b3 n1 d3, .slice b4 n2 d4]
  | _ => True
def Cons5Dep : Nat → List Nat
  | 2 => [1] | 3 => [2] | 4 => [3] | 5 => [0, 4] | 7 => [6, 5] | _ => []
theorem Cons5_local (R : Int) (g1 g2 g3 g4 n1 n2 c1 c2 c3 c4 gp cp B3 : Nat) (t p0 : Int) (xs : List C3) (mr tr bs : List Int) : Local Cons5Dep (Cons5 R g1 g2 g3 g4 n1 n2 c1 c2 c3 c4 gp cp B3 t p0 xs mr tr bs) := by
  intro val val' G G' j hk h
  match j with
  | 0 => exact (hk 0 (.inl rfl)).1.trans h
  | 1 => exact (hk 1 (.inl rfl)).1.trans h
  | 2 => exact (hk 2 (.inl rfl)).1.trans h
  | 3 => exact (hk 3 (.inl rfl)).1.trans h
  | 4 => exact (hk 4 (.inl rfl)).1.trans h
  | 5 => obtain ⟨b1, d1, b2, d2, b3, d3, b4, d4, h0, h1⟩ := h; exact ⟨b1, d1, b2, d2, b3, d3, b4, d4, (hk 5 (.inl rfl)).1.trans h0, (hk 5 (.inl rfl)).2.trans h1⟩
  | 6 => obtain ⟨B6, o0, o1, o2, o3, o4, h0, h1⟩ := h; exact ⟨B6, o0, o1, o2, o3, o4, (hk 6 (.inl rfl)).1.trans h0, (hk 6 (.inl rfl)).2.trans h1⟩
  | 7 => obtain ⟨B6, b1, d1, b2, d2, b3, d3, b4, d4, h0, h1, h2⟩ := h; exact ⟨B6, b1, d1, b2, d2, b3, d3, b4, d4, (hk 6 (.inr (by simp [Cons5Dep]))).1.trans h0, (hk 5 (.inr (by simp [Cons5Dep]))).1.trans h1, (hk 6 (.inr (by simp [Cons5Dep]))).2.trans h2⟩
  | _ + 8 => trivial

/-- What each operation leaves. -/
def Cons6 (R : Int) (g1 g2 g3 g4 n1 n2 c1 c2 c3 c4 B3 B6 : Nat) (b1 : Option Addr) (d1 : Nat) (b2 : Option Addr) (d2 : Nat) (b3 : Option Addr) (d3 : Nat) (b4 : Option Addr) (d4 : Nat) (M T : Int) (val : Nat → Value) (G : Nat → Grp) : Nat → Prop
  | 0 => val 0 = .agg #[.int .i64 R, .slice b1 n1 d1, .slice b2 n1 d2, .slice b3 n1 d3, .slice b4 n2 d4]
  | 1 => val 1 = .bool true
  | 2 => val 2 = .bool true
  | 3 => val 3 = .pointer (some ⟨B6, 0, none⟩)
  | 4 => val 4 = .agg #[.int .i64 R, .slice b1 n1 d1]
  | 5 => val 5 = .pointer (some ⟨B3, 0, none⟩)
  | 6 => val 6 = .agg #[.int .i64 R, .slice (some ⟨g1, 0, none⟩) n1 c1]
  | 7 => val 7 = .bool true
  | 8 => val 8 = .bool true
  | 9 => val 9 = .bool true
  | 10 => val 10 = .agg #[.int .i64 R, .slice b1 n1 d1, .slice b2 n1 d2, .slice b3 n1 d3, .slice b4 n2 d4]
  | 11 => val 11 = .int .i64 M
  | 12 => val 12 = .agg #[.int .i64 R, .slice (some ⟨g1, 0, none⟩) n1 c1, .slice (some ⟨g2, 0, none⟩) n1 c2, .slice (some ⟨g3, 0, none⟩) n1 c3, .slice (some ⟨g4, 0, none⟩) n2 c4]
  | 13 => val 13 = .int .i64 M
  | 14 => val 14 = .bool true
  | 15 => val 15 = .bool true
  | 16 => val 16 = .bool true
  | 17 => val 17 = .agg #[.int .i64 R, .slice b1 n1 d1, .slice b2 n1 d2, .slice b3 n1 d3, .slice b4 n2 d4]
  | 18 => val 18 = .int .i64 T
  | 19 => val 19 = .agg #[.int .i64 R, .slice (some ⟨g1, 0, none⟩) n1 c1, .slice (some ⟨g2, 0, none⟩) n1 c2, .slice (some ⟨g3, 0, none⟩) n1 c3, .slice (some ⟨g4, 0, none⟩) n2 c4]
  | 20 => val 20 = .int .i64 T
  | 21 => val 21 = .bool true
  | 22 => val 22 = .bool true
  | 23 => val 23 = .bool true
  | 24 => val 24 = .pointer (some ⟨B6, 4, none⟩)
  | 25 => val 25 = .slice b4 n2 d4
  | 26 => val 26 = .pointer (some ⟨B3, 4, none⟩)
  | 27 => val 27 = .slice (some ⟨g4, 0, none⟩) n2 c4
  | 28 => val 28 = .bool true
  | 29 => val 29 = .bool true
  | 30 => val 30 = .bool true
  | _ => True
def Cons6Dep : Nat → List Nat
  | 1 => [0] | 2 => [1] | 3 => [2] | 4 => [3, 2] | 5 => [2] | 6 => [5, 2] | 7 => [4, 6, 2] | 8 => [2, 7] | 9 => [8] | 10 => [9] | 11 => [10, 9] | 12 => [9] | 13 => [12, 9] | 14 => [11, 13, 9] | 15 => [9, 14] | 16 => [15] | 17 => [16] | 18 => [17, 16] | 19 => [16] | 20 => [19, 16] | 21 => [18, 20, 16] | 22 => [16, 21] | 23 => [22] | 24 => [23] | 25 => [24, 23] | 26 => [23] | 27 => [26, 23] | 28 => [25, 27, 23] | 29 => [23, 28] | 30 => [29] | _ => []
theorem Cons6_local (R : Int) (g1 g2 g3 g4 n1 n2 c1 c2 c3 c4 B3 B6 : Nat) (b1 : Option Addr) (d1 : Nat) (b2 : Option Addr) (d2 : Nat) (b3 : Option Addr) (d3 : Nat) (b4 : Option Addr) (d4 : Nat) (M T : Int) : Local Cons6Dep (Cons6 R g1 g2 g3 g4 n1 n2 c1 c2 c3 c4 B3 B6 b1 d1 b2 d2 b3 d3 b4 d4 M T) := by
  intro val val' G G' j hk h
  match j with
  | 0 => exact (hk 0 (.inl rfl)).1.trans h
  | 1 => exact (hk 1 (.inl rfl)).1.trans h
  | 2 => exact (hk 2 (.inl rfl)).1.trans h
  | 3 => exact (hk 3 (.inl rfl)).1.trans h
  | 4 => exact (hk 4 (.inl rfl)).1.trans h
  | 5 => exact (hk 5 (.inl rfl)).1.trans h
  | 6 => exact (hk 6 (.inl rfl)).1.trans h
  | 7 => exact (hk 7 (.inl rfl)).1.trans h
  | 8 => exact (hk 8 (.inl rfl)).1.trans h
  | 9 => exact (hk 9 (.inl rfl)).1.trans h
  | 10 => exact (hk 10 (.inl rfl)).1.trans h
  | 11 => exact (hk 11 (.inl rfl)).1.trans h
  | 12 => exact (hk 12 (.inl rfl)).1.trans h
  | 13 => exact (hk 13 (.inl rfl)).1.trans h
  | 14 => exact (hk 14 (.inl rfl)).1.trans h
  | 15 => exact (hk 15 (.inl rfl)).1.trans h
  | 16 => exact (hk 16 (.inl rfl)).1.trans h
  | 17 => exact (hk 17 (.inl rfl)).1.trans h
  | 18 => exact (hk 18 (.inl rfl)).1.trans h
  | 19 => exact (hk 19 (.inl rfl)).1.trans h
  | 20 => exact (hk 20 (.inl rfl)).1.trans h
  | 21 => exact (hk 21 (.inl rfl)).1.trans h
  | 22 => exact (hk 22 (.inl rfl)).1.trans h
  | 23 => exact (hk 23 (.inl rfl)).1.trans h
  | 24 => exact (hk 24 (.inl rfl)).1.trans h
  | 25 => exact (hk 25 (.inl rfl)).1.trans h
  | 26 => exact (hk 26 (.inl rfl)).1.trans h
  | 27 => exact (hk 27 (.inl rfl)).1.trans h
  | 28 => exact (hk 28 (.inl rfl)).1.trans h
  | 29 => exact (hk 29 (.inl rfl)).1.trans h
  | 30 => exact (hk 30 (.inl rfl)).1.trans h
  | _ + 31 => trivial

/-- What each operation leaves. -/
def ShrR (R : Int) (g1 g2 g3 g4 n1 n2 c1 c2 c3 c4 B3 B5 : Nat) (b1 : Option Addr) (d1 : Nat) (b2 : Option Addr) (d2 : Nat) (b3 : Option Addr) (d3 : Nat) (b4 : Option Addr) (d4 : Nat) (A B C D : Int) (val : Nat → Value) (G : Nat → Grp) : Nat → Prop
  | 0 => val 0 = .agg #[.int .i64 R, .slice b1 n1 d1, .slice b2 n1 d2, .slice b3 n1 d3, .slice b4 n2 d4]
  | 1 => val 1 = .bool true
  | 2 => val 2 = .bool true
  | 3 => val 3 = .agg #[.int .i64 R, .slice b1 n1 d1, .slice b2 n1 d2, .slice b3 n1 d3, .slice b4 n2 d4]
  | 4 => val 4 = .int .i64 C
  | 5 => val 5 = .agg #[.int .i64 R, .slice (some ⟨g1, 0, none⟩) n1 c1, .slice (some ⟨g2, 0, none⟩) n1 c2, .slice (some ⟨g3, 0, none⟩) n1 c3, .slice (some ⟨g4, 0, none⟩) n2 c4]
  | 6 => val 6 = .int .i64 A
  | 7 => val 7 = .bool true
  | 8 => val 8 = .bool true
  | 9 => val 9 = .bool true
  | 10 => val 10 = .agg #[.int .i64 R, .slice b1 n1 d1, .slice b2 n1 d2, .slice b3 n1 d3, .slice b4 n2 d4]
  | 11 => val 11 = .int .i64 D
  | 12 => val 12 = .agg #[.int .i64 R, .slice (some ⟨g1, 0, none⟩) n1 c1, .slice (some ⟨g2, 0, none⟩) n1 c2, .slice (some ⟨g3, 0, none⟩) n1 c3, .slice (some ⟨g4, 0, none⟩) n2 c4]
  | 13 => val 13 = .int .i64 B
  | 14 => val 14 = .bool true
  | 15 => val 15 = .bool true
  | 16 => val 16 = .bool true
  | _ => True
def ShrRDep : Nat → List Nat
  | 1 => [0] | 2 => [1] | 3 => [2] | 4 => [3, 2] | 5 => [2] | 6 => [5, 2] | 7 => [4, 6, 2] | 8 => [2, 7] | 9 => [8] | 10 => [9] | 11 => [10, 9] | 12 => [9] | 13 => [12, 9] | 14 => [11, 13, 9] | 15 => [9, 14] | 16 => [15] | _ => []
theorem ShrR_local (R : Int) (g1 g2 g3 g4 n1 n2 c1 c2 c3 c4 B3 B5 : Nat) (b1 : Option Addr) (d1 : Nat) (b2 : Option Addr) (d2 : Nat) (b3 : Option Addr) (d3 : Nat) (b4 : Option Addr) (d4 : Nat) (A B C D : Int) : Local ShrRDep (ShrR R g1 g2 g3 g4 n1 n2 c1 c2 c3 c4 B3 B5 b1 d1 b2 d2 b3 d3 b4 d4 A B C D) := by
  intro val val' G G' j hk h
  match j with
  | 0 => exact (hk 0 (.inl rfl)).1.trans h
  | 1 => exact (hk 1 (.inl rfl)).1.trans h
  | 2 => exact (hk 2 (.inl rfl)).1.trans h
  | 3 => exact (hk 3 (.inl rfl)).1.trans h
  | 4 => exact (hk 4 (.inl rfl)).1.trans h
  | 5 => exact (hk 5 (.inl rfl)).1.trans h
  | 6 => exact (hk 6 (.inl rfl)).1.trans h
  | 7 => exact (hk 7 (.inl rfl)).1.trans h
  | 8 => exact (hk 8 (.inl rfl)).1.trans h
  | 9 => exact (hk 9 (.inl rfl)).1.trans h
  | 10 => exact (hk 10 (.inl rfl)).1.trans h
  | 11 => exact (hk 11 (.inl rfl)).1.trans h
  | 12 => exact (hk 12 (.inl rfl)).1.trans h
  | 13 => exact (hk 13 (.inl rfl)).1.trans h
  | 14 => exact (hk 14 (.inl rfl)).1.trans h
  | 15 => exact (hk 15 (.inl rfl)).1.trans h
  | 16 => exact (hk 16 (.inl rfl)).1.trans h
  | _ + 17 => trivial

/-- What each operation leaves. -/
def ActA (R : Int) (a1 : Option Addr) (n c1 gl ol nf dl B3 ix : Nat) (t f lv : Int) (val : Nat → Value) (G : Nat → Grp) : Nat → Prop
  | 0 => val 0 = .int .i64 t
  | 1 => val 1 = .agg #[.int .i64 R, .slice a1 n c1]
  | 2 => val 2 = .slice (some ⟨gl, ol, none⟩) nf dl
  | 3 => val 3 = .int .i64 (ix : Int)
  | 4 => val 4 = .pointer (some ⟨gl, (ol + ix), none⟩)
  | 5 => val 5 = .int .i64 f
  | 6 => val 6 = .int .i64 lv
  | 7 => val 7 = .bool true
  | 8 => val 8 = .bool false
  | _ => True
def ActADep : Nat → List Nat
  | 4 => [2, 3] | 5 => [4] | 6 => [1, 5] | 7 => [0, 6] | 8 => [7] | _ => []
theorem ActA_local (R : Int) (a1 : Option Addr) (n c1 gl ol nf dl B3 ix : Nat) (t f lv : Int) : Local ActADep (ActA R a1 n c1 gl ol nf dl B3 ix t f lv) := by
  intro val val' G G' j hk h
  match j with
  | 0 => exact (hk 0 (.inl rfl)).1.trans h
  | 1 => exact (hk 1 (.inl rfl)).1.trans h
  | 2 => exact (hk 2 (.inl rfl)).1.trans h
  | 3 => exact (hk 3 (.inl rfl)).1.trans h
  | 4 => exact (hk 4 (.inl rfl)).1.trans h
  | 5 => exact (hk 5 (.inl rfl)).1.trans h
  | 6 => exact (hk 6 (.inl rfl)).1.trans h
  | 7 => exact (hk 7 (.inl rfl)).1.trans h
  | 8 => exact (hk 8 (.inl rfl)).1.trans h
  | _ + 9 => trivial
end Go.Proofs.Ytnaofcbbdlhjpaa.State
