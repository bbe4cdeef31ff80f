/- States: the tables of the regions of TracerFlux, ShareAt of the program and l10Flux of the reference model that draw their order; the cells that they read (written by wip/tools/sttrc.py). The program's LeafOut; GreatestShare, LeastShare of a state, as contracts: what each answers; nothing that was there is written. Steps: what leaves a leaf, as the program's closure in stepThrough reckons it: the table of its region that draws its order, and its contract (written by wip/tools/stleave.py). Steps: what the program moves through a face: content's add, stepThrough's second closure, as contracts. Steps: the program's fluxesThrough and stepThrough, as contracts: what each answers, in memory of its own; nothing that was there is written.
   Conditions: as each says. -/
import Derived.Test.YtnelgnfahkljmaaPkReg
import Derived.Test.YtnelgnfahkljmaaStCopy
import Derived.Test.YtnelgnfahkljmaaStTrcP
import Derived.Test.YtnelgnfahkljmaaStShare
import Derived.Test.YtnelgnfahkljmaaStPlace
import Derived.Test.YtnelgnfahkljmaaStI
import Derived.Test.YtnelgnfahkljmaaStStepP
import Derived.Test.YtnelgnfahkljmaaStPutI
import Derived.Test.YtnelgnfahkljmaaStFluxA
import Derived.Deep.OwnRows
set_option maxRecDepth 100000
namespace Go.Proofs.Ytnelgnfahkljmaa.State
open Go.ChangeShapes Go.WideShapes Go.ChangeAt Go.RowKit Go.Joins Go.Proofs.Ytnelgnfahkljmaa.Cell Go.Proofs.Ytnelgnfahkljmaa.Mesh Go.Proofs.Ytnelgnfahkljmaa.Law Go.Proofs.Ytnelgnfahkljmaa.Ints Go.Proofs.Ytnelgnfahkljmaa.Draws Go.Deep
set_option linter.unusedVariables false

/-- The cells of a leaf's mass and tracer, at whatever world has grown out of this one. -/
theorem pair_cells {R : Int} {a1 a2 a3 a4 : Option Addr} {n1 n2 n3 n4 : Nat} {xs : List C3} {ms ts bs : List Int} {w : World} (h : ReadsS w a1 a2 a3 a4 n1 n2 n3 n4 xs ms ts bs) (hs : stOk R xs ms ts bs = true) (h0 : 0 < n2) :
    ∃ g2 o2 g3 o3 : Nat, a2 = some ⟨g2, o2, none⟩ ∧ a3 = some ⟨g3, o3, none⟩ ∧ n3 = n2 ∧ ∀ k, k < n2 → ∀ u, w.grownBy u none → u.cell? ⟨g2, o2 + k, none⟩ = some (.int .i64 (msAt ms k)) ∧ u.cell? ⟨g3, o3 + k, none⟩ = some (.int .i64 (tsAt ts k)) := by
  have hm := h.m.len
  have ht := h.t.len
  obtain ⟨m, t, q1, q2, -⟩ := pair_at hs (k := 0) (by omega)
  obtain ⟨g2, o2, rfl, -⟩ := h.m.at_ _ _ q1
  obtain ⟨g3, o3, rfl, -⟩ := h.t.at_ _ _ q2
  refine ⟨g2, o2, g3, o3, rfl, rfl, by rw [← ht, (stOk_parts hs).2.1.2.1, hm], fun k hk u hu => ?_⟩
  obtain ⟨m', t', r1, r2, e1, e2, -⟩ := pair_at hs (k := k) (by omega)
  obtain ⟨g2', o2', e, f0⟩ := h.m.at_ _ _ r1
  cases e
  obtain ⟨g3', o3', e, f1⟩ := h.t.at_ _ _ r2
  cases e
  rw [e1, e2]
  exact ⟨hu.cell f0 (by simp), hu.cell f1 (by simp)⟩

/-- What each operation leaves. -/
def TrcA (R : Int) (g2 o2 g3 o3 : Nat) (a1 a4 : Option Addr) (n1 n2 n4 c1 c2 c3 c4 k B : Nat) (m t m2 t2 F V : Int) (val : Nat → Value) (G : Nat → Grp) : Nat → Prop
  | 0 => val 0 = .pointer (some ⟨B, 3, none⟩)
  | 1 => val 1 = .slice (some ⟨g3, o3, none⟩) n2 c3
  | 2 => val 2 = .int .i64 (k : Int)
  | 3 => val 3 = .pointer (some ⟨g3, (o3 + k), none⟩)
  | 4 => val 4 = .int .i64 t
  | 5 => val 5 = .int .i64 F
  | 6 => val 6 = .pointer (some ⟨B, 2, none⟩)
  | 7 => val 7 = .slice (some ⟨g2, o2, none⟩) n2 c2
  | 8 => val 8 = .int .i64 (k : Int)
  | 9 => val 9 = .pointer (some ⟨g2, (o2 + k), none⟩)
  | 10 => val 10 = .int .i64 m
  | 11 => val 11 = .int .i64 V
  | 12 => val 12 = .int .i64 V
  | _ => True
def TrcADep : Nat → List Nat
  | 1 => [0] | 3 => [1, 2] | 4 => [3] | 7 => [6] | 9 => [7, 8] | 10 => [9] | 11 => [4, 5, 10] | 12 => [11] | _ => []
theorem TrcA_local (R : Int) (g2 o2 g3 o3 : Nat) (a1 a4 : Option Addr) (n1 n2 n4 c1 c2 c3 c4 k B : Nat) (m t m2 t2 F V : Int) : Local TrcADep (TrcA R g2 o2 g3 o3 a1 a4 n1 n2 n4 c1 c2 c3 c4 k B m t m2 t2 F V) := by
  intro val val' G G' j hk h
  match j with
  | 0 => exact (hk 0 (.inl rfl)).1.trans h
  | 1 => exact (hk 1 (.inl rfl)).1.trans h
  | 2 => exact (hk 2 (.inl rfl)).1.trans h
  | 3 => exact (hk 3 (.inl rfl)).1.trans h
  | 4 => exact (hk 4 (.inl rfl)).1.trans h
  | 5 => exact (hk 5 (.inl rfl)).1.trans h
  | 6 => exact (hk 6 (.inl rfl)).1.trans h
  | 7 => exact (hk 7 (.inl rfl)).1.trans h
  | 8 => exact (hk 8 (.inl rfl)).1.trans h
  | 9 => exact (hk 9 (.inl rfl)).1.trans h
  | 10 => exact (hk 10 (.inl rfl)).1.trans h
  | 11 => exact (hk 11 (.inl rfl)).1.trans h
  | 12 => exact (hk 12 (.inl rfl)).1.trans h
  | _ + 13 => trivial

/-- What each operation leaves. -/
def TrcB (R : Int) (g2 o2 g3 o3 : Nat) (a1 a4 : Option Addr) (n1 n2 n4 c1 c2 c3 c4 k B : Nat) (m t m2 t2 F V : Int) (val : Nat → Value) (G : Nat → Grp) : Nat → Prop
  | 0 => val 0 = .pointer (some ⟨B, 3, none⟩)
  | 1 => val 1 = .slice (some ⟨g3, o3, none⟩) n2 c3
  | 2 => val 2 = .int .i64 (k : Int)
  | 3 => val 3 = .int .i64 ((k : Int) + 1)
  | 4 => val 4 = .pointer (some ⟨g3, (o3 + (k + 1)), none⟩)
  | 5 => val 5 = .int .i64 t2
  | 6 => val 6 = .int .i64 F
  | 7 => val 7 = .int .i64 (-F)
  | 8 => val 8 = .pointer (some ⟨B, 2, none⟩)
  | 9 => val 9 = .slice (some ⟨g2, o2, none⟩) n2 c2
  | 10 => val 10 = .int .i64 (k : Int)
  | 11 => val 11 = .int .i64 ((k : Int) + 1)
  | 12 => val 12 = .pointer (some ⟨g2, (o2 + (k + 1)), none⟩)
  | 13 => val 13 = .int .i64 m2
  | 14 => val 14 = .int .i64 V
  | 15 => val 15 = .int .i64 (-V)
  | 16 => val 16 = .int .i64 (-V)
  | _ => True
def TrcBDep : Nat → List Nat
  | 1 => [0] | 3 => [2] | 4 => [1, 3] | 5 => [4] | 7 => [6] | 9 => [8] | 11 => [10] | 12 => [9, 11] | 13 => [12] | 14 => [5, 7, 13] | 15 => [14] | 16 => [15] | _ => []
theorem TrcB_local (R : Int) (g2 o2 g3 o3 : Nat) (a1 a4 : Option Addr) (n1 n2 n4 c1 c2 c3 c4 k B : Nat) (m t m2 t2 F V : Int) : Local TrcBDep (TrcB R g2 o2 g3 o3 a1 a4 n1 n2 n4 c1 c2 c3 c4 k B m t m2 t2 F V) := by
  intro val val' G G' j hk h
  match j with
  | 0 => exact (hk 0 (.inl rfl)).1.trans h
  | 1 => exact (hk 1 (.inl rfl)).1.trans h
  | 2 => exact (hk 2 (.inl rfl)).1.trans h
  | 3 => exact (hk 3 (.inl rfl)).1.trans h
  | 4 => exact (hk 4 (.inl rfl)).1.trans h
  | 5 => exact (hk 5 (.inl rfl)).1.trans h
  | 6 => exact (hk 6 (.inl rfl)).1.trans h
  | 7 => exact (hk 7 (.inl rfl)).1.trans h
  | 8 => exact (hk 8 (.inl rfl)).1.trans h
  | 9 => exact (hk 9 (.inl rfl)).1.trans h
  | 10 => exact (hk 10 (.inl rfl)).1.trans h
  | 11 => exact (hk 11 (.inl rfl)).1.trans h
  | 12 => exact (hk 12 (.inl rfl)).1.trans h
  | 13 => exact (hk 13 (.inl rfl)).1.trans h
  | 14 => exact (hk 14 (.inl rfl)).1.trans h
  | 15 => exact (hk 15 (.inl rfl)).1.trans h
  | 16 => exact (hk 16 (.inl rfl)).1.trans h
  | _ + 17 => trivial

/-- What each operation leaves. -/
def TrcS (R : Int) (g2 o2 g3 o3 : Nat) (a1 a4 : Option Addr) (n1 n2 n4 c1 c2 c3 c4 k B : Nat) (m t m2 t2 F V : Int) (val : Nat → Value) (G : Nat → Grp) : Nat → Prop
  | 0 => val 0 = .pointer (some ⟨B, 3, none⟩)
  | 1 => val 1 = .slice (some ⟨g3, o3, none⟩) n2 c3
  | 2 => val 2 = .int .i64 (k : Int)
  | 3 => val 3 = .pointer (some ⟨g3, (o3 + k), none⟩)
  | 4 => val 4 = .int .i64 t
  | 5 => val 5 = .int .i64 (1000 * t)
  | 6 => val 6 = .pointer (some ⟨B, 2, none⟩)
  | 7 => val 7 = .slice (some ⟨g2, o2, none⟩) n2 c2
  | 8 => val 8 = .int .i64 (k : Int)
  | 9 => val 9 = .pointer (some ⟨g2, (o2 + k), none⟩)
  | 10 => val 10 = .int .i64 m
  | 11 => val 11 = .int .i64 V
  | 12 => val 12 = .int .i64 V
  | _ => True
def TrcSDep : Nat → List Nat
  | 1 => [0] | 3 => [1, 2] | 4 => [3] | 5 => [4] | 7 => [6] | 9 => [7, 8] | 10 => [9] | 11 => [5, 10] | 12 => [11] | _ => []
theorem TrcS_local (R : Int) (g2 o2 g3 o3 : Nat) (a1 a4 : Option Addr) (n1 n2 n4 c1 c2 c3 c4 k B : Nat) (m t m2 t2 F V : Int) : Local TrcSDep (TrcS R g2 o2 g3 o3 a1 a4 n1 n2 n4 c1 c2 c3 c4 k B m t m2 t2 F V) := by
  intro val val' G G' j hk h
  match j with
  | 0 => exact (hk 0 (.inl rfl)).1.trans h
  | 1 => exact (hk 1 (.inl rfl)).1.trans h
  | 2 => exact (hk 2 (.inl rfl)).1.trans h
  | 3 => exact (hk 3 (.inl rfl)).1.trans h
  | 4 => exact (hk 4 (.inl rfl)).1.trans h
  | 5 => exact (hk 5 (.inl rfl)).1.trans h
  | 6 => exact (hk 6 (.inl rfl)).1.trans h
  | 7 => exact (hk 7 (.inl rfl)).1.trans h
  | 8 => exact (hk 8 (.inl rfl)).1.trans h
  | 9 => exact (hk 9 (.inl rfl)).1.trans h
  | 10 => exact (hk 10 (.inl rfl)).1.trans h
  | 11 => exact (hk 11 (.inl rfl)).1.trans h
  | 12 => exact (hk 12 (.inl rfl)).1.trans h
  | _ + 13 => trivial

/-- What each operation leaves. -/
def TrcM (R : Int) (g2 o2 g3 o3 : Nat) (a1 a4 : Option Addr) (n1 n2 n4 c1 c2 c3 c4 k B : Nat) (m t m2 t2 F V : Int) (val : Nat → Value) (G : Nat → Grp) : Nat → Prop
  | 0 => val 0 = .agg #[.int .i64 R, .slice a1 n1 c1, .slice (some ⟨g2, o2, none⟩) n2 c2, .slice (some ⟨g3, o3, none⟩) n2 c3, .slice a4 n4 c4]
  | 1 => val 1 = .int .i64 (k : Int)
  | 2 => val 2 = .int .i64 F
  | 3 => val 3 = .pointer (some ⟨B, 3, none⟩)
  | 4 => val 4 = .slice (some ⟨g3, o3, none⟩) n2 c3
  | 5 => val 5 = .int .i64 (k : Int)
  | 6 => val 6 = .pointer (some ⟨g3, (o3 + k), none⟩)
  | 7 => val 7 = .int .i64 t
  | 8 => val 8 = .pointer (some ⟨B, 2, none⟩)
  | 9 => val 9 = .slice (some ⟨g2, o2, none⟩) n2 c2
  | 10 => val 10 = .int .i64 (k : Int)
  | 11 => val 11 = .pointer (some ⟨g2, (o2 + k), none⟩)
  | 12 => val 12 = .int .i64 m
  | 13 => val 13 = .pointer (some ⟨B, 3, none⟩)
  | 14 => val 14 = .slice (some ⟨g3, o3, none⟩) n2 c3
  | 15 => val 15 = .int .i64 (k : Int)
  | 16 => val 16 = .int .i64 ((k : Int) + 1)
  | 17 => val 17 = .pointer (some ⟨g3, (o3 + (k + 1)), none⟩)
  | 18 => val 18 = .int .i64 t2
  | 19 => val 19 = .pointer (some ⟨B, 2, none⟩)
  | 20 => val 20 = .slice (some ⟨g2, o2, none⟩) n2 c2
  | 21 => val 21 = .int .i64 (k : Int)
  | 22 => val 22 = .int .i64 ((k : Int) + 1)
  | 23 => val 23 = .pointer (some ⟨g2, (o2 + (k + 1)), none⟩)
  | 24 => val 24 = .int .i64 m2
  | 25 => val 25 = .int .i64 V
  | 26 => val 26 = .int .i64 V
  | _ => True
def TrcMDep : Nat → List Nat
  | 2 => [0, 1] | 4 => [3] | 6 => [4, 5] | 7 => [6] | 9 => [8] | 11 => [9, 10] | 12 => [11] | 14 => [13] | 16 => [15] | 17 => [14, 16] | 18 => [17] | 20 => [19] | 22 => [21] | 23 => [20, 22] | 24 => [23] | 25 => [2, 7, 12, 18, 24] | 26 => [25] | _ => []
theorem TrcM_local (R : Int) (g2 o2 g3 o3 : Nat) (a1 a4 : Option Addr) (n1 n2 n4 c1 c2 c3 c4 k B : Nat) (m t m2 t2 F V : Int) : Local TrcMDep (TrcM R g2 o2 g3 o3 a1 a4 n1 n2 n4 c1 c2 c3 c4 k B m t m2 t2 F V) := by
  intro val val' G G' j hk h
  match j with
  | 0 => exact (hk 0 (.inl rfl)).1.trans h
  | 1 => exact (hk 1 (.inl rfl)).1.trans h
  | 2 => exact (hk 2 (.inl rfl)).1.trans h
  | 3 => exact (hk 3 (.inl rfl)).1.trans h
  | 4 => exact (hk 4 (.inl rfl)).1.trans h
  | 5 => exact (hk 5 (.inl rfl)).1.trans h
  | 6 => exact (hk 6 (.inl rfl)).1.trans h
  | 7 => exact (hk 7 (.inl rfl)).1.trans h
  | 8 => exact (hk 8 (.inl rfl)).1.trans h
  | 9 => exact (hk 9 (.inl rfl)).1.trans h
  | 10 => exact (hk 10 (.inl rfl)).1.trans h
  | 11 => exact (hk 11 (.inl rfl)).1.trans h
  | 12 => exact (hk 12 (.inl rfl)).1.trans h
  | 13 => exact (hk 13 (.inl rfl)).1.trans h
  | 14 => exact (hk 14 (.inl rfl)).1.trans h
  | 15 => exact (hk 15 (.inl rfl)).1.trans h
  | 16 => exact (hk 16 (.inl rfl)).1.trans h
  | 17 => exact (hk 17 (.inl rfl)).1.trans h
  | 18 => exact (hk 18 (.inl rfl)).1.trans h
  | 19 => exact (hk 19 (.inl rfl)).1.trans h
  | 20 => exact (hk 20 (.inl rfl)).1.trans h
  | 21 => exact (hk 21 (.inl rfl)).1.trans h
  | 22 => exact (hk 22 (.inl rfl)).1.trans h
  | 23 => exact (hk 23 (.inl rfl)).1.trans h
  | 24 => exact (hk 24 (.inl rfl)).1.trans h
  | 25 => exact (hk 25 (.inl rfl)).1.trans h
  | 26 => exact (hk 26 (.inl rfl)).1.trans h
  | _ + 27 => trivial
end Go.Proofs.Ytnelgnfahkljmaa.State

namespace Go.Proofs.Ytnelgnfahkljmaa.State
open Go.ChangeShapes Go.WideShapes Go.ChangeAt Go.RowKit Go.Joins Go.Proofs.Ytnelgnfahkljmaa.Cell Go.Proofs.Ytnelgnfahkljmaa.Mesh Go.Proofs.Ytnelgnfahkljmaa.Law Go.Proofs.Ytnelgnfahkljmaa.Ints Go.Deep
set_option linter.unusedVariables false

theorem cell_two0 (w : World) (x y : Value) (t : TypeId) : (w.alloc (.cells #[x, y] t)).cell? ⟨w.heap.size, 0, none⟩ = some x := cell_of_row _ _ 0 _ t (0, 0) (heap_alloc_new w _)
theorem cell_two1 (w : World) (x y : Value) (t : TypeId) : (w.alloc (.cells #[x, y] t)).cell? ⟨w.heap.size, 1, none⟩ = some y := cell_of_row _ _ 1 _ t (0, 0) (heap_alloc_new w _)
end Go.Proofs.Ytnelgnfahkljmaa.State

namespace Go.Proofs.Ytnelgnfahkljmaa.State
open Go.ChangeShapes Go.WideShapes Go.ChangeAt Go.RowKit Go.Joins Go.Proofs.Ytnelgnfahkljmaa.Cell Go.Proofs.Ytnelgnfahkljmaa.Mesh Go.Proofs.Ytnelgnfahkljmaa.Law Go.Proofs.Ytnelgnfahkljmaa.Ints Go.Proofs.Ytnelgnfahkljmaa.Draws Go.Deep
set_option linter.unusedVariables false

/-- What each operation leaves. -/
def Leav (Sb Fb g2 o2 g3 o3 gf n c2 c3 nf cf k : Nat) (m t f0 f1 r l A C : Int) (val : Nat → Value) (G : Nat → Grp) : Nat → Prop
  | 0 => val 0 = .pointer (some ⟨Sb, 3, none⟩)
  | 1 => val 1 = .slice (some ⟨g3, o3, none⟩) n c3
  | 2 => val 2 = .int .i64 (k : Int)
  | 3 => val 3 = .pointer (some ⟨g3, (o3 + k), none⟩)
  | 4 => val 4 = .int .i64 t
  | 5 => val 5 = .pointer (some ⟨Sb, 2, none⟩)
  | 6 => val 6 = .slice (some ⟨g2, o2, none⟩) n c2
  | 7 => val 7 = .int .i64 (k : Int)
  | 8 => val 8 = .pointer (some ⟨g2, (o2 + k), none⟩)
  | 9 => val 9 = .int .i64 m
  | 10 => val 10 = .slice (some ⟨gf, 0, none⟩) nf cf
  | 11 => val 11 = .int .i64 (k : Int)
  | 12 => val 12 = .int .i64 ((k : Int) + 1)
  | 13 => val 13 = .pointer (some ⟨gf, (k + 1), none⟩)
  | 14 => val 14 = .int .i64 f1
  | 15 => val 15 = .int .i64 r
  | 16 => val 16 = .slice (some ⟨gf, 0, none⟩) nf cf
  | 17 => val 17 = .int .i64 (k : Int)
  | 18 => val 18 = .pointer (some ⟨gf, k, none⟩)
  | 19 => val 19 = .int .i64 f0
  | 20 => val 20 = .int .i64 (-f0)
  | 21 => val 21 = .int .i64 l
  | 22 => val 22 = .tuple #[.int .i64 A, .int .i64 C]
  | 23 => val 23 = .int .i64 A
  | 24 => val 24 = .int .i64 C
  | 25 => val 25 = .int .i64 A
  | 26 => val 26 = .int .i64 C
  | _ => True
def LeavDep : Nat → List Nat
  | 1 => [0] | 3 => [1, 2] | 4 => [3] | 6 => [5] | 8 => [6, 7] | 9 => [8] | 12 => [11] | 13 => [10, 12] | 14 => [13] | 15 => [14] | 18 => [16, 17] | 19 => [18] | 20 => [19] | 21 => [20] | 22 => [4, 9, 15, 21] | 23 => [22] | 24 => [22] | 25 => [23] | 26 => [24] | _ => []
theorem Leav_local (Sb Fb g2 o2 g3 o3 gf n c2 c3 nf cf k : Nat) (m t f0 f1 r l A C : Int) : Local LeavDep (Leav Sb Fb g2 o2 g3 o3 gf n c2 c3 nf cf k m t f0 f1 r l A C) := by
  intro val val' G G' j hk h
  match j with
  | 0 => exact (hk 0 (.inl rfl)).1.trans h
  | 1 => exact (hk 1 (.inl rfl)).1.trans h
  | 2 => exact (hk 2 (.inl rfl)).1.trans h
  | 3 => exact (hk 3 (.inl rfl)).1.trans h
  | 4 => exact (hk 4 (.inl rfl)).1.trans h
  | 5 => exact (hk 5 (.inl rfl)).1.trans h
  | 6 => exact (hk 6 (.inl rfl)).1.trans h
  | 7 => exact (hk 7 (.inl rfl)).1.trans h
  | 8 => exact (hk 8 (.inl rfl)).1.trans h
  | 9 => exact (hk 9 (.inl rfl)).1.trans h
  | 10 => exact (hk 10 (.inl rfl)).1.trans h
  | 11 => exact (hk 11 (.inl rfl)).1.trans h
  | 12 => exact (hk 12 (.inl rfl)).1.trans h
  | 13 => exact (hk 13 (.inl rfl)).1.trans h
  | 14 => exact (hk 14 (.inl rfl)).1.trans h
  | 15 => exact (hk 15 (.inl rfl)).1.trans h
  | 16 => exact (hk 16 (.inl rfl)).1.trans h
  | 17 => exact (hk 17 (.inl rfl)).1.trans h
  | 18 => exact (hk 18 (.inl rfl)).1.trans h
  | 19 => exact (hk 19 (.inl rfl)).1.trans h
  | 20 => exact (hk 20 (.inl rfl)).1.trans h
  | 21 => exact (hk 21 (.inl rfl)).1.trans h
  | 22 => exact (hk 22 (.inl rfl)).1.trans h
  | 23 => exact (hk 23 (.inl rfl)).1.trans h
  | 24 => exact (hk 24 (.inl rfl)).1.trans h
  | 25 => exact (hk 25 (.inl rfl)).1.trans h
  | 26 => exact (hk 26 (.inl rfl)).1.trans h
  | _ + 27 => trivial

end Go.Proofs.Ytnelgnfahkljmaa.State

namespace Go.Proofs.Ytnelgnfahkljmaa.State
open Go.ChangeShapes Go.WideShapes Go.ChangeAt Go.RowKit Go.Joins Go.Proofs.Ytnelgnfahkljmaa.Cell Go.Proofs.Ytnelgnfahkljmaa.Mesh Go.Proofs.Ytnelgnfahkljmaa.Law Go.Proofs.Ytnelgnfahkljmaa.Ints Go.Proofs.Ytnelgnfahkljmaa.Draws Go.Deep

theorem set_at_self {gs : List Grp} {k : Nat} {g g' : Grp} (h : gs[k]? = some g) : (gs.set k g')[k]? = some g' := List.getElem?_set_self (List.getElem?_eq_some_iff.1 h).1

end Go.Proofs.Ytnelgnfahkljmaa.State

namespace Go.Proofs.Ytnelgnfahkljmaa.State
open Go.ChangeShapes Go.WideShapes Go.ChangeAt Go.RowKit Go.Joins Go.Proofs.Ytnelgnfahkljmaa.Cell Go.Proofs.Ytnelgnfahkljmaa.Mesh Go.Proofs.Ytnelgnfahkljmaa.Law Go.Proofs.Ytnelgnfahkljmaa.Ints Go.Proofs.Ytnelgnfahkljmaa.Draws Go.Deep

theorem makeZS_is (w : World) (n : Nat) (hn : n ≤ 1048576) : (Instr.makeSlice 27 (.int .i64 (n : Int)) (.int .i64 (n : Int))).run Try.prog w = .ok (.slice (some ⟨w.heap.size, 0, none⟩) n n) (w.alloc (.cells (madeCells #[.int .i64 0] n) 3)) := by
  obtain ⟨i0, hi, hz0, hz1, hz2⟩ := info_parts infoInt
  have h := run_make (P := Try.prog) (w := w) 27 3 i0 _ Try.underlying27 hi hz0 .i64 .i64 (n : Int) (n : Int) (by omega) (by omega) (by rw [hz2]; omega) (by omega)
  simpa [hz1, Value.cells] using h
theorem ownZS (w : World) (n : Nat) (hn : n ≤ 1048576) (base : Nat) (hb : base ≤ w.heap.size) : (w.alloc (.cells (madeCells #[.int .i64 0] n) 3)).ownsRow base 3 1 (.slice (some ⟨w.heap.size, 0, none⟩) n n) n (vals (List.replicate n 0)) := by
  refine ⟨by rw [vals_len, List.length_replicate, Nat.mul_one], .inr ⟨w.heap.size, n, _, rfl, hb, heap_alloc_new w _, Nat.le_refl _, by unfold maxLen; omega, by rw [size_madeCells, Nat.mul_one], ?_⟩⟩
  rw [Nat.mul_one, List.take_of_length_le (by simp [size_madeCells])]
  refine List.ext_getElem? fun j => ?_
  by_cases hj : j < n
  · rw [vals_at (List.getElem?_replicate_of_lt hj)]
    simp [madeCells, hj, Nat.mod_one]
  · rw [List.getElem?_eq_none (by simp [size_madeCells]; omega), List.getElem?_eq_none (by rw [vals_len, List.length_replicate]; omega)]
/-- A number stored into a row of the call's own. -/
theorem Held.setRowS {w W : World} {gs : List Grp} {g n c : Nat} {xs : List Int} (h : Held w W gs) (k : Nat) (hk : gs[k]? = some (rowG 3 1 (.slice (some ⟨g, 0, none⟩) n c) n (vals xs))) (j : Nat) (x : Int) :
    Held w (W.setCell ⟨g, j, none⟩ (.int .i64 x)) (gs.set k (rowG 3 1 (.slice (some ⟨g, 0, none⟩) n c) n (vals (xs.set j x)))) := by
  have ho : W.ownsRow 0 3 1 (.slice (some ⟨g, 0, none⟩) n c) n (vals xs) := h.nth k hk
  have hs := ho.stored j (.int .i64 x)
  rw [← vals_set] at hs
  exact h.turn k hk (Turned.of hs.2) rfl hs.1
theorem prev_next {n i : Nat} {F : List Nat} {D : Nat → Int} : (gen n (prev (onl F D))).set (i + 1) (D i) = gen n (prev (onl (F ++ [i]) D)) := by
  rw [gen_set]
  refine gen_congr fun k _ => ?_
  cases k with
  | zero => rw [if_neg (by omega), prev_nil, prev_nil]
  | succ k =>
    rw [show prev (onl F D) (k + 1) = onl F D k from rfl, show prev (onl (F ++ [i]) D) (k + 1) = onl (F ++ [i]) D k from rfl]
    unfold onl
    by_cases e : k = i
    · subst e; simp
    · rw [if_neg (by omega)]; simp [e]
theorem prev_start (n : Nat) (D : Nat → Int) : List.replicate n (0 : Int) = gen n (prev (onl [] D)) := by
  refine List.ext_getElem? fun j => ?_
  by_cases hj : j < n
  · rw [List.getElem?_replicate_of_lt hj, gen_at _ hj, prev_zero (onl_nil D)]
  · rw [List.getElem?_eq_none (by rw [List.length_replicate]; omega), List.getElem?_eq_none (by rw [gen_len]; omega)]

theorem onl_flow (xs : List C3) (ms bs : List Int) (t : Int) : onl (actF xs t (xs.length - 1)) (fluxAt xs ms bs) = flowAt xs ms bs t := funext fun k => by
  by_cases h : k ∈ actF xs t (xs.length - 1)
  · rw [flow_act h]; exact if_pos h
  · rw [flow_idle h]; exact if_neg h

theorem mov_start {n : Nat} {D : Nat → Int} {ms : List Int} (hl : ms.length = n) : ms = gen n (movF (onl [] D) (msAt ms)) := by
  rw [gen_congr fun k _ => mov_zero (onl_nil D) k, ← hl, gen_ms]
theorem mov_back {n i : Nat} {F : List Nat} {D x : Nat → Int} (hi : i ∉ F) :
    ((gen n (movF (onl F D) x)).set (i + 1) (movF (onl F D) x (i + 1) + D i)).set i (movF (onl F D) x i - D i) = gen n (movF (onl (F ++ [i]) D) x) := by
  rw [List.set_comm _ _ (by omega)]; exact mov_next hi
theorem mov_small {F : List Nat} {D x : Nat → Int} {B C : Int} (hx : ∀ j, -C ≤ x j ∧ x j ≤ C) (hD : ∀ j, -B ≤ D j ∧ D j ≤ B) (hB : 0 ≤ B) (k : Nat) : -(C + 2 * B) ≤ movF (onl F D) x k ∧ movF (onl F D) x k ≤ C + 2 * B := by
  have h1 : ∀ j, -B ≤ onl F D j ∧ onl F D j ≤ B := fun j => by
    unfold onl; split
    · exact hD j
    · omega
  have h2 : -B ≤ prev (onl F D) k ∧ prev (onl F D) k ≤ B := by
    cases k with
    | zero => rw [prev_nil]; omega
    | succ k => exact h1 k
  have := h1 k
  have := hx k
  unfold movF
  omega
theorem ms_small {R : Int} {xs : List C3} {ms ts bs : List Int} (h : stOk R xs ms ts bs = true) (j : Nat) : (-10000000 ≤ msAt ms j ∧ msAt ms j ≤ 10000000) ∧ (-10000000000 ≤ tsAt ts j ∧ tsAt ts j ≤ 10000000000) := by
  obtain ⟨-, ⟨-, p3, -⟩, -⟩ := stOk_parts h
  by_cases hj : j < ms.length
  · obtain ⟨m, t, -, -, em, et, m0, m1, t0, t1⟩ := pair_at h hj
    rw [em, et]; omega
  · rw [ms_out (by omega), ts_out (by omega)]; omega
theorem out_small (f : Nat → Int) (ms ts : List Int) (k : Nat) : (-10000000000 ≤ outA f ms ts k ∧ outA f ms ts k ≤ 10000000000) ∧ (-10000000000 ≤ outC f ms ts k ∧ outC f ms ts k ≤ 10000000000) := by
  unfold outA outC outR outL
  have h1 := share_range (tsAt ts k) (flowR f k) (msAt ms k)
  have h2 := share_range (tsAt ts k) (flowR f k + flowL f k) (msAt ms k)
  split <;> omega
theorem trc_small (f : Nat → Int) (ms ts : List Int) (k : Nat) : -20000000000 ≤ trcF f ms ts k ∧ trcF f ms ts k ≤ 20000000000 := by
  have h1 := (out_small f ms ts k).1
  have h2 := (out_small f ms ts (k + 1)).2
  unfold trcF
  omega
theorem onl_is {F : List Nat} {D : Nat → Int} (h : ∀ k, k ∉ F → D k = 0) : onl F D = D := funext fun k => onl_all h k

end Go.Proofs.Ytnelgnfahkljmaa.State
