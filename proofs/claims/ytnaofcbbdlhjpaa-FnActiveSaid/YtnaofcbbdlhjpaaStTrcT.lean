/- States: the tables of the regions of TracerFlux, ShareAt of the program and l10Flux of the reference model that draw their order; the cells that they read (written by wip/tools/sttrc.py).
   Conditions: none. -/
import Derived.Test.YtnaofcbbdlhjpaaPkReg
import Derived.Test.YtnaofcbbdlhjpaaStCopy
import Derived.Test.YtnaofcbbdlhjpaaStTrcP
set_option maxRecDepth 100000
namespace Go.Proofs.Ytnaofcbbdlhjpaa.State
open Go.ChangeShapes Go.WideShapes Go.ChangeAt Go.RowKit Go.Joins Go.Proofs.Ytnaofcbbdlhjpaa.Cell Go.Proofs.Ytnaofcbbdlhjpaa.Mesh Go.Proofs.Ytnaofcbbdlhjpaa.Law Go.Proofs.Ytnaofcbbdlhjpaa.Ints Go.Proofs.Ytnaofcbbdlhjpaa.Draws Go.Deep
set_option linter.unusedVariables false

/-- The cells of a leaf's mass and tracer, at whatever world has grown out of this one. -/
theorem pair_cells {R : Int} {a1 a2 a3 a4 : Option Addr} {n1 n2 n3 n4 : Nat} {xs : List C3} {ms ts bs : List Int} {w : World} (h : ReadsS w a1 a2 a3 a4 n1 n2 n3 n4 xs ms ts bs) (hs : stOk R xs ms ts bs = true) (h0 : 0 < n2) :
    ∃ g2 o2 g3 o3 : Nat, a2 = some ⟨g2, o2, none⟩ ∧ a3 = some ⟨g3, o3, none⟩ ∧ n3 = n2 ∧ ∀ k, k < n2 → ∀ u, w.grownBy u none → u.cell? ⟨g2, o2 + k, none⟩ = some (.int .i64 (msAt ms k)) ∧ u.cell? ⟨g3, o3 + k, none⟩ = some (.int .i64 (tsAt ts k)) := by
  have hm := h.m.len
  have ht := h.t.len
  obtain ⟨m, t, q1, q2, -⟩ := pair_at hs (k := 0) (by omega)
  obtain ⟨g2, o2, rfl, -⟩ := h.m.at_ _ _ q1
  obtain ⟨g3, o3, rfl, -⟩ := h.t.at_ _ _ q2
  refine ⟨g2, o2, g3, o3, rfl, rfl, by rw [← ht, (stOk_parts hs).2.1.2.1, hm], fun k hk u hu => ?_⟩
  obtain ⟨m', t', r1, r2, e1, e2, -⟩ := pair_at hs (k := k) (by omega)
  obtain ⟨g2', o2', e, f0⟩ := h.m.at_ _ _ r1
  cases e
  obtain ⟨g3', o3', e, f1⟩ := h.t.at_ _ _ r2
  cases e
  rw [e1, e2]
  exact ⟨hu.cell f0 (by simp), hu.cell f1 (by simp)⟩

/-- What each operation leaves. -/
def TrcA (R : Int) (g2 o2 g3 o3 : Nat) (a1 a4 : Option Addr) (n1 n2 n4 c1 c2 c3 c4 k B : Nat) (m t m2 t2 F V : Int) (val : Nat → Value) (G : Nat → Grp) : Nat → Prop
  | 0 => val 0 = .pointer (some ⟨B, 3, none⟩)
  | 1 => val 1 = .slice (some ⟨g3, o3, none⟩) n2 c3
  | 2 => val 2 = .int .i64 (k : Int)
  | 3 => val 3 = .pointer (some ⟨g3, (o3 + k), none⟩)
  | 4 => val 4 = .int .i64 t
  | 5 => val 5 = .int .i64 F
  | 6 => val 6 = .pointer (some ⟨B, 2, none⟩)
  | 7 => val 7 = .slice (some ⟨g2, o2, none⟩) n2 c2
  | 8 => val 8 = .int .i64 (k : Int)
  | 9 => val 9 = .pointer (some ⟨g2, (o2 + k), none⟩)
  | 10 => val 10 = .int .i64 m
  | 11 => val 11 = .int .i64 V
  | 12 => val 12 = .int .i64 V
  | _ => True
def TrcADep : Nat → List Nat
  | 1 => [0] | 3 => [1, 2] | 4 => [3] | 7 => [6] | 9 => [7, 8] | 10 => [9] | 11 => [4, 5, 10] | 12 => [11] | _ => []
theorem TrcA_local (R : Int) (g2 o2 g3 o3 : Nat) (a1 a4 : Option Addr) (n1 n2 n4 c1 c2 c3 c4 k B : Nat) (m t m2 t2 F V : Int) : Local TrcADep (TrcA R g2 o2 g3 o3 a1 a4 n1 n2 n4 c1 c2 c3 c4 k B m t m2 t2 F V) := by
  intro val val' G G' j hk h
  match j with
  | 0 => exact (hk 0 (.inl rfl)).1.trans h
  | 1 => exact (hk 1 (.inl rfl)).1.trans h
  | 2 => exact (hk 2 (.inl rfl)).1.trans h
  | 3 => exact (hk 3 (.inl rfl)).1.trans h
  | 4 => exact (hk 4 (.inl rfl)).1.trans h
  | 5 => exact (hk 5 (.inl rfl)).1.trans h
  | 6 => exact (hk 6 (.inl rfl)).1.trans h
  | 7 => exact (hk 7 (.inl rfl)).1.trans h
  | 8 => exact (hk 8 (.inl rfl)).1.trans h
  | 9 => exact (hk 9 (.inl rfl)).1.trans h
  | 10 => exact (hk 10 (.inl rfl)).1.trans h
  | 11 => exact (hk 11 (.inl rfl)).1.trans h
  | 12 => exact (hk 12 (.inl rfl)).1.trans h
  | _ + 13 => trivial

/-- What each operation leaves. -/
def TrcB (R : Int) (g2 o2 g3 o3 : Nat) (a1 a4 : Option Addr) (n1 n2 n4 c1 c2 c3 c4 k B : Nat) (m t m2 t2 F V : Int) (val : Nat → Value) (G : Nat → Grp) : Nat → Prop
  | 0 => val 0 = .pointer (some ⟨B, 3, none⟩)
  | 1 => val 1 = .slice (some ⟨g3, o3, none⟩) n2 c3
  | 2 => val 2 = .int .i64 (k : Int)
  | 3 => val 3 = .int .i64 ((k : Int) + 1)
  | 4 => val 4 = .pointer (some ⟨g3, (o3 + (k + 1)), none⟩)
  | 5 => val 5 = .int .i64 t2
  | 6 => val 6 = .int .i64 F
  | 7 => val 7 = .int .i64 (-F)
  | 8 => val 8 = .pointer (some ⟨B, 2, none⟩)
  | 9 => val 9 = .slice (some ⟨g2, o2, none⟩) n2 c2
  | 10 => val 10 = .int .i64 (k : Int)
  | 11 => val 11 = .int .i64 ((k : Int) + 1)
  | 12 => val 12 = .pointer (some ⟨g2, (o2 + (k + 1)), none⟩)
  | 13 => val 13 = .int .i64 m2
  | 14 => val 14 = .int .i64 V
  | 15 => val 15 = .int .i64 (-V)
  | 16 => val 16 = .int .i64 (-V)
  | _ => True
def TrcBDep : Nat → List Nat
  | 1 => [0] | 3 => [2] | 4 => [1, 3] | 5 => [4] | 7 => [6] | 9 => [8] | 11 => [10] | 12 => [9, 11] | 13 => [12] | 14 => [5, 7, 13] | 15 => [14] | 16 => [15] | _ => []
theorem TrcB_local (R : Int) (g2 o2 g3 o3 : Nat) (a1 a4 : Option Addr) (n1 n2 n4 c1 c2 c3 c4 k B : Nat) (m t m2 t2 F V : Int) : Local TrcBDep (TrcB R g2 o2 g3 o3 a1 a4 n1 n2 n4 c1 c2 c3 c4 k B m t m2 t2 F V) := by
  intro val val' G G' j hk h
  match j with
  | 0 => exact (hk 0 (.inl rfl)).1.trans h
  | 1 => exact (hk 1 (.inl rfl)).1.trans h
  | 2 => exact (hk 2 (.inl rfl)).1.trans h
  | 3 => exact (hk 3 (.inl rfl)).1.trans h
  | 4 => exact (hk 4 (.inl rfl)).1.trans h
  | 5 => exact (hk 5 (.inl rfl)).1.trans h
  | 6 => exact (hk 6 (.inl rfl)).1.trans h
  | 7 => exact (hk 7 (.inl rfl)).1.trans h
  | 8 => exact (hk 8 (.inl rfl)).1.trans h
  | 9 => exact (hk 9 (.inl rfl)).1.trans h
  | 10 => exact (hk 10 (.inl rfl)).1.trans h
  | 11 => exact (hk 11 (.inl rfl)).1.trans h
  | 12 => exact (hk 12 (.inl rfl)).1.trans h
  | 13 => exact (hk 13 (.inl rfl)).1.trans h
  | 14 => exact (hk 14 (.inl rfl)).1.trans h
  | 15 => exact (hk 15 (.inl rfl)).1.trans h
  | 16 => exact (hk 16 (.inl rfl)).1.trans h
  | _ + 17 => trivial

/-- What each operation leaves. -/
def TrcS (R : Int) (g2 o2 g3 o3 : Nat) (a1 a4 : Option Addr) (n1 n2 n4 c1 c2 c3 c4 k B : Nat) (m t m2 t2 F V : Int) (val : Nat → Value) (G : Nat → Grp) : Nat → Prop
  | 0 => val 0 = .pointer (some ⟨B, 3, none⟩)
  | 1 => val 1 = .slice (some ⟨g3, o3, none⟩) n2 c3
  | 2 => val 2 = .int .i64 (k : Int)
  | 3 => val 3 = .pointer (some ⟨g3, (o3 + k), none⟩)
  | 4 => val 4 = .int .i64 t
  | 5 => val 5 = .int .i64 (1000 * t)
  | 6 => val 6 = .pointer (some ⟨B, 2, none⟩)
  | 7 => val 7 = .slice (some ⟨g2, o2, none⟩) n2 c2
  | 8 => val 8 = .int .i64 (k : Int)
  | 9 => val 9 = .pointer (some ⟨g2, (o2 + k), none⟩)
  | 10 => val 10 = .int .i64 m
  | 11 => val 11 = .int .i64 V
  | 12 => val 12 = .int .i64 V
  | _ => True
def TrcSDep : Nat → List Nat
  | 1 => [0] | 3 => [1, 2] | 4 => [3] | 5 => [4] | 7 => [6] | 9 => [7, 8] | 10 => [9] | 11 => [5, 10] | 12 => [11] | _ => []
theorem TrcS_local (R : Int) (g2 o2 g3 o3 : Nat) (a1 a4 : Option Addr) (n1 n2 n4 c1 c2 c3 c4 k B : Nat) (m t m2 t2 F V : Int) : Local TrcSDep (TrcS R g2 o2 g3 o3 a1 a4 n1 n2 n4 c1 c2 c3 c4 k B m t m2 t2 F V) := by
  intro val val' G G' j hk h
  match j with
  | 0 => exact (hk 0 (.inl rfl)).1.trans h
  | 1 => exact (hk 1 (.inl rfl)).1.trans h
  | 2 => exact (hk 2 (.inl rfl)).1.trans h
  | 3 => exact (hk 3 (.inl rfl)).1.trans h
  | 4 => exact (hk 4 (.inl rfl)).1.trans h
  | 5 => exact (hk 5 (.inl rfl)).1.trans h
  | 6 => exact (hk 6 (.inl rfl)).1.trans h
  | 7 => exact (hk 7 (.inl rfl)).1.trans h
  | 8 => exact (hk 8 (.inl rfl)).1.trans h
  | 9 => exact (hk 9 (.inl rfl)).1.trans h
  | 10 => exact (hk 10 (.inl rfl)).1.trans h
  | 11 => exact (hk 11 (.inl rfl)).1.trans h
  | 12 => exact (hk 12 (.inl rfl)).1.trans h
  | _ + 13 => trivial

/-- What each operation leaves. -/
def TrcM (R : Int) (g2 o2 g3 o3 : Nat) (a1 a4 : Option Addr) (n1 n2 n4 c1 c2 c3 c4 k B : Nat) (m t m2 t2 F V : Int) (val : Nat → Value) (G : Nat → Grp) : Nat → Prop
  | 0 => val 0 = .agg #[.int .i64 R, .slice a1 n1 c1, .slice (some ⟨g2, o2, none⟩) n2 c2, .slice (some ⟨g3, o3, none⟩) n2 c3, .slice a4 n4 c4]
  | 1 => val 1 = .int .i64 (k : Int)
  | 2 => val 2 = .int .i64 F
  | 3 => val 3 = .pointer (some ⟨B, 3, none⟩)
  | 4 => val 4 = .slice (some ⟨g3, o3, none⟩) n2 c3
  | 5 => val 5 = .int .i64 (k : Int)
  | 6 => val 6 = .pointer (some ⟨g3, (o3 + k), none⟩)
  | 7 => val 7 = .int .i64 t
  | 8 => val 8 = .pointer (some ⟨B, 2, none⟩)
  | 9 => val 9 = .slice (some ⟨g2, o2, none⟩) n2 c2
  | 10 => val 10 = .int .i64 (k : Int)
  | 11 => val 11 = .pointer (some ⟨g2, (o2 + k), none⟩)
  | 12 => val 12 = .int .i64 m
  | 13 => val 13 = .pointer (some ⟨B, 3, none⟩)
  | 14 => val 14 = .slice (some ⟨g3, o3, none⟩) n2 c3
  | 15 => val 15 = .int .i64 (k : Int)
  | 16 => val 16 = .int .i64 ((k : Int) + 1)
  | 17 => val 17 = .pointer (some ⟨g3, (o3 + (k + 1)), none⟩)
  | 18 => val 18 = .int .i64 t2
  | 19 => val 19 = .pointer (some ⟨B, 2, none⟩)
  | 20 => val 20 = .slice (some ⟨g2, o2, none⟩) n2 c2
  | 21 => val 21 = .int .i64 (k : Int)
  | 22 => val 22 = .int .i64 ((k : Int) + 1)
  | 23 => val 23 = .pointer (some ⟨g2, (o2 + (k + 1)), none⟩)
  | 24 => val 24 = .int .i64 m2
  | 25 => val 25 = .int .i64 V
  | 26 => val 26 = .int .i64 V
  | _ => True
def TrcMDep : Nat → List Nat
  | 2 => [0, 1] | 4 => [3] | 6 => [4, 5] | 7 => [6] | 9 => [8] | 11 => [9, 10] | 12 => [11] | 14 => [13] | 16 => [15] | 17 => [14, 16] | 18 => [17] | 20 => [19] | 22 => [21] | 23 => [20, 22] | 24 => [23] | 25 => [2, 7, 12, 18, 24] | 26 => [25] | _ => []
theorem TrcM_local (R : Int) (g2 o2 g3 o3 : Nat) (a1 a4 : Option Addr) (n1 n2 n4 c1 c2 c3 c4 k B : Nat) (m t m2 t2 F V : Int) : Local TrcMDep (TrcM R g2 o2 g3 o3 a1 a4 n1 n2 n4 c1 c2 c3 c4 k B m t m2 t2 F V) := by
  intro val val' G G' j hk h
  match j with
  | 0 => exact (hk 0 (.inl rfl)).1.trans h
  | 1 => exact (hk 1 (.inl rfl)).1.trans h
  | 2 => exact (hk 2 (.inl rfl)).1.trans h
  | 3 => exact (hk 3 (.inl rfl)).1.trans h
  | 4 => exact (hk 4 (.inl rfl)).1.trans h
  | 5 => exact (hk 5 (.inl rfl)).1.trans h
  | 6 => exact (hk 6 (.inl rfl)).1.trans h
  | 7 => exact (hk 7 (.inl rfl)).1.trans h
  | 8 => exact (hk 8 (.inl rfl)).1.trans h
  | 9 => exact (hk 9 (.inl rfl)).1.trans h
  | 10 => exact (hk 10 (.inl rfl)).1.trans h
  | 11 => exact (hk 11 (.inl rfl)).1.trans h
  | 12 => exact (hk 12 (.inl rfl)).1.trans h
  | 13 => exact (hk 13 (.inl rfl)).1.trans h
  | 14 => exact (hk 14 (.inl rfl)).1.trans h
  | 15 => exact (hk 15 (.inl rfl)).1.trans h
  | 16 => exact (hk 16 (.inl rfl)).1.trans h
  | 17 => exact (hk 17 (.inl rfl)).1.trans h
  | 18 => exact (hk 18 (.inl rfl)).1.trans h
  | 19 => exact (hk 19 (.inl rfl)).1.trans h
  | 20 => exact (hk 20 (.inl rfl)).1.trans h
  | 21 => exact (hk 21 (.inl rfl)).1.trans h
  | 22 => exact (hk 22 (.inl rfl)).1.trans h
  | 23 => exact (hk 23 (.inl rfl)).1.trans h
  | 24 => exact (hk 24 (.inl rfl)).1.trans h
  | 25 => exact (hk 25 (.inl rfl)).1.trans h
  | 26 => exact (hk 26 (.inl rfl)).1.trans h
  | _ + 27 => trivial
end Go.Proofs.Ytnaofcbbdlhjpaa.State
