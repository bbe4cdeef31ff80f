/- Steps: the model's and the program's functions of chapter 11 answer the same: both contracts, as the exact laws' walks want them (written by wip/tools/mkboth11.py).
   Conditions: at most 2^20 leaves and numbers. -/
import Derived.Test.YtnaofcbbdlhjpaaStStepT
set_option maxRecDepth 100000
namespace Go.Proofs.Ytnaofcbbdlhjpaa.State
open Go.ChangeShapes Go.WideShapes Go.ChangeAt Go.RowKit Go.Proofs.Ytnaofcbbdlhjpaa.Cell Go.Proofs.Ytnaofcbbdlhjpaa.Mesh Go.Proofs.Ytnaofcbbdlhjpaa.Law Go.Proofs.Ytnaofcbbdlhjpaa.Ints
set_option linter.unusedVariables false

theorem int_rangeB {i : Int} (wi : (Lit.int .i64 i).wf = true) : -9223372036854775808 ≤ i ∧ i ≤ 9223372036854775807 := by
  have h := range_i64 (zs := [i]) (by simpa using wi) 0
  simpa using h
theorem actG_len {R : Int} {xs : List C3} {t : Int} (h : xs.length ≤ 1048576) : (actG R xs t).length ≤ 1048576 := by
  unfold actG
  split
  · have := actF_len xs t (xs.length - 1); rw [toI_len]; omega
  · simp
theorem both_IsActive (t : Int) (wt : (Lit.int .i64 t).wf = true) (l : Int) (wl : (Lit.int .i64 l).wf = true) : ∃ y : Bool,
  (∀ u : World, Calls Try.prog 30 #[.int .i64 t, .int .i64 l] u fun e w' => e = .returned (.bool y) ∧ u.grownBy w' none)
  ∧ (∀ u : World, Calls Try.prog 28 #[.int .i64 t, .int .i64 l] u fun e w' => e = .returned (.bool y) ∧ u.grownBy w' none) :=
  ⟨_, fun u => (specIsActive_is t l u).mono fun _ _ ⟨he, hw⟩ => ⟨he, hw ▸ Cell.grown_refl _⟩, fun u => (isActive_is t l u).mono fun _ _ ⟨he, hw⟩ => ⟨he, hw ▸ Cell.grown_refl _⟩⟩
theorem both_ActiveFaces (R : Int) (n1 : Nat) (xs : List C3) (l1 : xs.length = n1) (h1 : n1 ≤ 1048576) (t : Int) (wt : (Lit.int .i64 t).wf = true) : ∃ (m1 : Nat) (ys : List Int), m1 ≤ 1048576
  ∧ (∀ (u : World) (g1 c1 : Nat), Reads u (some ⟨g1, 0, none⟩) n1 xs → Calls Try.prog 39 #[.agg #[.int .i64 R, .slice (some ⟨g1, 0, none⟩) n1 c1], .int .i64 t] u fun e w' => ∃ (q : Option Addr) (d : Nat), e = .returned (.slice q m1 d) ∧ w'.ownsRow u.heap.size 3 1 (.slice q m1 d) m1 (vals ys) ∧ u.grownBy w' none)
  ∧ (∀ (u : World) (g1 c1 : Nat), Reads u (some ⟨g1, 0, none⟩) n1 xs → Calls Try.prog 27 #[.agg #[.int .i64 R, .slice (some ⟨g1, 0, none⟩) n1 c1], .int .i64 t] u fun e w' => ∃ (q : Option Addr) (d : Nat), e = .returned (.slice q m1 d) ∧ w'.ownsRow u.heap.size 3 1 (.slice q m1 d) m1 (vals ys) ∧ u.grownBy w' none) :=
  ⟨(actG R xs t).length, actG R xs t, actG_len (by omega), fun u g1 c1 h => specActiveFaces_is R t _ n1 c1 xs u h h1, fun u g1 c1 h => activeFaces_is R t _ n1 c1 xs u h h1⟩
theorem both_FluxSum (R : Int) (n1 n2 n3 n4 : Nat) (xs : List C3) (ms ts bs : List Int) (l1 : xs.length = n1) (l2 : ms.length = n2) (l3 : ts.length = n3) (l4 : bs.length = n4) (h1 : n1 ≤ 1048576) (h2 : n2 ≤ 1048576) (h3 : n3 ≤ 1048576) (h4 : n4 ≤ 1048576) (i : Int) (wi : (Lit.int .i64 i).wf = true) : ∃ y : Int,
  (∀ (u : World) (g1 g2 g3 g4 c1 c2 c3 c4 : Nat), ReadsS u (some ⟨g1, 0, none⟩) (some ⟨g2, 0, none⟩) (some ⟨g3, 0, none⟩) (some ⟨g4, 0, none⟩) n1 n2 n3 n4 xs ms ts bs → Calls Try.prog 46 #[.agg #[.int .i64 R, .slice (some ⟨g1, 0, none⟩) n1 c1, .slice (some ⟨g2, 0, none⟩) n2 c2, .slice (some ⟨g3, 0, none⟩) n3 c3, .slice (some ⟨g4, 0, none⟩) n4 c4], .int .i64 i] u fun e w' => e = .returned (.int .i64 y) ∧ u.grownBy w' none)
  ∧ (∀ (u : World) (g1 g2 g3 g4 c1 c2 c3 c4 : Nat), ReadsS u (some ⟨g1, 0, none⟩) (some ⟨g2, 0, none⟩) (some ⟨g3, 0, none⟩) (some ⟨g4, 0, none⟩) n1 n2 n3 n4 xs ms ts bs → Calls Try.prog 24 #[.agg #[.int .i64 R, .slice (some ⟨g1, 0, none⟩) n1 c1, .slice (some ⟨g2, 0, none⟩) n2 c2, .slice (some ⟨g3, 0, none⟩) n3 c3, .slice (some ⟨g4, 0, none⟩) n4 c4], .int .i64 i] u fun e w' => e = .returned (.int .i64 y) ∧ u.grownBy w' none) :=
  ⟨_, fun u g1 g2 g3 g4 c1 c2 c3 c4 h => specFluxSum_is R g1 g2 g3 g4 n1 n2 n3 n4 c1 c2 c3 c4 xs ms ts bs i u h h1 h2 h3 h4 (int_rangeB wi), fun u g1 g2 g3 g4 c1 c2 c3 c4 h => fluxSum_is R _ _ _ _ n1 n2 n3 n4 c1 c2 c3 c4 xs ms ts bs i u h h1 h2 h3 h4 (int_rangeB wi)⟩
theorem both_StepState (R : Int) (n1 n2 n3 n4 : Nat) (xs : List C3) (ms ts bs : List Int) (l1 : xs.length = n1) (l2 : ms.length = n2) (l3 : ts.length = n3) (l4 : bs.length = n4) (h1 : n1 ≤ 1048576) (h2 : n2 ≤ 1048576) (h3 : n3 ≤ 1048576) (h4 : n4 ≤ 1048576) (i : Int) (wi : (Lit.int .i64 i).wf = true) : ∃ (R9 : Int) (m1 m2 m3 m4 : Nat) (ys : List C3) (mr tr br : List Int), m1 ≤ 1048576 ∧ m2 ≤ 1048576 ∧ m3 ≤ 1048576 ∧ m4 ≤ 1048576
  ∧ (∀ (u : World) (g1 g2 g3 g4 c1 c2 c3 c4 : Nat), ReadsS u (some ⟨g1, 0, none⟩) (some ⟨g2, 0, none⟩) (some ⟨g3, 0, none⟩) (some ⟨g4, 0, none⟩) n1 n2 n3 n4 xs ms ts bs → Calls Try.prog 32 #[.agg #[.int .i64 R, .slice (some ⟨g1, 0, none⟩) n1 c1, .slice (some ⟨g2, 0, none⟩) n2 c2, .slice (some ⟨g3, 0, none⟩) n3 c3, .slice (some ⟨g4, 0, none⟩) n4 c4], .int .i64 i] u (GivesS R9 m1 m2 m3 m4 ys mr tr br u))
  ∧ (∀ (u : World) (g1 g2 g3 g4 c1 c2 c3 c4 : Nat), ReadsS u (some ⟨g1, 0, none⟩) (some ⟨g2, 0, none⟩) (some ⟨g3, 0, none⟩) (some ⟨g4, 0, none⟩) n1 n2 n3 n4 xs ms ts bs → Calls Try.prog 15 #[.agg #[.int .i64 R, .slice (some ⟨g1, 0, none⟩) n1 c1, .slice (some ⟨g2, 0, none⟩) n2 c2, .slice (some ⟨g3, 0, none⟩) n3 c3, .slice (some ⟨g4, 0, none⟩) n4 c4], .int .i64 i] u (GivesS R9 m1 m2 m3 m4 ys mr tr br u)) :=
  ⟨_, _, _, _, _, _, _, _, _, h1, h2, h3, h4, fun u g1 g2 g3 g4 c1 c2 c3 c4 h => specStepState_is R i g1 g2 g3 g4 n1 n2 n3 n4 c1 c2 c3 c4 xs ms ts bs u h h1 h2 h3 h4, fun u g1 g2 g3 g4 c1 c2 c3 c4 h => stepState_is R i _ _ _ _ n1 n2 n3 n4 c1 c2 c3 c4 xs ms ts bs u h h1 h2 h3 h4⟩
theorem both_MacroStep (R : Int) (n1 n2 n3 n4 : Nat) (xs : List C3) (ms ts bs : List Int) (l1 : xs.length = n1) (l2 : ms.length = n2) (l3 : ts.length = n3) (l4 : bs.length = n4) (h1 : n1 ≤ 1048576) (h2 : n2 ≤ 1048576) (h3 : n3 ≤ 1048576) (h4 : n4 ≤ 1048576) : ∃ (R9 : Int) (m1 m2 m3 m4 : Nat) (ys : List C3) (mr tr br : List Int), m1 ≤ 1048576 ∧ m2 ≤ 1048576 ∧ m3 ≤ 1048576 ∧ m4 ≤ 1048576
  ∧ (∀ (u : World) (g1 g2 g3 g4 c1 c2 c3 c4 : Nat), ReadsS u (some ⟨g1, 0, none⟩) (some ⟨g2, 0, none⟩) (some ⟨g3, 0, none⟩) (some ⟨g4, 0, none⟩) n1 n2 n3 n4 xs ms ts bs → Calls Try.prog 37 #[.agg #[.int .i64 R, .slice (some ⟨g1, 0, none⟩) n1 c1, .slice (some ⟨g2, 0, none⟩) n2 c2, .slice (some ⟨g3, 0, none⟩) n3 c3, .slice (some ⟨g4, 0, none⟩) n4 c4]] u (GivesS R9 m1 m2 m3 m4 ys mr tr br u))
  ∧ (∀ (u : World) (g1 g2 g3 g4 c1 c2 c3 c4 : Nat), ReadsS u (some ⟨g1, 0, none⟩) (some ⟨g2, 0, none⟩) (some ⟨g3, 0, none⟩) (some ⟨g4, 0, none⟩) n1 n2 n3 n4 xs ms ts bs → Calls Try.prog 23 #[.agg #[.int .i64 R, .slice (some ⟨g1, 0, none⟩) n1 c1, .slice (some ⟨g2, 0, none⟩) n2 c2, .slice (some ⟨g3, 0, none⟩) n3 c3, .slice (some ⟨g4, 0, none⟩) n4 c4]] u (GivesS R9 m1 m2 m3 m4 ys mr tr br u)) :=
  ⟨_, _, _, _, _, _, _, _, _, h1, h2, h3, h4, fun u g1 g2 g3 g4 c1 c2 c3 c4 h => specMacroStep_is R g1 g2 g3 g4 n1 n2 n3 n4 c1 c2 c3 c4 xs ms ts bs u h h1 h2 h3 h4, fun u g1 g2 g3 g4 c1 c2 c3 c4 h => macroStep_is R _ _ _ _ n1 n2 n3 n4 c1 c2 c3 c4 xs ms ts bs u h h1 h2 h3 h4⟩
end Go.Proofs.Ytnaofcbbdlhjpaa.State
