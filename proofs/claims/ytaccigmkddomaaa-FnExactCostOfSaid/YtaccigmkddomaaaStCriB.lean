/- Criteria: the model's and the program's functions of chapter 16 answer the same: both contracts, as the exact laws' walks want them (written by wip/tools/mkboth16.py).
   Conditions: at most 2^20 leaves and numbers. -/
import Derived.Test.YtaccigmkddomaaaStCriI
import Derived.Test.YtaccigmkddomaaaStCriS
set_option maxRecDepth 100000
namespace Go.Proofs.Ytaccigmkddomaaa.State
open Go.ChangeShapes Go.WideShapes Go.ChangeAt Go.RowKit Go.Proofs.Ytaccigmkddomaaa.Cell Go.Proofs.Ytaccigmkddomaaa.Mesh Go.Proofs.Ytaccigmkddomaaa.Law Go.Proofs.Ytaccigmkddomaaa.Ints
set_option linter.unusedVariables false

theorem int_rangeC {i : Int} (wi : (Lit.int .i64 i).wf = true) : -9223372036854775808 ≤ i ∧ i ≤ 9223372036854775807 := by
  have h := range_i64 (zs := [i]) (by simpa using wi) 0
  simpa using h
theorem both_JumpAt (R : Int) (n1 n2 n3 n4 : Nat) (xs : List C3) (ms ts bs : List Int) (l1 : xs.length = n1) (l2 : ms.length = n2) (l3 : ts.length = n3) (l4 : bs.length = n4) (h1 : n1 ≤ 1048576) (h2 : n2 ≤ 1048576) (h3 : n3 ≤ 1048576) (h4 : n4 ≤ 1048576) (i : Int) (wi : (Lit.int .i64 i).wf = true) : ∃ y : Int,
  (∀ (u : World) (g1 g2 g3 g4 c1 c2 c3 c4 : Nat), ReadsS u (some ⟨g1, 0, none⟩) (some ⟨g2, 0, none⟩) (some ⟨g3, 0, none⟩) (some ⟨g4, 0, none⟩) n1 n2 n3 n4 xs ms ts bs → Calls Try.prog 22 #[.agg #[.int .i64 R, .slice (some ⟨g1, 0, none⟩) n1 c1, .slice (some ⟨g2, 0, none⟩) n2 c2, .slice (some ⟨g3, 0, none⟩) n3 c3, .slice (some ⟨g4, 0, none⟩) n4 c4], .int .i64 i] u fun e w' => e = .returned (.int .i64 y) ∧ u.grownBy w' none)
  ∧ (∀ (u : World) (g1 g2 g3 g4 c1 c2 c3 c4 : Nat), ReadsS u (some ⟨g1, 0, none⟩) (some ⟨g2, 0, none⟩) (some ⟨g3, 0, none⟩) (some ⟨g4, 0, none⟩) n1 n2 n3 n4 xs ms ts bs → Calls Try.prog 14 #[.agg #[.int .i64 R, .slice (some ⟨g1, 0, none⟩) n1 c1, .slice (some ⟨g2, 0, none⟩) n2 c2, .slice (some ⟨g3, 0, none⟩) n3 c3, .slice (some ⟨g4, 0, none⟩) n4 c4], .int .i64 i] u fun e w' => e = .returned (.int .i64 y) ∧ u.grownBy w' none) :=
  ⟨_, fun u g1 g2 g3 g4 c1 c2 c3 c4 h => specJumpAt_is R _ _ _ _ n1 n2 n3 n4 c1 c2 c3 c4 xs ms ts bs i u h h1 h2 h3 h4 (int_rangeC wi), fun u g1 g2 g3 g4 c1 c2 c3 c4 h => jumpAtG_is R _ _ _ _ n1 n2 n3 n4 c1 c2 c3 c4 xs ms ts bs i u h h1 h2 h3 h4 (int_rangeC wi)⟩
theorem both_Wishes (R : Int) (n1 n2 n3 n4 : Nat) (xs : List C3) (ms ts bs : List Int) (l1 : xs.length = n1) (l2 : ms.length = n2) (l3 : ts.length = n3) (l4 : bs.length = n4) (h1 : n1 ≤ 1048576) (h2 : n2 ≤ 1048576) (h3 : n3 ≤ 1048576) (h4 : n4 ≤ 1048576) (a : Int) (wa : (Lit.int .i64 a).wf = true) (b : Int) (wb : (Lit.int .i64 b).wf = true) : ∃ (m1 : Nat) (ys : List Int), m1 ≤ 1048576
  ∧ (∀ (u : World) (g1 g2 g3 g4 c1 c2 c3 c4 : Nat), ReadsS u (some ⟨g1, 0, none⟩) (some ⟨g2, 0, none⟩) (some ⟨g3, 0, none⟩) (some ⟨g4, 0, none⟩) n1 n2 n3 n4 xs ms ts bs → Calls Try.prog 25 #[.agg #[.int .i64 R, .slice (some ⟨g1, 0, none⟩) n1 c1, .slice (some ⟨g2, 0, none⟩) n2 c2, .slice (some ⟨g3, 0, none⟩) n3 c3, .slice (some ⟨g4, 0, none⟩) n4 c4], .int .i64 a, .int .i64 b] u fun e w' => ∃ (q : Option Addr) (d : Nat), e = .returned (.slice q m1 d) ∧ w'.ownsRow u.heap.size 3 1 (.slice q m1 d) m1 (vals ys) ∧ u.grownBy w' none)
  ∧ (∀ (u : World) (g1 g2 g3 g4 c1 c2 c3 c4 : Nat), ReadsS u (some ⟨g1, 0, none⟩) (some ⟨g2, 0, none⟩) (some ⟨g3, 0, none⟩) (some ⟨g4, 0, none⟩) n1 n2 n3 n4 xs ms ts bs → Calls Try.prog 13 #[.agg #[.int .i64 R, .slice (some ⟨g1, 0, none⟩) n1 c1, .slice (some ⟨g2, 0, none⟩) n2 c2, .slice (some ⟨g3, 0, none⟩) n3 c3, .slice (some ⟨g4, 0, none⟩) n4 c4], .int .i64 a, .int .i64 b] u fun e w' => ∃ (q : Option Addr) (d : Nat), e = .returned (.slice q m1 d) ∧ w'.ownsRow u.heap.size 3 1 (.slice q m1 d) m1 (vals ys) ∧ u.grownBy w' none) :=
  ⟨(wishG R xs ms ts bs a b).length, wishG R xs ms ts bs a b, (by
    cases hs : stOk R xs ms ts bs with
    | true => rw [wishG_len hs]; omega
    | false => unfold wishG; rw [hs]; simp), fun u g1 g2 g3 g4 c1 c2 c3 c4 h => specWishes_is R _ _ _ _ n1 n2 n3 n4 c1 c2 c3 c4 xs ms ts bs a b u h h1 h2 h3 h4, fun u g1 g2 g3 g4 c1 c2 c3 c4 h => wishes_is R _ _ _ _ n1 n2 n3 n4 c1 c2 c3 c4 xs ms ts bs a b u h h1 h2 h3 h4⟩
theorem both_CountWishes (n1 : Nat) (xs : List Int) (l1 : xs.length = n1) (h1 : n1 ≤ 1048576) (v : Int) (wv : (Lit.int .i64 v).wf = true) : ∃ y : Int,
  (∀ (u : World) (g1 c1 : Nat), ReadsI u (some ⟨g1, 0, none⟩) n1 xs → Calls Try.prog 30 #[.slice (some ⟨g1, 0, none⟩) n1 c1, .int .i64 v] u fun e w' => e = .returned (.int .i64 y) ∧ u.grownBy w' none)
  ∧ (∀ (u : World) (g1 c1 : Nat), ReadsI u (some ⟨g1, 0, none⟩) n1 xs → Calls Try.prog 15 #[.slice (some ⟨g1, 0, none⟩) n1 c1, .int .i64 v] u fun e w' => e = .returned (.int .i64 y) ∧ u.grownBy w' none) :=
  ⟨_, fun u g1 c1 h => specCountWishes_is _ n1 c1 xs v u h h1, fun u g1 c1 h => countWishes_is _ n1 c1 xs v u h h1⟩
theorem both_CostOf (R : Int) (n1 : Nat) (xs : List C3) (l1 : xs.length = n1) (h1 : n1 ≤ 1048576) : ∃ y : Int,
  (∀ (u : World) (g1 c1 : Nat), Reads u (some ⟨g1, 0, none⟩) n1 xs → Calls Try.prog 33 #[.agg #[.int .i64 R, .slice (some ⟨g1, 0, none⟩) n1 c1]] u fun e w' => e = .returned (.int .i64 y) ∧ u.grownBy w' none)
  ∧ (∀ (u : World) (g1 c1 : Nat), Reads u (some ⟨g1, 0, none⟩) n1 xs → Calls Try.prog 18 #[.agg #[.int .i64 R, .slice (some ⟨g1, 0, none⟩) n1 c1]] u fun e w' => e = .returned (.int .i64 y) ∧ u.grownBy w' none) :=
  ⟨_, fun u g1 c1 h => specCostOf_is R _ n1 c1 xs u h h1, fun u g1 c1 h => costOf_is R _ n1 c1 xs u h h1⟩
theorem both_SavedBy (R : Int) (n1 : Nat) (xs : List C3) (l1 : xs.length = n1) (h1 : n1 ≤ 1048576) : ∃ y : Int,
  (∀ (u : World) (g1 c1 : Nat), Reads u (some ⟨g1, 0, none⟩) n1 xs → Calls Try.prog 36 #[.agg #[.int .i64 R, .slice (some ⟨g1, 0, none⟩) n1 c1]] u fun e w' => e = .returned (.int .i64 y) ∧ u.grownBy w' none)
  ∧ (∀ (u : World) (g1 c1 : Nat), Reads u (some ⟨g1, 0, none⟩) n1 xs → Calls Try.prog 20 #[.agg #[.int .i64 R, .slice (some ⟨g1, 0, none⟩) n1 c1]] u fun e w' => e = .returned (.int .i64 y) ∧ u.grownBy w' none) :=
  ⟨_, fun u g1 c1 h => specSavedBy_is R _ n1 c1 xs u h h1, fun u g1 c1 h => savedBy_is R _ n1 c1 xs u h h1⟩
end Go.Proofs.Ytaccigmkddomaaa.State
