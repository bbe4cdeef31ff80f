/- Decay of the tracer: the model's and the program's functions of chapter 15 answer the same: both contracts, as the exact laws' walks want them (written by wip/tools/mkboth15.py).
   Conditions: at most 2^20 leaves and numbers. -/
import Derived.Test.YtcboogodphpjbaaStDecI
import Derived.Test.YtcboogodphpjbaaStDecS
set_option maxRecDepth 100000
namespace Go.Proofs.Ytcboogodphpjbaa.State
open Go.ChangeShapes Go.WideShapes Go.ChangeAt Go.RowKit Go.Proofs.Ytcboogodphpjbaa.Cell Go.Proofs.Ytcboogodphpjbaa.Mesh Go.Proofs.Ytcboogodphpjbaa.Law Go.Proofs.Ytcboogodphpjbaa.Ints
set_option linter.unusedVariables false

theorem both_DecayAll (R : Int) (n1 n2 n3 n4 : Nat) (xs : List C3) (ms ts bs : List Int) (l1 : xs.length = n1) (l2 : ms.length = n2) (l3 : ts.length = n3) (l4 : bs.length = n4) (h1 : n1 ≤ 1048576) (h2 : n2 ≤ 1048576) (h3 : n3 ≤ 1048576) (h4 : n4 ≤ 1048576) (a : Int) (wa : (Lit.int .i64 a).wf = true) : ∃ (R9 : Int) (m1 m2 m3 m4 : Nat) (ys : List C3) (mr tr br : List Int) (k0 k1 k2 k3 : Int), m1 ≤ 1048576 ∧ m2 ≤ 1048576 ∧ m3 ≤ 1048576 ∧ m4 ≤ 1048576
  ∧ (∀ u : World, ∀ (g1 g2 g3 g4 c1 c2 c3 c4 : Nat), ReadsS u (some ⟨g1, 0, none⟩) (some ⟨g2, 0, none⟩) (some ⟨g3, 0, none⟩) (some ⟨g4, 0, none⟩) n1 n2 n3 n4 xs ms ts bs → Calls Try.prog 16 #[.agg #[.int .i64 R, .slice (some ⟨g1, 0, none⟩) n1 c1, .slice (some ⟨g2, 0, none⟩) n2 c2, .slice (some ⟨g3, 0, none⟩) n3 c3, .slice (some ⟨g4, 0, none⟩) n4 c4], .int .i64 a] u (GivesSL R9 m1 m2 m3 m4 ys mr tr br k0 k1 k2 k3 u))
  ∧ (∀ u : World, ∀ (g1 g2 g3 g4 c1 c2 c3 c4 : Nat), ReadsS u (some ⟨g1, 0, none⟩) (some ⟨g2, 0, none⟩) (some ⟨g3, 0, none⟩) (some ⟨g4, 0, none⟩) n1 n2 n3 n4 xs ms ts bs → Calls Try.prog 10 #[.agg #[.int .i64 R, .slice (some ⟨g1, 0, none⟩) n1 c1, .slice (some ⟨g2, 0, none⟩) n2 c2, .slice (some ⟨g3, 0, none⟩) n3 c3, .slice (some ⟨g4, 0, none⟩) n4 c4], .int .i64 a] u (GivesSL R9 m1 m2 m3 m4 ys mr tr br k0 k1 k2 k3 u)) :=
  ⟨_, _, _, _, _, _, _, _, _, _, _, _, _, h1, h2, h3, h4, fun u g1 g2 g3 g4 c1 c2 c3 c4 h => specDecayAll_is R g1 g2 g3 g4 n1 n2 n3 n4 c1 c2 c3 c4 xs ms ts bs a u h h1 h2 h3 h4,
    fun u g1 g2 g3 g4 c1 c2 c3 c4 h => decayAll_is R _ _ _ _ n1 n2 n3 n4 c1 c2 c3 c4 xs ms ts bs a u h h1 h2 h3 h4⟩
theorem both_DecayTicks (t : Int) (wt : (Lit.int .i64 t).wf = true) (r : Int) (wr : (Lit.int .i64 r).wf = true) (l : Int) (wl : (Lit.int .i64 l).wf = true) : ∃ y : Int,
  (∀ u : World, Calls Try.prog 22 #[.int .i64 t, .int .i64 r, .int .i64 l] u fun e w' => e = .returned (.int .i64 y) ∧ u.grownBy w' none)
  ∧ (∀ u : World, Calls Try.prog 12 #[.int .i64 t, .int .i64 r, .int .i64 l] u fun e w' => e = .returned (.int .i64 y) ∧ u.grownBy w' none) :=
  ⟨_, fun u => specDecayTicks_is t r l u, fun u => decayTicks_is t r l u⟩
theorem both_StableAmount (r : Int) (wr : (Lit.int .i64 r).wf = true) : ∃ y : Int,
  (∀ u : World, Calls Try.prog 23 #[.int .i64 r] u fun e w' => e = .returned (.int .i64 y) ∧ u.grownBy w' none)
  ∧ (∀ u : World, Calls Try.prog 11 #[.int .i64 r] u fun e w' => e = .returned (.int .i64 y) ∧ u.grownBy w' none) :=
  ⟨_, fun u => specStableAmount_is r u, fun u => stableAmount_is r u⟩
end Go.Proofs.Ytcboogodphpjbaa.State
