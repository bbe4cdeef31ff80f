/- States: the model's and the program's functions of chapter 8 answer the same: both contracts, as the exact laws' walks want them.
   Conditions: at most 2^20 leaves and numbers. -/
import Derived.Test.YtfoilfgiablleaaStBalI
import Derived.Test.YtfoilfgiablleaaStBalS
set_option maxRecDepth 100000
namespace Go.Proofs.Ytfoilfgiablleaa.State
open Go.ChangeShapes Go.WideShapes Go.ChangeAt Go.RowKit Go.Proofs.Ytfoilfgiablleaa.Cell Go.Proofs.Ytfoilfgiablleaa.Mesh Go.Proofs.Ytfoilfgiablleaa.Law Go.Proofs.Ytfoilfgiablleaa.Ints
set_option linter.unusedVariables false

theorem ok_small {R : Int} {xs : List C3} {ms ts bs : List Int} (h : stOk R xs ms ts bs = true) : xs.length ≤ 1048576 ∧ ms.length ≤ 1048576 ∧ ts.length ≤ 1048576 := by
  obtain ⟨hp, -⟩ := pre_of h
  have := (mesh_parts hp.mesh).2.2
  have := hp.lm
  have := hp.lt
  omega
theorem ref_small {R i : Int} {xs : List C3} {ms ts bs : List Int} (h1 : xs.length ≤ 1048576) (h2 : ms.length ≤ 1048576) (h3 : ts.length ≤ 1048576) : (refX R xs ms ts bs i).length ≤ 1048576 ∧ (refM R xs ms ts bs i).length ≤ 1048576 ∧ (refT R xs ms ts bs i).length ≤ 1048576 := by
  cases hp : refB R xs ms ts bs i with
  | true => exact ok_small (ref_ok hp).1
  | false => obtain ⟨e1, e2, e3⟩ := ref_no hp; rw [e1, e2, e3]; exact ⟨h1, h2, h3⟩
theorem co_small {R i : Int} {xs : List C3} {ms ts bs : List Int} (h1 : xs.length ≤ 1048576) (h2 : ms.length ≤ 1048576) (h3 : ts.length ≤ 1048576) : (coX R xs ms ts bs i).length ≤ 1048576 ∧ (coM R xs ms ts bs i).length ≤ 1048576 ∧ (coT R xs ms ts bs i).length ≤ 1048576 := by
  cases hs : stOk R xs ms ts bs with
  | true => exact ok_small (co_ok hs).1
  | false => obtain ⟨e1, e2, e3⟩ := co_no (R := R) (xs := xs) (ms := ms) (ts := ts) (bs := bs) (i := i) (by simp [coB, hs]); rw [e1, e2, e3]; exact ⟨h1, h2, h3⟩
theorem br_small {R i : Int} {xs : List C3} {ms ts bs : List Int} (h1 : xs.length ≤ 1048576) (h2 : ms.length ≤ 1048576) (h3 : ts.length ≤ 1048576) : (brS R xs ms ts bs i).1.length ≤ 1048576 ∧ (brS R xs ms ts bs i).2.1.length ≤ 1048576 ∧ (brS R xs ms ts bs i).2.2.length ≤ 1048576 := by
  cases hs : stOk R xs ms ts bs with
  | true => exact ok_small (br_ok hs).1
  | false => rw [br_no (R := R) (xs := xs) (ms := ms) (ts := ts) (bs := bs) (i := i) (by simp [brB, hs])]; exact ⟨h1, h2, h3⟩

theorem both_RefineState (R : Int) (n1 n2 n3 n4 : Nat) (xs : List C3) (ms ts bs : List Int) (l1 : xs.length = n1) (l2 : ms.length = n2) (l3 : ts.length = n3) (l4 : bs.length = n4) (h1 : n1 ≤ 1048576) (h2 : n2 ≤ 1048576) (h3 : n3 ≤ 1048576) (h4 : n4 ≤ 1048576) (i : Int) (wi : (Lit.int .i64 i).wf = true) : ∃ (R9 : Int) (m1 m2 m3 m4 : Nat) (ys : List C3) (mr tr br : List Int) (b : Bool), m1 ≤ 1048576 ∧ m2 ≤ 1048576 ∧ m3 ≤ 1048576 ∧ m4 ≤ 1048576
  ∧ (∀ (u : World) (g1 g2 g3 g4 c1 c2 c3 c4 : Nat), RoomS u (some ⟨g1, 0, none⟩) (some ⟨g2, 0, none⟩) (some ⟨g3, 0, none⟩) (some ⟨g4, 0, none⟩) n1 n2 n3 n4 c1 c2 c3 c4 xs ms ts bs → Calls Try.prog 34 #[.agg #[.int .i64 R, .slice (some ⟨g1, 0, none⟩) n1 c1, .slice (some ⟨g2, 0, none⟩) n2 c2, .slice (some ⟨g3, 0, none⟩) n3 c3, .slice (some ⟨g4, 0, none⟩) n4 c4], .int .i64 i] u (GivesSB b R9 m1 m2 m3 m4 ys mr tr br u))
  ∧ (∀ (u : World) (g1 g2 g3 g4 c1 c2 c3 c4 : Nat), RoomS u (some ⟨g1, 0, none⟩) (some ⟨g2, 0, none⟩) (some ⟨g3, 0, none⟩) (some ⟨g4, 0, none⟩) n1 n2 n3 n4 c1 c2 c3 c4 xs ms ts bs → Calls Try.prog 24 #[.agg #[.int .i64 R, .slice (some ⟨g1, 0, none⟩) n1 c1, .slice (some ⟨g2, 0, none⟩) n2 c2, .slice (some ⟨g3, 0, none⟩) n3 c3, .slice (some ⟨g4, 0, none⟩) n4 c4], .int .i64 i] u (GivesSB b R9 m1 m2 m3 m4 ys mr tr br u)) := by
  subst l1 l2 l3 l4
  obtain ⟨b1, b2, b3⟩ := ref_small (R := R) (bs := bs) (i := i) h1 h2 h3
  exact ⟨_, _, _, _, _, _, _, _, _, _, b1, b2, b3, h4, fun u g1 g2 g3 g4 c1 c2 c3 c4 h => specRefState_is R g1 g2 g3 g4 _ _ _ _ c1 c2 c3 c4 xs ms ts bs i u h h1 h2 h3 h4, fun u g1 g2 g3 g4 c1 c2 c3 c4 h => refState_is R g1 g2 g3 g4 _ _ _ _ c1 c2 c3 c4 xs ms ts bs i u h h1 h2 h3 h4⟩
theorem both_BalanceRefine (R : Int) (n1 n2 n3 n4 : Nat) (xs : List C3) (ms ts bs : List Int) (l1 : xs.length = n1) (l2 : ms.length = n2) (l3 : ts.length = n3) (l4 : bs.length = n4) (h1 : n1 ≤ 1048576) (h2 : n2 ≤ 1048576) (h3 : n3 ≤ 1048576) (h4 : n4 ≤ 1048576) (i : Int) (wi : (Lit.int .i64 i).wf = true) : ∃ (R9 : Int) (m1 m2 m3 m4 : Nat) (ys : List C3) (mr tr br : List Int) (b : Bool), m1 ≤ 1048576 ∧ m2 ≤ 1048576 ∧ m3 ≤ 1048576 ∧ m4 ≤ 1048576
  ∧ (∀ (u : World) (g1 g2 g3 g4 c1 c2 c3 c4 : Nat), RoomS u (some ⟨g1, 0, none⟩) (some ⟨g2, 0, none⟩) (some ⟨g3, 0, none⟩) (some ⟨g4, 0, none⟩) n1 n2 n3 n4 c1 c2 c3 c4 xs ms ts bs → Calls Try.prog 26 #[.agg #[.int .i64 R, .slice (some ⟨g1, 0, none⟩) n1 c1, .slice (some ⟨g2, 0, none⟩) n2 c2, .slice (some ⟨g3, 0, none⟩) n3 c3, .slice (some ⟨g4, 0, none⟩) n4 c4], .int .i64 i] u (GivesSB b R9 m1 m2 m3 m4 ys mr tr br u))
  ∧ (∀ (u : World) (g1 g2 g3 g4 c1 c2 c3 c4 : Nat), RoomS u (some ⟨g1, 0, none⟩) (some ⟨g2, 0, none⟩) (some ⟨g3, 0, none⟩) (some ⟨g4, 0, none⟩) n1 n2 n3 n4 c1 c2 c3 c4 xs ms ts bs → Calls Try.prog 18 #[.agg #[.int .i64 R, .slice (some ⟨g1, 0, none⟩) n1 c1, .slice (some ⟨g2, 0, none⟩) n2 c2, .slice (some ⟨g3, 0, none⟩) n3 c3, .slice (some ⟨g4, 0, none⟩) n4 c4], .int .i64 i] u (GivesSB b R9 m1 m2 m3 m4 ys mr tr br u)) := by
  subst l1 l2 l3 l4
  obtain ⟨b1, b2, b3⟩ := br_small (R := R) (bs := bs) (i := i) h1 h2 h3
  exact ⟨_, _, _, _, _, _, _, _, _, _, b1, b2, b3, h4, fun u g1 g2 g3 g4 c1 c2 c3 c4 h => specBalRef_is R g1 g2 g3 g4 _ _ _ _ c1 c2 c3 c4 xs ms ts bs i u h h1 h2 h3 h4, fun u g1 g2 g3 g4 c1 c2 c3 c4 h => balRef_is R g1 g2 g3 g4 _ _ _ _ c1 c2 c3 c4 xs ms ts bs i u h h1 h2 h3 h4⟩
end Go.Proofs.Ytfoilfgiablleaa.State
