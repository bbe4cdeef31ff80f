/- Meshes: what a function that makes a mesh answers, as the exact laws want it. Plain lemmas.
   Conditions: none. -/
import Derived.Test.YtcdkhapepabpkaaMMark
import Derived.Test.YtcdkhapepabpkaaMOpen
set_option maxRecDepth 100000
namespace Go.Proofs.Ytcdkhapepabpkaa.Mesh
open Go.ChangeShapes Go.WideShapes Go.ChangeAt Go.RowKit Go.Proofs.Ytcdkhapepabpkaa.Cell

/-- The answer: a mesh whose leaves lie in a row of the call's own, and whether there is one. -/
def Answer (R : Int) (xs : List C3) (b : Bool) (w : World) (e : Ending) (w' : World) : Prop :=
  ∃ a c, e = .returned (.tuple #[.agg #[.int .i64 R, .slice a xs.length c], .bool b]) ∧ w'.ownsRow w.heap.size 36 3 (.slice a xs.length c) xs.length (flatC xs) ∧ w.grownBy w' none
/-- A row that stood before another was made is not that other. -/
theorem apart {w w' : World} {B1 B2 n1 n2 c1 c2 : Nat} {a1 a2 : Option Addr} {e : TypeId} {size : Nat} {xs ys : List Value} (h1 : w.ownsRow B1 e size (.slice a1 n1 c1) n1 xs) (h2 : w'.ownsRow B2 e size (.slice a2 n2 c2) n2 ys) (hle : w.heap.size ≤ B2) :
    (Value.slice a1 n1 c1).ownBlock = none ∨ (Value.slice a1 n1 c1).ownBlock ≠ (Value.slice a2 n2 c2).ownBlock := by
  cases hb : (Value.slice a1 n1 c1).ownBlock with
  | none => exact .inl rfl
  | some k => exact .inr fun e => by have := (h1.lt k hb).2; have := (h2.lt k e.symm).1; omega
end Go.Proofs.Ytcdkhapepabpkaa.Mesh
