/- States: FillState of the reference model, as a contract.
   Conditions: at most 2^20 leaves and numbers. -/
import Derived.Test.YtaccigmkddomaaaStPutS
import Derived.Test.YtaccigmkddomaaaPkPure
set_option maxRecDepth 100000
namespace Go.Proofs.Ytaccigmkddomaaa.State
open Go.ChangeShapes Go.WideShapes Go.ChangeAt Go.RowKit Go.Joins Go.Proofs.Ytaccigmkddomaaa.Cell Go.Proofs.Ytaccigmkddomaaa.Mesh Go.Proofs.Ytaccigmkddomaaa.Law Go.Proofs.Ytaccigmkddomaaa.Ints Go.Proofs.Ytaccigmkddomaaa.Draws Go.Deep

theorem Held.apartAny {w W : World} {gs : List Grp} {t t' : TypeId} {s s' n n' : Nat} {v v' : Value} {xs xs' : List Value} (h : Held w W gs) (i j : Nat) (hij : i ≠ j) (hi : gs[i]? = some (rowG t s v n xs)) (hj : gs[j]? = some (rowG t' s' v' n' xs')) : Apart v v' := by
  rcases Nat.lt_or_gt_of_ne hij with hl | hl
  · exact h.apart i j hl hi hj
  · exact (h.apart j i hl hj hi).symm
/-- A state out of its four rows, wherever they stand. -/
theorem Held.ownS4 {w W : World} {gs : List Grp} {v1 v2 v3 v4 : Value} {n1 n2 n3 n4 : Nat} {xs : List C3} {ms ts bs : List Int} (h : Held w W gs) (i j k l : Nat) (hij : i ≠ j ∧ i ≠ k ∧ i ≠ l ∧ j ≠ k ∧ j ≠ l ∧ k ≠ l)
    (h1 : gs[i]? = some (rowG 35 3 v1 n1 (flatC xs))) (h2 : gs[j]? = some (rowG 3 1 v2 n2 (vals ms))) (h3 : gs[k]? = some (rowG 3 1 v3 n3 (vals ts))) (h4 : gs[l]? = some (rowG 3 1 v4 n4 (vals bs))) :
    OwnS W w.heap.size v1 v2 v3 v4 n1 n2 n3 n4 xs ms ts bs :=
  ⟨h.own _ h1, h.own _ h2, h.own _ h3, h.own _ h4, Held.apartAny h _ _ hij.1 h1 h2, Held.apartAny h _ _ hij.2.1 h1 h3, Held.apartAny h _ _ hij.2.2.1 h1 h4, Held.apartAny h _ _ hij.2.2.2.1 h2 h3, Held.apartAny h _ _ hij.2.2.2.2.1 h2 h4, Held.apartAny h _ _ hij.2.2.2.2.2 h3 h4⟩
theorem nilS (w : World) (base : Nat) : OwnS w base (.slice none 0 0) (.slice none 0 0) (.slice none 0 0) (.slice none 0 0) 0 0 0 0 [] [] [] [] :=
  ⟨nil_own _ _ _ _, nil_own _ _ _ _, nil_own _ _ _ _, nil_own _ _ _ _, (fun _ h => nomatch h), (fun _ h => nomatch h), (fun _ h => nomatch h), (fun _ h => nomatch h), (fun _ h => nomatch h), (fun _ h => nomatch h)⟩

/-- What FillState answers: a state, or none. -/
def FillGives (b : Bool) (R : Int) (n1 n2 : Nat) (xs : List C3) (bs : List Int) (h : Int) (w : World) (e : Ending) (w' : World) : Prop :=
  if b = true then GivesSB true R n1 n1 n1 n2 xs (fillMs bs h xs) (List.replicate n1 0) bs w e w' else GivesSB false 0 0 0 0 0 [] [] [] [] w e w'
theorem FillGives.yes {R : Int} {n1 n2 : Nat} {xs : List C3} {bs : List Int} {h : Int} {w : World} {e : Ending} {w' : World} (g : GivesSB true R n1 n1 n1 n2 xs (fillMs bs h xs) (List.replicate n1 0) bs w e w') : FillGives true R n1 n2 xs bs h w e w' := by unfold FillGives; rw [if_pos rfl]; exact g
theorem FillGives.no {R : Int} {n1 n2 : Nat} {xs : List C3} {bs : List Int} {h : Int} {w : World} {e : Ending} {w' : World} (g : GivesSB false 0 0 0 0 0 [] [] [] [] w e w') : FillGives false R n1 n2 xs bs h w e w' := by unfold FillGives; rw [if_neg (by simp)]; exact g
/-- What the loop of FillState holds: the state's box, its rows so far. -/
def FillL (w : World) (R : Int) (g1 n1 n2 c1 : Nat) (xs : List C3) (bs : List Int) (h : Int) (b1 b4 : Option Addr) (d1 d4 B8 : Nat) (k : Nat) (wr : World) : Prop :=
  ∃ (aM aT : Option Addr) (cM cT : Nat), Held w wr [boxG w.heap.size 26 #[.int .i64 R, .slice (some ⟨g1, 0, none⟩) n1 c1], boxG (w.heap.size + 1) 29 #[.int .i64 0, .slice none 0 0, .slice none 0 0, .slice none 0 0, .slice none 0 0], rowG 35 3 (.slice b1 n1 d1) n1 (flatC xs), rowG 3 1 (.slice b4 n2 d4) n2 (vals bs), boxG B8 29 #[.int .i64 R, .slice b1 n1 d1, .slice aM k cM, .slice aT k cT, .slice b4 n2 d4], rowG 3 1 (.slice aM k cM) k (vals ((fillMs bs h xs).take k)), rowG 3 1 (.slice aT k cT) k (vals (List.replicate k 0))]

end Go.Proofs.Ytaccigmkddomaaa.State
