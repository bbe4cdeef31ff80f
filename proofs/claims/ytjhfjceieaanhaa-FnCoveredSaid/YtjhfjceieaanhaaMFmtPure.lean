/- Meshes: the text of a list of cells. Plain lemmas.
   Conditions: none. -/
import Derived.Test.YtjhfjceieaanhaaMOk
import Derived.Lib.AppendStr
import Derived.Lib.BufferRead
namespace Go.Proofs.Ytjhfjceieaanhaa.Mesh
open Go.ChangeShapes Go.WideShapes Go.ChangeAt Go.RowKit Go.Proofs.Ytjhfjceieaanhaa.Cell

/-- A level as a byte. -/
def digit (l : Int) : UInt8 := UInt8.ofNat (48 + l.toNat)
theorem digit_val {l : Int} (h0 : 0 ≤ l) (h1 : l ≤ 4) : ((digit l).toNat : Int) = 48 + l := by
  unfold digit
  simp [UInt8.toNat_ofNat']; omega
def rootAt (xs : List C3) (k : Nat) : Int := match xs[k]? with | some x => x.1 | none => 0
def lvlAt (xs : List C3) (k : Nat) : Int := match xs[k]? with | some x => x.2.1 | none => 0
theorem rootAt_of {xs : List C3} {k : Nat} {x : C3} (h : xs[k]? = some x) : rootAt xs k = x.1 := by simp [rootAt, h]
theorem lvlAt_of {xs : List C3} {k : Nat} {x : C3} (h : xs[k]? = some x) : lvlAt xs k = x.2.1 := by simp [lvlAt, h]
/-- What the k-th leaf adds to the text. -/
def sepB (xs : List C3) (k : Nat) : Bool := decide (0 < k) && decide (rootAt xs k ≠ rootAt xs (k - 1))
def sepL (xs : List C3) (k : Nat) : List UInt8 := if sepB xs k then [124] else []
def fmtTo (xs : List C3) (k : Nat) : List UInt8 := (List.range k).flatMap fun j => sepL xs j ++ [digit (lvlAt xs j)]
def fmtOf (R : Int) (xs : List C3) : List UInt8 := if meshOk R xs then fmtTo xs xs.length else []
theorem fmtTo_succ (xs : List C3) (k : Nat) : fmtTo xs (k + 1) = fmtTo xs k ++ (sepL xs k ++ [digit (lvlAt xs k)]) := by simp [fmtTo, List.range_succ]
theorem sepL_yes {xs : List C3} {k : Nat} (h : sepB xs k = true) : sepL xs k = [124] := if_pos h
theorem sepL_no {xs : List C3} {k : Nat} (h : sepB xs k = false) : sepL xs k = [] := if_neg (by simp [h])
theorem sepL_len (xs : List C3) (k : Nat) : (sepL xs k).length ≤ 1 := by unfold sepL; split <;> simp
theorem fmtTo_len (xs : List C3) (k : Nat) : (fmtTo xs k).length ≤ 2 * k := by
  induction k with
  | zero => simp [fmtTo]
  | succ k ih => have := sepL_len xs k; rw [fmtTo_succ]; simp; omega
theorem sepB_zero (xs : List C3) : sepB xs 0 = false := rfl
theorem sepB_succ {xs : List C3} {k : Nat} {x y : C3} (hx : xs[k + 1]? = some x) (hy : xs[k]? = some y) : sepB xs (k + 1) = (x.1 != y.1) := by
  unfold sepB
  rw [Nat.add_sub_cancel, rootAt_of hx, rootAt_of hy]
  by_cases h : x.1 = y.1 <;> simp [h]
/-- What a valid mesh has: few leaves, good levels. -/
theorem ok_mesh {R : Int} {xs : List C3} (h : meshOk R xs = true) : xs.length ≤ 128 ∧ ∀ (k : Nat) x, xs[k]? = some x → okOf x = true := by
  obtain ⟨h1, h2, h3⟩ : 1 ≤ R ∧ R ≤ 8 ∧ run xs = some (R * 16) := of_decide_eq_true h
  obtain ⟨b1, b2, b3⟩ := run_bounds _ h3
  exact ⟨by omega, fun k x hx => b3 x (List.mem_of_getElem? hx)⟩
theorem g_row {w a b : World} {row : Option Nat} (h : w.grownBy a none) (k : a.grownBy b row) (hr : ∀ j, row = some j → w.heap.size ≤ j) : w.grownBy b none :=
  ⟨k.os.trans h.os, k.tape.trans h.tape, k.output.trans h.output, Nat.le_trans h.size k.size, fun i hi _ => (k.block i (Nat.lt_of_lt_of_le hi h.size) (fun e => by have := hr i e.symm; omega)).trans (h.block i hi (by simp))⟩
theorem own_on {w w' : World} {base size : Nat} {e : TypeId} {v : Value} {n : Nat} {xs : List Value} (h : w.ownsRow base e size v n xs) (hg : w.grownBy w' none) : w'.ownsRow base e size v n xs :=
  h.kept hg (by cases v.ownBlock <;> simp)
theorem infoU8 : (Try.prog.info? 5).map (fun i => (i.zero, i.size, i.bytes)) = some (some (.int .u8 0), 1, 1) := by kernel_rfl
/-- A row of bytes that a call owns, as a string. -/
theorem string_own {P : Program} {w : World} {base : Nat} {e : TypeId} {v : Value} {n : Nat} {l : List UInt8} {src dst : TypeId} (hs : P.underlying src = some (.slice e)) (he : P.underlying e = some (.int .u8)) (hd : P.underlying dst = some .string)
    (h : w.ownsRow base e 1 v n (Lib.byteCells l)) : (convert src dst v).run P w = .ok (.string ⟨l.toArray⟩) w := by
  have hn : l.length = n := by have := h.1; rw [Lib.byteCells_length] at this; omega
  rcases h.2 with ⟨rfl, h0⟩ | ⟨g, cap, cur, rfl, hb, hg, hnc, hcm, hcs, htake⟩
  · have : l = [] := by cases l with | nil => rfl | cons a t => simp at hn; omega
    subst this
    exact Lib.run_convert_nil_bytes w src dst e 0 hs he hd
  · subst hn
    exact run_convert_bytes_back w src dst e _ cap l hs he hd (Lib.bytes_of_row hg (by simpa using htake))
end Go.Proofs.Ytjhfjceieaanhaa.Mesh
