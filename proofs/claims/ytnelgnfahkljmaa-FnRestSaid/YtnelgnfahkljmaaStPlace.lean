/- Lists of numbers: withPlaceAfter and withoutPlaceAfter of the program, as contracts: one place more or less behind a number, in memory of its own; nothing that was there is written.
   Conditions: at most 1000 numbers. -/
import Derived.Test.YtnelgnfahkljmaaStTrPure
import Derived.Test.YtnelgnfahkljmaaStClone
import Derived.Laws.CopyOwn
import Derived.Deep.RegionLaw
import Derived.Deep.OwnRows
set_option maxRecDepth 100000
namespace Go.Proofs.Ytnelgnfahkljmaa.State
open Go.ChangeShapes Go.WideShapes Go.ChangeAt Go.RowKit Go.Joins Go.Proofs.Ytnelgnfahkljmaa.Cell Go.Proofs.Ytnelgnfahkljmaa.Mesh Go.Proofs.Ytnelgnfahkljmaa.Law Go.Proofs.Ytnelgnfahkljmaa.Ints Go.Proofs.Ytnelgnfahkljmaa.Draws Go.Deep

def zeros (q : Nat) : List Value := vals (List.replicate q 0)
theorem zeros_len (q : Nat) : (zeros q).length = q := by simp [zeros, vals]
theorem zeros_made (q : Nat) : (madeCells #[.int .i64 0] q) = (zeros q).toArray := by
  apply Array.ext'
  refine List.ext_getElem? fun j => ?_
  by_cases hj : j < q
  · rw [show (zeros q).toArray.toList = zeros q from rfl, zeros, vals_at (List.getElem?_replicate_of_lt hj)]
    simp [madeCells, hj, Nat.mod_one]
  · rw [List.getElem?_eq_none (by simp [size_madeCells]; omega), List.getElem?_eq_none (by rw [show (zeros q).toArray.toList = zeros q from rfl, zeros_len]; omega)]
theorem makeN_is (w : World) (n : Nat) (hn : n ≤ 1048576) : (Instr.makeSlice 27 (.int .i64 (n : Int)) (.int .i64 (n : Int))).run Try.prog w = .ok (.slice (some ⟨w.heap.size, 0, none⟩) n n) (w.alloc (.cells (zeros n).toArray 3)) := by
  obtain ⟨i0, hi, hz0, hz1, hz2⟩ := info_parts infoInt
  have h := run_make (P := Try.prog) (w := w) 27 3 i0 _ Try.underlying27 hi hz0 .i64 .i64 (n : Int) (n : Int) (by omega) (by omega) (by rw [hz2]; omega) (by omega)
  rw [← zeros_made]
  simpa [hz1, Value.cells] using h
theorem zeros_cut (q k : Nat) : (zeros q).drop k = zeros (q - k) := by simp [zeros, vals, List.drop_replicate]
theorem zeros_take (q k : Nat) (h : k ≤ q) : (zeros q).take k = zeros k := by simp [zeros, vals, List.take_replicate, Nat.min_eq_left h]
/-- A front part and a back part copied into zeros, with a gap of m. -/
theorem splice_gap (A T : List Value) (q m : Nat) (h : q = A.length + m + T.length) : splice (splice (zeros q) 0 A) (A.length + m) T = A ++ zeros m ++ T := by
  have e1 : splice (zeros q) 0 A = A ++ zeros (q - A.length) := by unfold splice; rw [Nat.zero_add, zeros_cut]; rfl
  have e2 : (A ++ zeros (q - A.length)).take (A.length + m) = A ++ zeros m := by
    rw [List.take_append, List.take_of_length_le (by omega), zeros_take _ _ (by omega), show A.length + m - A.length = m by omega]
  have e3 : (A ++ zeros (q - A.length)).drop (A.length + m + T.length) = [] := List.drop_of_length_le (by rw [List.length_append, zeros_len]; omega)
  rw [e1, splice, e2, e3, List.append_nil]
theorem vals_append (xs ys : List Int) : vals (xs ++ ys) = vals xs ++ vals ys := by simp [vals]
theorem vals_take (xs : List Int) (k : Nat) : (vals xs).take k = vals (xs.take k) := by simp [vals, List.map_take]
theorem vals_drop (xs : List Int) (k : Nat) : (vals xs).drop k = vals (xs.drop k) := by simp [vals, List.map_drop]
theorem row_own (w : World) (base b q : Nat) (ys : List Int) (hl : ys.length = q) (hq : q ≤ 1048576) (hb : base ≤ b) (hg : w.heap[b]? = some (.cells (vals ys).toArray 3 (0, 0))) : w.ownsRow base 3 1 (.slice (some ⟨b, 0, none⟩) q q) q (vals ys) := by
  refine ⟨by rw [vals_len, hl, Nat.mul_one], .inr ⟨b, q, _, rfl, hb, hg, Nat.le_refl _, by unfold maxLen; omega, by rw [List.size_toArray, vals_len, hl, Nat.mul_one], ?_⟩⟩
  rw [Nat.mul_one, List.take_of_length_le (by rw [List.toList_toArray, vals_len]; omega)]
theorem below_grown {w w' : World} (h : Below w.heap.size w w') : w.grownBy w' none := ⟨h.os, h.tape, h.output, h.size, fun k hk _ => h.block k hk⟩
theorem reads_cut {w : World} {g n : Nat} {xs : List Int} (h : ReadsI w (some ⟨g, 0, none⟩) n xs) (k : Nat) : ∀ j u, (vals (xs.take k))[j]? = some u → w.cell? ((⟨g, 0, none⟩ : Addr).add j) = some u := by
  intro j u hj
  rw [← vals_take, List.getElem?_take] at hj
  split at hj
  · exact readsI_newsA h j u hj
  · cases hj
theorem reads_rest {w : World} {g n : Nat} {xs : List Int} (h : ReadsI w (some ⟨g, 0, none⟩) n xs) (k : Nat) : ∀ j u, (vals (xs.drop k))[j]? = some u → w.cell? ((⟨g, k, none⟩ : Addr).add j) = some u := by
  intro j u hj
  rw [← vals_drop, List.getElem?_drop] at hj
  have := readsI_newsA h _ _ hj
  rw [Addr.add_lit, Nat.zero_add] at this
  rw [Addr.add_lit]
  exact this
/-- A place more behind the k-th, and one less. -/
def wide (xs : List Int) (k : Nat) : List Int := xs.take (k + 1) ++ [0] ++ xs.drop (k + 1)
def slim (xs : List Int) (k : Nat) : List Int := xs.take (k + 1) ++ xs.drop (k + 2)
theorem wide_set {xs : List Int} {k : Nat} (h : k < xs.length) (a b : Int) : ((wide xs k).set k a).set (k + 1) b = two xs k a b := by
  have hx : xs[k]? = some xs[k] := List.getElem?_eq_getElem h
  have hl : (xs.take k).length = k := by rw [List.length_take]; omega
  unfold wide two
  rw [take_snocI hx, List.append_assoc, List.append_assoc, List.set_append_right _ _ (by omega), hl, Nat.sub_self, List.append_assoc, List.set_append_right _ _ (by omega), hl, show k + 1 - k = 1 by omega]
  rfl
theorem slim_set {xs : List Int} {k : Nat} (h : k + 1 < xs.length) (a : Int) : (slim xs k).set k a = one xs k a := by
  have hx : xs[k]? = some xs[k] := List.getElem?_eq_getElem (by omega)
  have hl : (xs.take k).length = k := by rw [List.length_take]; omega
  unfold slim one
  rw [take_snocI hx, List.append_assoc, List.append_assoc, List.set_append_right _ _ (by omega), hl, Nat.sub_self]
  rfl
theorem wide_len {xs : List Int} {k : Nat} (h : k < xs.length) : (wide xs k).length = xs.length + 1 := by unfold wide; simp; omega
theorem slim_len {xs : List Int} {k : Nat} (h : k + 1 < xs.length) : (slim xs k).length + 1 = xs.length := by unfold slim; simp; omega

end Go.Proofs.Ytnelgnfahkljmaa.State
