/- Rain and losses: the program's isSource, partsOfSource, RainOn, Soak, DryOut, as contracts: what each answers, in memory of the call's own; nothing that was there is written (written by wip/tools/stsrc.py).
   Conditions: at most 2^20 leaves and numbers. -/
import Derived.Test.YtaccigmkddomaaaStSrcP
import Derived.Test.YtaccigmkddomaaaStLedI
import Derived.Test.YtaccigmkddomaaaStRestI
import Derived.Deep.OwnRows
set_option maxRecDepth 100000
namespace Go.Proofs.Ytaccigmkddomaaa.State
open Go.ChangeShapes Go.WideShapes Go.ChangeAt Go.RowKit Go.Joins Go.Proofs.Ytaccigmkddomaaa.Cell Go.Proofs.Ytaccigmkddomaaa.Mesh Go.Proofs.Ytaccigmkddomaaa.Law Go.Proofs.Ytaccigmkddomaaa.Ints Go.Proofs.Ytaccigmkddomaaa.Draws Go.Deep
set_option linter.unusedVariables false

/-- A row made of zeros, and a number stored into a row of the call's own. -/
theorem makeRow_is (w : World) (n : Nat) (hn : n ≤ 1048576) : (Instr.makeSlice 27 (.int .i64 (n : Int)) (.int .i64 (n : Int))).run Try.prog w = .ok (.slice (some ⟨w.heap.size, 0, none⟩) n n) (w.alloc (.cells (madeCells #[.int .i64 0] n) 3)) := by
  obtain ⟨i0, hi, hz0, hz1, hz2⟩ := info_parts infoInt
  have h := run_make (P := Try.prog) (w := w) 27 3 i0 _ Try.underlying27 hi hz0 .i64 .i64 (n : Int) (n : Int) (by omega) (by omega) (by rw [hz2]; omega) (by omega)
  simpa [hz1, Value.cells] using h
theorem ownMade (w : World) (n : Nat) (hn : n ≤ 1048576) (base : Nat) (hb : base ≤ w.heap.size) : (w.alloc (.cells (madeCells #[.int .i64 0] n) 3)).ownsRow base 3 1 (.slice (some ⟨w.heap.size, 0, none⟩) n n) n (vals (List.replicate n 0)) := by
  refine ⟨by rw [vals_len, List.length_replicate, Nat.mul_one], .inr ⟨w.heap.size, n, _, rfl, hb, heap_alloc_new w _, Nat.le_refl _, by unfold maxLen; omega, by rw [size_madeCells, Nat.mul_one], ?_⟩⟩
  rw [Nat.mul_one, List.take_of_length_le (by simp [size_madeCells])]
  refine List.ext_getElem? fun j => ?_
  by_cases hj : j < n
  · rw [vals_at (List.getElem?_replicate_of_lt hj)]
    simp [madeCells, hj, Nat.mod_one]
  · rw [List.getElem?_eq_none (by simp [size_madeCells]; omega), List.getElem?_eq_none (by rw [vals_len, List.length_replicate]; omega)]
theorem Held.storeRow {w W : World} {gs : List Grp} {g n c : Nat} {xs : List Int} (h : Held w W gs) (k : Nat) (hk : gs[k]? = some (rowG 3 1 (.slice (some ⟨g, 0, none⟩) n c) n (vals xs))) (j : Nat) (x : Int) :
    Held w (W.setCell ⟨g, j, none⟩ (.int .i64 x)) (gs.set k (rowG 3 1 (.slice (some ⟨g, 0, none⟩) n c) n (vals (xs.set j x)))) := by
  have ho : W.ownsRow 0 3 1 (.slice (some ⟨g, 0, none⟩) n c) n (vals xs) := h.nth k hk
  have hs := ho.stored j (.int .i64 x)
  rw [← vals_set] at hs
  exact h.turn k hk (Turned.of hs.2) rfl hs.1
theorem zeros_upto (n : Nat) (g : Nat → Int) : List.replicate n (0 : Int) = gen n (upto 0 g fun _ => 0) := by
  refine List.ext_getElem? fun j => ?_
  by_cases hj : j < n
  · rw [List.getElem?_replicate_of_lt hj, gen_at _ hj]; rfl
  · rw [List.getElem?_eq_none (by rw [List.length_replicate]; omega), List.getElem?_eq_none (by rw [gen_len]; omega)]
theorem set_same {xs : List Int} {j : Nat} {y : Int} (h : xs[j]? = some y) : xs.set j y = xs := by
  refine List.ext_getElem? fun k => ?_
  by_cases e : j = k
  · subst e; rw [List.getElem?_set_self (List.getElem?_eq_some_iff.1 h).1, h]
  · rw [List.getElem?_set_ne e]
theorem widthS_g (l : Int) (w : World) : Calls Try.prog 72 #[.int .i64 l] w fun e w' => e = .returned (.int .i64 (widthOf l)) ∧ w.grownBy w' none :=
  (width_is l w).mono fun e w' ⟨he, hw⟩ => ⟨he, by rw [hw]; exact Cell.grown_refl _⟩

end Go.Proofs.Ytaccigmkddomaaa.State
