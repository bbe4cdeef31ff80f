/- Plain lists: the fields of fields joined by spaces are these fields. -/
import Derived.Test.YtnfcieilchbbbaaDoorFields
namespace Go.Proofs.YtnfcieilchbbbaaDoor.Fld
open Go.RowKit

def joinOf (fs : List (List UInt8)) : List UInt8 := fs.flatMap fun f => f ++ [32]
def Word (n : Nat) (f : List UInt8) : Prop := (∀ c ∈ f, c ≠ 32) ∧ AllIn f ∧ f.length ≤ n
def Fine (n : Nat) (fs : List (List UInt8)) : Prop := ∀ f ∈ fs, f ≠ [] ∧ Word n f

theorem Word.mono {n m : Nat} {f : List UInt8} (h : Word n f) (hm : n ≤ m) : Word m f := ⟨h.1, h.2.1, Nat.le_trans h.2.2 hm⟩

theorem scan_word : ∀ (f : List UInt8) (d : List (List UInt8)) (cur : List UInt8), (∀ c ∈ f, c ≠ 32) → f.foldl step (d, cur) = (d, cur ++ f)
  | [], d, cur, _ => by simp
  | c :: f, d, cur, h => by
    have hc : c ≠ 32 := h c (by simp)
    rw [List.foldl_cons, step, if_neg hc, scan_word f d (cur ++ [c]) (fun x hx => h x (by simp [hx]))]
    simp

theorem scan_join {n : Nat} : ∀ (fs : List (List UInt8)) (d : List (List UInt8)), Fine n fs → (joinOf fs).foldl step (d, []) = (d ++ fs, [])
  | [], d, _ => by simp [joinOf]
  | f :: fs, d, h => by
    obtain ⟨hne, hw, _, _⟩ := h f (by simp)
    have e : joinOf (f :: fs) = f ++ ([32] ++ joinOf fs) := by simp [joinOf]
    rw [e, List.foldl_append, scan_word f d [] hw, List.foldl_append]
    show (joinOf fs).foldl step (step (d, [] ++ f) 32) = _
    rw [step, if_pos rfl, if_neg (by simpa using hne)]
    show (joinOf fs).foldl step (d ++ [[] ++ f], []) = _
    rw [scan_join fs _ (fun x hx => h x (by simp [hx]))]
    simp

theorem fields_join {n : Nat} {fs : List (List UInt8)} (h : Fine n fs) : fieldsOf (joinOf fs) = fs := by
  unfold fieldsOf fin scan
  rw [scan_join fs [] h]
  simp

theorem allIn_join {n : Nat} {fs : List (List UInt8)} (h : Fine n fs) : AllIn (joinOf fs) := by
  intro c hc
  simp only [joinOf, List.mem_flatMap] at hc
  obtain ⟨f, hf, hc⟩ := hc
  rcases List.mem_append.1 hc with hc | hc
  · exact (h f hf).2.2.1 c hc
  · simp at hc; subst hc; decide

theorem scan_fine : ∀ (l : List UInt8) (p : List (List UInt8) × List UInt8) (n : Nat), Fine n p.1 → Word n p.2 → AllIn l → Fine (n + l.length) (l.foldl step p).1 ∧ Word (n + l.length) (l.foldl step p).2
  | [], p, n, h1, h2, _ => by simpa using ⟨h1, h2⟩
  | c :: l, p, n, h1, h2, hl => by
    have hc := hl c (by simp)
    have key : Fine (n + 1) (step p c).1 ∧ Word (n + 1) (step p c).2 := by
      have h1' : Fine (n + 1) p.1 := fun f hf => ⟨(h1 f hf).1, (h1 f hf).2.mono (by omega)⟩
      by_cases hs : c = 32
      · rw [step, if_pos hs]
        refine ⟨?_, ⟨fun x hx => by simp at hx, fun x hx => by simp at hx, by simp⟩⟩
        by_cases he : p.2 = []
        · rw [if_pos he]; exact h1'
        · rw [if_neg he]
          intro f hf
          rcases List.mem_append.1 hf with hf | hf
          · exact h1' f hf
          · simp at hf; subst hf; exact ⟨he, h2.mono (by omega)⟩
      · rw [step, if_neg hs]
        refine ⟨h1', ⟨fun x hx => ?_, fun x hx => ?_, ?_⟩⟩
        · rcases List.mem_append.1 hx with hx | hx
          · exact h2.1 x hx
          · simp at hx; subst hx; exact hs
        · rcases List.mem_append.1 hx with hx | hx
          · exact h2.2.1 x hx
          · simp at hx; subst hx; exact hc
        · have := h2.2.2; simp; omega
    have ih := scan_fine l (step p c) (n + 1) key.1 key.2 (fun x hx => hl x (by simp [hx]))
    have e : n + (c :: l).length = n + 1 + l.length := by simp; omega
    rw [e]
    exact ih

theorem fields_fine (l : List UInt8) (hl : AllIn l) : Fine l.length (fieldsOf l) := by
  have h := scan_fine l ([], []) 0 (fun f hf => by simp at hf) ⟨fun x hx => by simp at hx, fun x hx => by simp at hx, by simp⟩ hl
  rw [Nat.zero_add] at h
  intro f hf
  unfold fieldsOf fin at hf
  split at hf
  · exact h.1 f hf
  · rename_i he
    rcases List.mem_append.1 hf with hf | hf
    · exact h.1 f hf
    · simp at hf; subst hf; exact ⟨he, h.2⟩

theorem join_one (a : List (List UInt8)) (b : List UInt8) : joinOf (a ++ [b]) = joinOf a ++ b ++ [32] := by simp [joinOf]
theorem join_snoc (fs : List (List UInt8)) (k : Nat) (h : k < fs.length) : joinOf (fs.take (k + 1)) = joinOf (fs.take k) ++ fs.getD k [] ++ [32] := by
  rw [List.take_succ_eq_append_getElem h, join_one, List.getD_eq_getElem?_getD, List.getElem?_eq_getElem h]
  rfl
end Go.Proofs.YtnfcieilchbbbaaDoor.Fld
