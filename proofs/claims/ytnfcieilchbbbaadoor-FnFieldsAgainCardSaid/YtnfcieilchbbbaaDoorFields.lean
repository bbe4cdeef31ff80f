/- The fields of a line in plain lists; and what SplitFields leaves. -/
import Derived.Test.YtnfcieilchbbbaaDoorChecked
import Derived.WalkKit
import Derived.ProofKit
import Derived.OpenShut
import Derived.BigQuiet
import Derived.Deep.QuietTactic
import Derived.WalkSmall
import Derived.Handy
import Derived.Lib.Hide
import Derived.Lib.Strings
import Derived.ShutString
import Derived.Maps.AppendAt
namespace Go.Proofs.YtnfcieilchbbbaaDoor.Fld
open Go.ChangeShapes Go.WideShapes Go.ChangeAt Go.RowKit

def step (p : List (List UInt8) × List UInt8) (c : UInt8) : List (List UInt8) × List UInt8 :=
  if c = 32 then ((if p.2 = [] then p.1 else p.1 ++ [p.2]), []) else (p.1, p.2 ++ [c])
/-- The fields that end before the end, and the run at the end. -/
def scan (l : List UInt8) : List (List UInt8) × List UInt8 := l.foldl step ([], [])
def fin (p : List (List UInt8) × List UInt8) : List (List UInt8) := if p.2 = [] then p.1 else p.1 ++ [p.2]
def fieldsOf (l : List UInt8) : List (List UInt8) := fin (scan l)

theorem scan_snoc (l : List UInt8) (c : UInt8) : scan (l ++ [c]) = step (scan l) c := by unfold scan; rw [List.foldl_append]; rfl
theorem step_len (p : List (List UInt8) × List UInt8) (c : UInt8) : (step p c).1.length ≤ p.1.length + 1 := by
  unfold step; split <;> simp; split <;> simp
theorem scan_len (l : List UInt8) : (scan l).1.length ≤ l.length := by
  suffices h : ∀ (l : List UInt8) (p : List (List UInt8) × List UInt8), (l.foldl step p).1.length ≤ p.1.length + l.length by
    have := h l ([], []); simpa [scan] using this
  intro l
  induction l with
  | nil => intro p; simp
  | cons c l ih => intro p; have h1 := ih (step p c); have h2 := step_len p c; simp only [List.foldl_cons, List.length_cons]; omega

def AllIn (l : List UInt8) : Prop := ∀ c ∈ l, 32 ≤ c.toNat ∧ c.toNat ≤ 126
def Good (s : ByteArray) : Prop := s.size ≤ 600 ∧ AllIn s.data.toList ∧ (fieldsOf s.data.toList).length ≤ 24
/-- What is answered: the fields, or nothing. -/
def Res (s : ByteArray) (ok : Bool) (fs : List (List UInt8)) : Prop := (Good s ∧ ok = true ∧ fs = fieldsOf s.data.toList) ∨ (¬ Good s ∧ ok = false ∧ fs = [])
theorem Res.same {s : ByteArray} {ok ok' : Bool} {fs fs' : List (List UInt8)} (h : Res s ok fs) (h' : Res s ok' fs') : ok = ok' ∧ fs = fs' := by
  rcases h with ⟨g, rfl, rfl⟩ | ⟨g, rfl, rfl⟩ <;> rcases h' with ⟨g', rfl, rfl⟩ | ⟨g', rfl, rfl⟩
  · exact ⟨rfl, rfl⟩
  · exact absurd g g'
  · exact absurd g' g
  · exact ⟨rfl, rfl⟩
theorem Res.few {s : ByteArray} {ok : Bool} {fs : List (List UInt8)} (h : Res s ok fs) : fs.length ≤ 24 := by
  rcases h with ⟨g, _, rfl⟩ | ⟨_, _, rfl⟩
  · exact g.2.2
  · simp

def strs (fs : List (List UInt8)) : List Value := fs.map fun l => .string ⟨l.toArray⟩
theorem strs_append (a b : List (List UInt8)) : strs (a ++ b) = strs a ++ strs b := by simp [strs]
theorem strs_length (a : List (List UInt8)) : (strs a).length = a.length := by simp [strs]

/-- The call's state at place i of the line: the run at the end begins at b. -/
structure At (s : ByteArray) (i b : Nat) (done : List (List UInt8)) : Prop where
  le : b ≤ i
  fits : i ≤ s.size
  done : (scan (s.data.toList.take i)).1 = done
  cur : (scan (s.data.toList.take i)).2 = (s.data.toList.take i).drop b
  good : AllIn (s.data.toList.take i)

theorem take_snoc (s : ByteArray) (k : Nat) (h : k < s.size) : s.data.toList.take (k + 1) = s.data.toList.take k ++ [s[k]] := by
  rw [List.take_succ_eq_append_getElem (by simpa using h)]; rfl
theorem take_len (s : ByteArray) (k : Nat) (h : k ≤ s.size) : (s.data.toList.take k).length = k := by simp; omega

theorem At.start (s : ByteArray) : At s 0 0 [] := ⟨Nat.le_refl _, Nat.zero_le _, by simp [scan], by simp [scan], fun c hc => by simp at hc⟩

theorem good_snoc {s : ByteArray} {i : Nat} (hi : i < s.size) (h : AllIn (s.data.toList.take i)) (hc : 32 ≤ (s[i]).toNat ∧ (s[i]).toNat ≤ 126) : AllIn (s.data.toList.take (i + 1)) := by
  intro c hm
  rw [take_snoc s i hi] at hm
  rcases List.mem_append.1 hm with hm | hm
  · exact h c hm
  · simp at hm; subst hm; exact hc

/-- One byte more that is no space. -/
theorem At.byte {s : ByteArray} {i b : Nat} {done : List (List UInt8)} (h : At s i b done) (hi : i < s.size) (hc : 32 ≤ (s[i]).toNat ∧ (s[i]).toNat ≤ 126) (hn : (s[i]).toNat ≠ 32) : At s (i + 1) b done := by
  have hne : s[i] ≠ 32 := fun e => hn (by rw [e]; rfl)
  have hs : scan (s.data.toList.take (i + 1)) = ((scan (s.data.toList.take i)).1, (scan (s.data.toList.take i)).2 ++ [s[i]]) := by
    rw [take_snoc s i hi, scan_snoc, step, if_neg hne]
  have hle := h.le
  refine ⟨by omega, hi, by rw [hs]; exact h.done, ?_, good_snoc hi h.good hc⟩
  rw [hs]
  show (scan (s.data.toList.take i)).2 ++ [s[i]] = _
  rw [take_snoc s i hi, List.drop_append_of_le_length (by rw [take_len s i (by omega)]; exact h.le), h.cur]

/-- One space: the run ends. -/
theorem At.space {s : ByteArray} {i b : Nat} {done : List (List UInt8)} (h : At s i b done) (hi : i < s.size) (hc : (s[i]).toNat = 32) :
    At s (i + 1) (i + 1) (if b < i then done ++ [(s.data.toList.take i).drop b] else done) := by
  have he : s[i] = 32 := UInt8.toNat_inj.1 hc
  have hcur : (s.data.toList.take i).drop b = [] ↔ ¬ b < i := by
    rw [List.drop_eq_nil_iff, take_len s i (by omega)]; omega
  have hs : scan (s.data.toList.take (i + 1)) = ((if (scan (s.data.toList.take i)).2 = [] then (scan (s.data.toList.take i)).1 else (scan (s.data.toList.take i)).1 ++ [(scan (s.data.toList.take i)).2]), []) := by
    rw [take_snoc s i hi, scan_snoc, step, if_pos he]
  refine ⟨Nat.le_refl _, hi, ?_, ?_, good_snoc hi h.good (by omega)⟩
  · rw [hs]
    show (if (scan (s.data.toList.take i)).2 = [] then _ else _) = _
    rw [h.cur, h.done]
    by_cases hb : b < i
    · rw [if_pos hb, if_neg (fun e => hcur.1 e hb)]
    · rw [if_neg hb, if_pos (hcur.2 hb)]
  · rw [hs]
    show [] = _
    rw [List.drop_of_length_le (by rw [take_len s (i + 1) hi]; exact Nat.le_refl _)]

/-- At the end: the fields. -/
theorem At.fields {s : ByteArray} {b : Nat} {done : List (List UInt8)} (h : At s s.size b done) : fieldsOf s.data.toList = (if b < s.size then done ++ [s.data.toList.drop b] else done) := by
  have ht : s.data.toList.take s.size = s.data.toList := List.take_of_length_le (by simp)
  have hd := h.done
  have hc := h.cur
  rw [ht] at hd hc
  unfold fieldsOf fin
  rw [hd, hc]
  by_cases hb : b < s.size
  · rw [if_pos hb, if_neg (by rw [List.drop_eq_nil_iff]; simp; omega)]
  · rw [if_neg hb, if_pos (by rw [List.drop_eq_nil_iff]; simp; omega)]
theorem At.len {s : ByteArray} {i b : Nat} {done : List (List UInt8)} (h : At s i b done) : done.length ≤ i := by
  have := scan_len (s.data.toList.take i)
  rw [h.done, take_len s i h.fits] at this
  exact this
theorem At.all {s : ByteArray} {b : Nat} {done : List (List UInt8)} (h : At s s.size b done) : AllIn s.data.toList := by
  have ht : s.data.toList.take s.size = s.data.toList := List.take_of_length_le (by simp)
  have := h.good
  rwa [ht] at this

/-- A piece of the line, as the program has it. -/
theorem piece (s : ByteArray) (b i : Nat) : s.extract b i = ⟨((s.data.toList.take i).drop b).toArray⟩ := by
  apply ByteArray.ext
  apply Array.ext'
  simp [List.drop_take]

theorem bad_at {s : ByteArray} {i : Nat} (hi : i < s.size) (hc : ¬ (32 ≤ (s[i]).toNat ∧ (s[i]).toNat ≤ 126)) : ¬ Good s := fun g => hc (g.2.1 s[i] (List.getElem_mem _))
end Go.Proofs.YtnfcieilchbbbaaDoor.Fld
