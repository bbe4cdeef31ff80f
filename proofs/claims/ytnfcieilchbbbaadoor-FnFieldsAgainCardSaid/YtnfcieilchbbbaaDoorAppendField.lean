/- The program's appendField, as a contract: an empty text is passed over; another one is appended.
   Conditions: the row that is appended to is the caller's own. -/
import Derived.Test.YtnfcieilchbbbaaDoorFields
import Derived.Test.YtnfcieilchbbbaaDoorShelf
namespace Go.Proofs.YtnfcieilchbbbaaDoor.Fld
open Go.ChangeShapes Go.WideShapes Go.ChangeAt Go.RowKit

theorem info9 : (Tryd.prog.info? 9).map (fun i => (i.zero, i.size, i.bytes)) = some (some (.string ByteArray.empty), 1, 16) := by kernel_rfl

theorem clone_is (t : ByteArray) (ht : t.size ≤ 600) (w : World) :
    Calls Tryd.prog 39 #[.string t] w fun e w' => e = .returned (.string t) ∧ Below w.heap.size w w' := by
  have HT := Lib.hid ht; clear ht
  go_enter Tryd.func39, Tryd.ntmps39
  go_wp2_with fail
  refine (Tryd.stringslite_Clone t _ (by have := HT.out; omega)).mono ?_; rintro e w' ⟨rfl, hb⟩
  have HB := Lib.hid hb; clear hb
  go_wp2_with fail
  go_ret
  exact ⟨rfl, HB.out⟩

/-- What a value looks like that owns a row. -/
theorem own_form {w : World} {base : Nat} {e : TypeId} {size : Nat} {v : Value} {n : Nat} {xs : List Value} (h : w.ownsRow base e size v n xs) : ∃ a cap, v = .slice a n cap := by
  rcases h.2 with ⟨rfl, rfl⟩ | ⟨g, cap, cur, rfl, _⟩
  · exact ⟨_, _, rfl⟩
  · exact ⟨_, _, rfl⟩

def AppDone (B n : Nat) (xs : List Value) (w : World) (e : Ending) (w' : World) : Prop := ∃ a cap, e = .returned (.slice a n cap) ∧ w'.ownsRow B 9 1 (.slice a n cap) n xs ∧ Below B w w'

theorem app_empty (B n : Nat) (v : Value) (xs : List Value) (t : ByteArray) (ht : t.size = 0) (w : World) (hown : w.ownsRow B 9 1 v n xs) :
    Calls Tryd.prog 31 #[v, .string t] w (AppDone B n xs w) := by
  have e : t = ByteArray.empty := by
    have h0 : t.data.size = 0 := ht
    simpa using h0
  clear ht
  subst e
  change Calls _ _ #[v, .string ⟨#[]⟩] _ _
  have HO := Lib.hid hown; clear hown
  go_enter Tryd.func31, Tryd.ntmps31
  go_wp2_with fail
  go_ret
  obtain ⟨a, cap, rfl⟩ := own_form HO.out
  exact ⟨a, cap, rfl, HO.out, Below.refl _ _⟩

theorem app_some (B n : Nat) (v : Value) (xs : List Value) (t : ByteArray) (ht : 0 < t.size) (ht1 : t.size ≤ 600) (w : World) (hown : w.ownsRow B 9 1 v n xs) (hB : B ≤ w.heap.size) (hn : n ≤ 1000) :
    Calls Tryd.prog 31 #[v, .string t] w (AppDone B (n + 1) (xs ++ [.string t]) w) := by
  obtain ⟨i0, hi, hz0, hz1, hz2⟩ := info_parts info9
  have hte : t.toList = [] ↔ False := by
    rw [Lib.toList_data]
    constructor
    · intro h
      have : t.data.toList.length = 0 := by rw [h]; rfl
      have h2 : t.data.toList.length = t.size := by simp
      omega
    · intro h; cases h
  have hte2 : t.toList.isEmpty = false := by
    cases h : t.toList with
    | nil => exact absurd h (fun e => (hte.1 e))
    | cons a r => rfl
  have hte3 : (t.toList == []) = false := by
    cases h : t.toList with
    | nil => exact absurd h (fun e => (hte.1 e))
    | cons a r => rfl
  have HT1 := Lib.hid ht1; clear ht1 ht hte
  have HO := Lib.hid hown; clear hown
  have HB := Lib.hid hB; clear hB
  have HN := Lib.hid hn; clear hn
  go_enter Tryd.func31, Tryd.ntmps31
  go_wp2_with fail
  refine (clone_is t HT1.out _).mono ?_; rintro e w1 ⟨rfl, hb1⟩
  have hown1 : w1.ownsRow B 9 1 v n xs := HO.out.kept (row := Option.none) ⟨hb1.os, hb1.tape, hb1.output, hb1.size, fun k hk _ => hb1.block k hk⟩ (by cases hv : v.ownBlock <;> simp)
  have HO1 := Lib.hid hown1; clear hown1
  have HB1 := Lib.hid hb1; clear hb1
  have hk2 : n + 1 ≤ maxLen ∧ (n + 1) * 16 ≤ 140737488355328 := by have := HN.out; unfold maxLen; omega
  have HK2 := Lib.hid hk2; clear hk2
  have hsz : B ≤ w1.heap.size := Nat.le_trans HB.out HB1.out.size
  have HSZ := Lib.hid hsz; clear hsz
  go_wp2_with (at_builtin; refine wpList_append_own _ rfl _ _ 31 rfl B 9 i0 (.string ByteArray.empty) 1 16 Tryd.underlying31 hi hz0 hz1 hz2 rfl (by decide) _ _ _ rfl (HO1.out.alloc _) ⟨w1.heap.size, 0, none⟩ 1 1 [.string t] rfl rfl (cell_one_new _ _ _) (fun x hx => by simp at hx; subst hx; rfl) HK2.out.1 HK2.out.2 (by have := HSZ.out; simp; omega) ?_; intro v' w3 hown' hgrow' _; have HO3 := Lib.hid hown'; clear hown'; have HG3 := Lib.hid hgrow'; clear hgrow')
  go_ret
  obtain ⟨a, cap, rfl⟩ := own_form HO3.out
  exact ⟨a, cap, rfl, HO3.out, (((HB1.out.mono HB.out).alloc HSZ.out _)).grown HG3.out (by have := HSZ.out; simp; omega) (fun j hj => (HO1.out.lt j hj).1)⟩
end Go.Proofs.YtnfcieilchbbbaaDoor.Fld
