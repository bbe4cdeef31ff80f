/- Cells, the first part: laws.toId, laws.eqId, the reference model's l01In, IdOk and WidthOf, the program's isValid, IdOk and WidthOf, as contracts: what each answers, and the world it leaves.
   Conditions: none. -/
import Derived.Test.YthecidagejagmaaChecked
import Derived.WalkKit
import Derived.ProofKit
import Derived.OpenShut
import Derived.BigQuiet
import Derived.Deep.QuietTactic
import Derived.WalkSmall
import Derived.Handy
import Derived.Lib.Hide
import Derived.Laws.ResultCell
namespace Go.Proofs.Ythecidagejagmaa.Cell
open Go.ChangeShapes Go.WideShapes Go.ChangeAt Go.RowKit

/-- A valid cell. -/
def okId (r l i : Int) : Bool := decide (0 ≤ r ∧ r ≤ 7 ∧ 0 ≤ l ∧ l ≤ 4 ∧ 0 ≤ i ∧ i < 2 ^ l.toNat)
theorem ok_true {r l i : Int} (h : 0 ≤ r ∧ r ≤ 7 ∧ 0 ≤ l ∧ l ≤ 4 ∧ 0 ≤ i ∧ i < 2 ^ l.toNat) : okId r l i = true := decide_eq_true h
theorem ok_false {r l i : Int} (h : ¬ (0 ≤ r ∧ r ≤ 7 ∧ 0 ≤ l ∧ l ≤ 4 ∧ 0 ≤ i ∧ i < 2 ^ l.toNat)) : okId r l i = false := decide_eq_false h
theorem of_ok {r l i : Int} (h : okId r l i = true) : 0 ≤ r ∧ r ≤ 7 ∧ 0 ≤ l ∧ l ≤ 4 ∧ 0 ≤ i ∧ i < 2 ^ l.toNat := of_decide_eq_true h
/-- A cell's width. -/
def widthOf (l : Int) : Int := if 0 ≤ l ∧ l ≤ 4 then 16 / 2 ^ l.toNat else 0

/-- The block that a cell is laid in. -/
abbrev cellOf (t : TypeId) (r l i : Int) : Obj := .cells #[.int .i64 r, .int .i64 l, .int .i64 i] t

theorem grown_trans {a b c : World} (h : a.grownBy b none) (k : b.grownBy c none) : a.grownBy c none :=
  ⟨k.os.trans h.os, k.tape.trans h.tape, k.output.trans h.output, Nat.le_trans h.size k.size, fun i hi hne => (k.block i (Nat.lt_of_lt_of_le hi h.size) hne).trans (h.block i hi hne)⟩
theorem grown_refl (w : World) : w.grownBy w none := ⟨rfl, rfl, rfl, Nat.le_refl _, fun _ _ _ => rfl⟩
theorem grown_drewN (w : World) (n : Nat) : w.grownBy (w.drewN n) none := ⟨rfl, rfl, rfl, Nat.le_refl _, fun _ _ _ => rfl⟩
theorem grown_below {B : Nat} {w w' : World} (hg : w.grownBy w' none) (hs : B ≤ w.heap.size) : Below B w w' :=
  (Below.refl B w).grown hg hs (fun k e => by cases e)

theorem results_row_tmp {P : Program} {fn : Func} {p u : Tmp} {ty : TypeId} (h : fn.results = #[.cell p ty, .tmp u]) (tmps : Array Value) (w : World) (g : Nat) (t : TypeId) (cs : Array Value) (fr : Nat × Nat) (d : TypeDesc)
    (hp : tmps.getD p undef = .pointer (some ⟨g, 0, none⟩)) (hg : w.heap[g]? = some (.cells cs t fr))
    (hu : P.underlying ty = some d) (hd : (match d with | .struct _ | .array _ _ => true | _ => false) = true) (hi : (P.info? ty).map (·.size) = some cs.size) :
    (results fn tmps).run P w = .ok (.tuple #[.agg cs, tmps.getD u undef]) w := by
  rw [results_cell_tmp h, hp]
  simp [asAddr, Result.andThen, run_loadVar_row w g t ty cs fr d hg hu hd hi]

theorem in_any (x lo hi : Int) (w : World) :
    Calls Try.prog 39 #[.int .i64 x, .int .i64 lo, .int .i64 hi] w fun e w' => e = .returned (.bool (decide (lo ≤ x ∧ x ≤ hi))) ∧ w' = w := by
  by_cases h1 : lo ≤ x
  · by_cases h2 : x ≤ hi
    · go_enter Try.func39, Try.ntmps39
      go_wp2
      go_ret
      exact ⟨by simp [h1, h2], rfl⟩
    · go_enter Try.func39, Try.ntmps39
      go_wp2
      go_ret
      exact ⟨by rw [decide_eq_false (by omega)]; rfl, rfl⟩
  · go_enter Try.func39, Try.ntmps39
    go_wp2
    go_ret
    exact ⟨by rw [decide_eq_false (by omega)]; rfl, rfl⟩
theorem in_is (x lo hi : Int) (b : Bool) (h : decide (lo ≤ x ∧ x ≤ hi) = b) (w : World) :
    Calls Try.prog 39 #[.int .i64 x, .int .i64 lo, .int .i64 hi] w fun e w' => e = .returned (.bool b) ∧ w' = w := h ▸ in_any x lo hi w

theorem toId_is (r l i : Int) (w : World) :
    Calls Try.prog 23 #[.agg #[.int .i64 r, .int .i64 l, .int .i64 i]] w fun e w' =>
      e = .returned (.agg #[.int .i64 r, .int .i64 l, .int .i64 i]) ∧ w' = ((w.alloc (cellOf 36 r l i)).alloc (cellOf 25 r l i)).alloc (cellOf 25 r l i) := by
  go_enter Try.func23, Try.ntmps23
  go_wp2
  exact bodyPost_ret_by (results_cell_row (fn := Try.f23) rfl _ _ (w.heap.size + 1) _ _ (0, 0) _ rfl ((heap_alloc_old _ _ (by simp)).trans (heap_alloc2_new _ _ _)) Try.underlying25 rfl (by kernel_rfl)) rfl ⟨rfl, rfl⟩

set_option maxHeartbeats 4000000 in
theorem valid_is (r l i : Int) (w : World) :
    Calls Try.prog 33 #[.agg #[.int .i64 r, .int .i64 l, .int .i64 i]] w fun e w' => e = .returned (.bool (okId r l i)) ∧ ∃ n, w' = (w.alloc (cellOf 25 r l i)).drewN n := by
  by_cases h1 : r < 0
  · rw [ok_false (by omega)]
    go_enter Try.func33, Try.ntmps33
    go_wp2
    go_ret
    exact ⟨rfl, 0, rfl⟩
  by_cases h2 : 7 < r
  · rw [ok_false (by omega)]
    go_enter Try.func33, Try.ntmps33
    go_wp2
    go_ret
    exact ⟨rfl, 0, rfl⟩
  by_cases h3 : l < 0
  · rw [ok_false (by omega)]
    go_enter Try.func33, Try.ntmps33
    go_wp2
    go_ret
    exact ⟨rfl, 0, rfl⟩
  by_cases h4 : 4 < l
  · rw [ok_false (by omega)]
    go_enter Try.func33, Try.ntmps33
    go_wp2
    go_ret
    exact ⟨rfl, 0, rfl⟩
  have hl : l = 0 ∨ l = 1 ∨ l = 2 ∨ l = 3 ∨ l = 4 := by omega
  by_cases h5 : i < 0
  · rw [ok_false (by omega)]
    have hd : decide (0 ≤ i) = false := decide_eq_false (by omega)
    go_enter Try.func33, Try.ntmps33
    go_wp2
    go_quiet (fail)
    go_wp2
    go_ret
    exact ⟨rfl, _, rfl⟩
  have h7 : 0 ≤ i := by omega
  clear h5
  rcases hl with rfl | rfl | rfl | rfl | rfl
  all_goals
    go_enter Try.func33, Try.ntmps33
    go_wp2
    go_quiet (fail)
    go_wp2
    go_ret
    exact ⟨congrArg (fun b => Ending.returned (.bool b)) (decide_eq_decide.2 ⟨fun h => ⟨by omega, by omega, by omega, by omega, by omega, by simpa using h⟩, fun h => by simpa using h.2.2.2.2.2⟩), _, rfl⟩

theorem ok_is (r l i : Int) (w : World) :
    Calls Try.prog 15 #[.agg #[.int .i64 r, .int .i64 l, .int .i64 i]] w fun e w' => e = .returned (.bool (okId r l i)) ∧ ∃ n, w' = ((w.alloc (cellOf 25 r l i)).alloc (cellOf 25 r l i)).drewN n := by
  go_enter Try.func15, Try.ntmps15
  go_wp2_with (go_at_call 33; refine (valid_is r l i _).mono ?_; rintro e w' ⟨rfl, n, rfl⟩)
  go_ret
  exact ⟨rfl, _, rfl⟩

set_option maxHeartbeats 4000000 in
theorem specOk_is (r l i : Int) (w : World) :
    Calls Try.prog 21 #[.agg #[.int .i64 r, .int .i64 l, .int .i64 i]] w fun e w' => e = .returned (.bool (okId r l i)) ∧ ∃ n, w' = (w.alloc (cellOf 25 r l i)).drewN n := by
  by_cases h1 : ¬ (0 ≤ r ∧ r ≤ 7)
  · rw [ok_false (by omega)]
    have q1 := decide_eq_false h1
    go_enter Try.func21, Try.ntmps21
    go_wp2_with (go_at_call 39; (with_reducible refine (in_is r 0 7 false q1 _).mono ?_); rintro e w' ⟨rfl, rfl⟩)
    go_ret
    exact ⟨rfl, 0, rfl⟩
  rw [Decidable.not_not] at h1
  have q1 := decide_eq_true h1
  by_cases h2 : ¬ (0 ≤ l ∧ l ≤ 4)
  · rw [ok_false (by omega)]
    have q2 := decide_eq_false h2
    go_enter Try.func21, Try.ntmps21
    go_wp2_with (first
      | (go_at_call 39; (with_reducible refine (in_is r 0 7 true q1 _).mono ?_); rintro e w' ⟨rfl, rfl⟩)
      | (go_at_call 39; (with_reducible refine (in_is l 0 4 false q2 _).mono ?_); rintro e w' ⟨rfl, rfl⟩))
    go_ret
    exact ⟨rfl, 0, rfl⟩
  rw [Decidable.not_not] at h2
  have q2 := decide_eq_true h2
  by_cases h5 : i < 0
  · rw [ok_false (by omega)]
    go_enter Try.func21, Try.ntmps21
    go_wp2_with (first
      | (go_at_call 39; (with_reducible refine (in_is r 0 7 true q1 _).mono ?_); rintro e w' ⟨rfl, rfl⟩)
      | (go_at_call 39; (with_reducible refine (in_is l 0 4 true q2 _).mono ?_); rintro e w' ⟨rfl, rfl⟩))
    go_ret
    exact ⟨rfl, 0, rfl⟩
  have hl : l = 0 ∨ l = 1 ∨ l = 2 ∨ l = 3 ∨ l = 4 := by omega
  have h7 : 0 ≤ i := by omega
  clear h5
  rcases hl with rfl | rfl | rfl | rfl | rfl
  all_goals
    go_enter Try.func21, Try.ntmps21
    go_wp2_with (first
      | (go_at_call 39; (with_reducible refine (in_is r 0 7 true q1 _).mono ?_); rintro e w' ⟨rfl, rfl⟩)
      | (go_at_call 39; (with_reducible refine (in_is _ 0 4 true q2 _).mono ?_); rintro e w' ⟨rfl, rfl⟩))
    go_ret
    exact ⟨congrArg (fun b => Ending.returned (.bool b)) (decide_eq_decide.2 ⟨fun h => ⟨by omega, by omega, by omega, by omega, by omega, by simpa using h⟩, fun h => by simpa using h.2.2.2.2.2⟩), 0, rfl⟩

theorem width_is (l : Int) (w : World) :
    Calls Try.prog 16 #[.int .i64 l] w fun e w' => e = .returned (.int .i64 (widthOf l)) ∧ w' = w := by
  by_cases h2 : 0 ≤ l ∧ l ≤ 4
  · have hl : l = 0 ∨ l = 1 ∨ l = 2 ∨ l = 3 ∨ l = 4 := by omega
    rcases hl with rfl | rfl | rfl | rfl | rfl
    all_goals
      go_enter Try.func16, Try.ntmps16
      go_wp2
      go_ret
      exact ⟨rfl, rfl⟩
  · have e : widthOf l = 0 := if_neg h2
    rw [e]
    by_cases h3 : l < 0
    · go_enter Try.func16, Try.ntmps16
      go_wp2
      go_ret
      exact ⟨rfl, rfl⟩
    · have h4 : 4 < l := by omega
      go_enter Try.func16, Try.ntmps16
      go_wp2
      go_ret
      exact ⟨rfl, rfl⟩

theorem specWidth_is (l : Int) (w : World) :
    Calls Try.prog 24 #[.int .i64 l] w fun e w' => e = .returned (.int .i64 (widthOf l)) ∧ w' = w := by
  by_cases h2 : 0 ≤ l ∧ l ≤ 4
  · have hl : l = 0 ∨ l = 1 ∨ l = 2 ∨ l = 3 ∨ l = 4 := by omega
    have q2 := decide_eq_true h2
    rcases hl with rfl | rfl | rfl | rfl | rfl
    all_goals
      go_enter Try.func24, Try.ntmps24
      go_wp2_with (go_at_call 39; (with_reducible refine (in_is _ 0 4 true q2 _).mono ?_); rintro e w' ⟨rfl, rfl⟩)
      go_ret
      exact ⟨rfl, rfl⟩
  · have e : widthOf l = 0 := if_neg h2
    have q2 := decide_eq_false h2
    rw [e]
    go_enter Try.func24, Try.ntmps24
    go_wp2_with (go_at_call 39; (with_reducible refine (in_is _ 0 4 false q2 _).mono ?_); rintro e w' ⟨rfl, rfl⟩)
    go_ret
    exact ⟨rfl, rfl⟩

theorem eq_is (r l i r' l' i' : Int) (w : World) :
    Calls Try.prog 27 #[.agg #[.int .i64 r, .int .i64 l, .int .i64 i], .agg #[.int .i64 r', .int .i64 l', .int .i64 i']] w fun e w' =>
      e = .returned (.bool (decide (r = r' ∧ l = l' ∧ i = i'))) ∧ w' = (w.alloc (cellOf 25 r l i)).alloc (cellOf 25 r' l' i') := by
  by_cases h1 : ¬ r = r'
  · rw [decide_eq_false (by simp [h1])]
    go_enter Try.func27, Try.ntmps27
    go_wp2
    go_ret
    exact ⟨rfl, rfl⟩
  rw [Decidable.not_not] at h1
  subst h1
  by_cases h2 : ¬ l = l'
  · rw [decide_eq_false (by simp [h2])]
    go_enter Try.func27, Try.ntmps27
    go_wp2
    go_ret
    exact ⟨rfl, rfl⟩
  rw [Decidable.not_not] at h2
  subst h2
  by_cases h3 : ¬ i = i'
  · rw [decide_eq_false (by simp [h3])]
    go_enter Try.func27, Try.ntmps27
    go_wp2
    go_ret
    exact ⟨rfl, rfl⟩
  rw [Decidable.not_not] at h3
  subst h3
  rw [decide_eq_true (by simp)]
  go_enter Try.func27, Try.ntmps27
  go_wp2
  go_ret
  exact ⟨rfl, rfl⟩
end Go.Proofs.Ythecidagejagmaa.Cell
