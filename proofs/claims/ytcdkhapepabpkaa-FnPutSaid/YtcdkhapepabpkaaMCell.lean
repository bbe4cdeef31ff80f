/- Cells, as far as the meshes reach them: laws.toId, laws.eqId, the reference model's l01In, IdOk, WidthOf and StartOf, the program's isValid, WidthOf and StartOf, as contracts: what each answers, and the world it leaves.
   Conditions: none. -/
import Derived.Test.YtcdkhapepabpkaaChecked
import Derived.WalkKit
import Derived.ProofKit
import Derived.OpenShut
import Derived.BigQuiet
import Derived.Deep.QuietTactic
import Derived.WalkSmall
import Derived.Handy
import Derived.Lib.Hide
import Derived.Laws.ResultCell
set_option maxRecDepth 100000
namespace Go.Proofs.Ytcdkhapepabpkaa.Cell
open Go.ChangeShapes Go.WideShapes Go.ChangeAt Go.RowKit

/-- A valid cell. -/
def okId (r l i : Int) : Bool := decide (0 ≤ r ∧ r ≤ 7 ∧ 0 ≤ l ∧ l ≤ 4 ∧ 0 ≤ i ∧ i < 2 ^ l.toNat)
theorem ok_true {r l i : Int} (h : 0 ≤ r ∧ r ≤ 7 ∧ 0 ≤ l ∧ l ≤ 4 ∧ 0 ≤ i ∧ i < 2 ^ l.toNat) : okId r l i = true := decide_eq_true h
theorem ok_false {r l i : Int} (h : ¬ (0 ≤ r ∧ r ≤ 7 ∧ 0 ≤ l ∧ l ≤ 4 ∧ 0 ≤ i ∧ i < 2 ^ l.toNat)) : okId r l i = false := decide_eq_false h
theorem of_ok {r l i : Int} (h : okId r l i = true) : 0 ≤ r ∧ r ≤ 7 ∧ 0 ≤ l ∧ l ≤ 4 ∧ 0 ≤ i ∧ i < 2 ^ l.toNat := of_decide_eq_true h
/-- A cell's width. -/
def widthOf (l : Int) : Int := if 0 ≤ l ∧ l ≤ 4 then 16 / 2 ^ l.toNat else 0
/-- The block that a cell is laid in. -/
abbrev cellOf (t : TypeId) (r l i : Int) : Obj := .cells #[.int .i64 r, .int .i64 l, .int .i64 i] t
theorem grown_trans {a b c : World} (h : a.grownBy b none) (k : b.grownBy c none) : a.grownBy c none :=
  ⟨k.os.trans h.os, k.tape.trans h.tape, k.output.trans h.output, Nat.le_trans h.size k.size, fun i hi hne => (k.block i (Nat.lt_of_lt_of_le hi h.size) hne).trans (h.block i hi hne)⟩
theorem grown_refl (w : World) : w.grownBy w none := ⟨rfl, rfl, rfl, Nat.le_refl _, fun _ _ _ => rfl⟩
theorem grown_drewN (w : World) (n : Nat) : w.grownBy (w.drewN n) none := ⟨rfl, rfl, rfl, Nat.le_refl _, fun _ _ _ => rfl⟩
theorem grown_below {B : Nat} {w w' : World} (hg : w.grownBy w' none) (hs : B ≤ w.heap.size) : Below B w w' :=
  (Below.refl B w).grown hg hs (fun k e => by cases e)
theorem results_row_tmp {P : Program} {fn : Func} {p u : Tmp} {ty : TypeId} (h : fn.results = #[.cell p ty, .tmp u]) (tmps : Array Value) (w : World) (g : Nat) (t : TypeId) (cs : Array Value) (fr : Nat × Nat) (d : TypeDesc)
    (hp : tmps.getD p undef = .pointer (some ⟨g, 0, none⟩)) (hg : w.heap[g]? = some (.cells cs t fr))
    (hu : P.underlying ty = some d) (hd : (match d with | .struct _ | .array _ _ => true | _ => false) = true) (hi : (P.info? ty).map (·.size) = some cs.size) :
    (results fn tmps).run P w = .ok (.tuple #[.agg cs, tmps.getD u undef]) w := by
  rw [results_cell_tmp h, hp]
  simp [asAddr, Result.andThen, run_loadVar_row w g t ty cs fr d hg hu hd hi]
theorem in_any (x lo hi : Int) (w : World) :
    Calls Try.prog 52 #[.int .i64 x, .int .i64 lo, .int .i64 hi] w fun e w' => e = .returned (.bool (decide (lo ≤ x ∧ x ≤ hi))) ∧ w' = w := by
  by_cases h1 : lo ≤ x
  · by_cases h2 : x ≤ hi
    · go_enter Try.func52, Try.ntmps52
      go_wp2
      go_ret
      exact ⟨by simp [h1, h2], rfl⟩
    · go_enter Try.func52, Try.ntmps52
      go_wp2
      go_ret
      exact ⟨by rw [decide_eq_false (by omega)]; rfl, rfl⟩
  · go_enter Try.func52, Try.ntmps52
    go_wp2
    go_ret
    exact ⟨by rw [decide_eq_false (by omega)]; rfl, rfl⟩
theorem in_is (x lo hi : Int) (b : Bool) (h : decide (lo ≤ x ∧ x ≤ hi) = b) (w : World) :
    Calls Try.prog 52 #[.int .i64 x, .int .i64 lo, .int .i64 hi] w fun e w' => e = .returned (.bool b) ∧ w' = w := h ▸ in_any x lo hi w
theorem toId_is (r l i : Int) (w : World) :
    Calls Try.prog 72 #[.agg #[.int .i64 r, .int .i64 l, .int .i64 i]] w fun e w' =>
      e = .returned (.agg #[.int .i64 r, .int .i64 l, .int .i64 i]) ∧ w' = ((w.alloc (cellOf 93 r l i)).alloc (cellOf 36 r l i)).alloc (cellOf 36 r l i) := by
  go_enter Try.func72, Try.ntmps72
  go_wp2
  exact bodyPost_ret_by (results_cell_row (fn := Try.f72) rfl _ _ (w.heap.size + 1) _ _ (0, 0) _ rfl ((heap_alloc_old _ _ (by simp)).trans (heap_alloc2_new _ _ _)) Try.underlying36 rfl (by kernel_rfl)) rfl ⟨rfl, rfl⟩
set_option maxHeartbeats 4000000 in
theorem valid_is (r l i : Int) (w : World) :
    Calls Try.prog 86 #[.agg #[.int .i64 r, .int .i64 l, .int .i64 i]] w fun e w' => e = .returned (.bool (okId r l i)) ∧ ∃ n, w' = (w.alloc (cellOf 36 r l i)).drewN n := by
  by_cases h1 : r < 0
  · rw [ok_false (by omega)]
    go_enter Try.func86, Try.ntmps86
    go_wp2
    go_ret
    exact ⟨rfl, 0, rfl⟩
  by_cases h2 : 7 < r
  · rw [ok_false (by omega)]
    go_enter Try.func86, Try.ntmps86
    go_wp2
    go_ret
    exact ⟨rfl, 0, rfl⟩
  by_cases h3 : l < 0
  · rw [ok_false (by omega)]
    go_enter Try.func86, Try.ntmps86
    go_wp2
    go_ret
    exact ⟨rfl, 0, rfl⟩
  by_cases h4 : 4 < l
  · rw [ok_false (by omega)]
    go_enter Try.func86, Try.ntmps86
    go_wp2
    go_ret
    exact ⟨rfl, 0, rfl⟩
  have hl : l = 0 ∨ l = 1 ∨ l = 2 ∨ l = 3 ∨ l = 4 := by omega
  by_cases h5 : i < 0
  · rw [ok_false (by omega)]
    have hd : decide (0 ≤ i) = false := decide_eq_false (by omega)
    go_enter Try.func86, Try.ntmps86
    go_wp2
    go_quiet (fail)
    go_wp2
    go_ret
    exact ⟨rfl, _, rfl⟩
  have h7 : 0 ≤ i := by omega
  clear h5
  rcases hl with rfl | rfl | rfl | rfl | rfl
  all_goals
    go_enter Try.func86, Try.ntmps86
    go_wp2
    go_quiet (fail)
    go_wp2
    go_ret
    exact ⟨congrArg (fun b => Ending.returned (.bool b)) (decide_eq_decide.2 ⟨fun h => ⟨by omega, by omega, by omega, by omega, by omega, by simpa using h⟩, fun h => by simpa using h.2.2.2.2.2⟩), _, rfl⟩
set_option maxHeartbeats 4000000 in
theorem specOk_is (r l i : Int) (w : World) :
    Calls Try.prog 82 #[.agg #[.int .i64 r, .int .i64 l, .int .i64 i]] w fun e w' => e = .returned (.bool (okId r l i)) ∧ ∃ n, w' = (w.alloc (cellOf 36 r l i)).drewN n := by
  by_cases h1 : ¬ (0 ≤ r ∧ r ≤ 7)
  · rw [ok_false (by omega)]
    have q1 := decide_eq_false h1
    go_enter Try.func82, Try.ntmps82
    go_wp2_with (go_at_call 52; (with_reducible refine (in_is r 0 7 false q1 _).mono ?_); rintro e w' ⟨rfl, rfl⟩)
    go_ret
    exact ⟨rfl, 0, rfl⟩
  rw [Decidable.not_not] at h1
  have q1 := decide_eq_true h1
  by_cases h2 : ¬ (0 ≤ l ∧ l ≤ 4)
  · rw [ok_false (by omega)]
    have q2 := decide_eq_false h2
    go_enter Try.func82, Try.ntmps82
    go_wp2_with (first
      | (go_at_call 52; (with_reducible refine (in_is r 0 7 true q1 _).mono ?_); rintro e w' ⟨rfl, rfl⟩)
      | (go_at_call 52; (with_reducible refine (in_is l 0 4 false q2 _).mono ?_); rintro e w' ⟨rfl, rfl⟩))
    go_ret
    exact ⟨rfl, 0, rfl⟩
  rw [Decidable.not_not] at h2
  have q2 := decide_eq_true h2
  by_cases h5 : i < 0
  · rw [ok_false (by omega)]
    go_enter Try.func82, Try.ntmps82
    go_wp2_with (first
      | (go_at_call 52; (with_reducible refine (in_is r 0 7 true q1 _).mono ?_); rintro e w' ⟨rfl, rfl⟩)
      | (go_at_call 52; (with_reducible refine (in_is l 0 4 true q2 _).mono ?_); rintro e w' ⟨rfl, rfl⟩))
    go_ret
    exact ⟨rfl, 0, rfl⟩
  have hl : l = 0 ∨ l = 1 ∨ l = 2 ∨ l = 3 ∨ l = 4 := by omega
  have h7 : 0 ≤ i := by omega
  clear h5
  rcases hl with rfl | rfl | rfl | rfl | rfl
  all_goals
    go_enter Try.func82, Try.ntmps82
    go_wp2_with (first
      | (go_at_call 52; (with_reducible refine (in_is r 0 7 true q1 _).mono ?_); rintro e w' ⟨rfl, rfl⟩)
      | (go_at_call 52; (with_reducible refine (in_is _ 0 4 true q2 _).mono ?_); rintro e w' ⟨rfl, rfl⟩))
    go_ret
    exact ⟨congrArg (fun b => Ending.returned (.bool b)) (decide_eq_decide.2 ⟨fun h => ⟨by omega, by omega, by omega, by omega, by omega, by simpa using h⟩, fun h => by simpa using h.2.2.2.2.2⟩), 0, rfl⟩
theorem width_is (l : Int) (w : World) :
    Calls Try.prog 79 #[.int .i64 l] w fun e w' => e = .returned (.int .i64 (widthOf l)) ∧ w' = w := by
  by_cases h2 : 0 ≤ l ∧ l ≤ 4
  · have hl : l = 0 ∨ l = 1 ∨ l = 2 ∨ l = 3 ∨ l = 4 := by omega
    rcases hl with rfl | rfl | rfl | rfl | rfl
    all_goals
      go_enter Try.func79, Try.ntmps79
      go_wp2
      go_ret
      exact ⟨rfl, rfl⟩
  · have e : widthOf l = 0 := if_neg h2
    rw [e]
    by_cases h3 : l < 0
    · go_enter Try.func79, Try.ntmps79
      go_wp2
      go_ret
      exact ⟨rfl, rfl⟩
    · have h4 : 4 < l := by omega
      go_enter Try.func79, Try.ntmps79
      go_wp2
      go_ret
      exact ⟨rfl, rfl⟩
theorem specWidth_is (l : Int) (w : World) :
    Calls Try.prog 90 #[.int .i64 l] w fun e w' => e = .returned (.int .i64 (widthOf l)) ∧ w' = w := by
  by_cases h2 : 0 ≤ l ∧ l ≤ 4
  · have hl : l = 0 ∨ l = 1 ∨ l = 2 ∨ l = 3 ∨ l = 4 := by omega
    have q2 := decide_eq_true h2
    rcases hl with rfl | rfl | rfl | rfl | rfl
    all_goals
      go_enter Try.func90, Try.ntmps90
      go_wp2_with (go_at_call 52; (with_reducible refine (in_is _ 0 4 true q2 _).mono ?_); rintro e w' ⟨rfl, rfl⟩)
      go_ret
      exact ⟨rfl, rfl⟩
  · have e : widthOf l = 0 := if_neg h2
    have q2 := decide_eq_false h2
    rw [e]
    go_enter Try.func90, Try.ntmps90
    go_wp2_with (go_at_call 52; (with_reducible refine (in_is _ 0 4 false q2 _).mono ?_); rintro e w' ⟨rfl, rfl⟩)
    go_ret
    exact ⟨rfl, rfl⟩
theorem eq_is (r l i r' l' i' : Int) (w : World) :
    Calls Try.prog 73 #[.agg #[.int .i64 r, .int .i64 l, .int .i64 i], .agg #[.int .i64 r', .int .i64 l', .int .i64 i']] w fun e w' =>
      e = .returned (.bool (decide (r = r' ∧ l = l' ∧ i = i'))) ∧ w' = (w.alloc (cellOf 36 r l i)).alloc (cellOf 36 r' l' i') := by
  by_cases h1 : ¬ r = r'
  · rw [decide_eq_false (by simp [h1])]
    go_enter Try.func73, Try.ntmps73
    go_wp2
    go_ret
    exact ⟨rfl, rfl⟩
  rw [Decidable.not_not] at h1
  subst h1
  by_cases h2 : ¬ l = l'
  · rw [decide_eq_false (by simp [h2])]
    go_enter Try.func73, Try.ntmps73
    go_wp2
    go_ret
    exact ⟨rfl, rfl⟩
  rw [Decidable.not_not] at h2
  subst h2
  by_cases h3 : ¬ i = i'
  · rw [decide_eq_false (by simp [h3])]
    go_enter Try.func73, Try.ntmps73
    go_wp2
    go_ret
    exact ⟨rfl, rfl⟩
  rw [Decidable.not_not] at h3
  subst h3
  rw [decide_eq_true (by simp)]
  go_enter Try.func73, Try.ntmps73
  go_wp2
  go_ret
  exact ⟨rfl, rfl⟩

theorem g_alloc {w a : World} (h : w.grownBy a none) (o : Obj) : w.grownBy (a.alloc o) none := grown_trans h (World.grownBy_alloc _ _ _)
theorem g_drewN {w a : World} (h : w.grownBy a none) (n : Nat) : w.grownBy (a.drewN n) none := grown_trans h (grown_drewN _ _)
theorem g_set {w a : World} (h : w.grownBy a none) (C j : Nat) (u : Value) (hC : w.heap.size ≤ C) : w.grownBy (a.setCell ⟨C, j, none⟩ u) none :=
  ⟨h.os, h.tape, h.output, by simpa using h.size, fun i hi hne => (heap_setCell_other a ⟨C, j, none⟩ i u (by simp; omega)).trans (h.block i hi hne)⟩
/-- A cell's left end. -/
def startOf (r l i : Int) : Int := if okId r l i then r * 16 + i * widthOf l else -1
theorem lvl {l : Int} (h0 : 0 ≤ l) (h1 : l ≤ 4) : l = 0 ∨ l = 1 ∨ l = 2 ∨ l = 3 ∨ l = 4 := by omega
theorem bounds {r l i : Int} (h : okId r l i = true) : 0 ≤ r ∧ r ≤ 7 ∧ 0 ≤ l ∧ l ≤ 4 ∧ 0 ≤ i ∧ i ≤ 15 ∧ 0 ≤ i * widthOf l ∧ i * widthOf l ≤ 240 := by
  obtain ⟨h0, h1, h2, h3, h4, h5⟩ := of_ok h
  rcases lvl h2 h3 with rfl | rfl | rfl | rfl | rfl
  all_goals
    simp at h5
    simp [widthOf]
    omega
theorem start_is (r l i : Int) (w : World) :
    Calls Try.prog 78 #[.agg #[.int .i64 r, .int .i64 l, .int .i64 i]] w fun e w' => e = .returned (.int .i64 (startOf r l i)) ∧ w.grownBy w' none := by
  by_cases h : okId r l i = true
  · obtain ⟨h0, h1, h2, h3, h4, h5, h6, h7⟩ := bounds h
    have e : startOf r l i = r * 16 + i * widthOf l := if_pos h
    rw [e]
    have e1 : IntKind.i64.wrap (r * 16) = r * 16 := IntWalk.i64_in _ (by omega)
    have e2 : IntKind.i64.wrap (i * widthOf l) = i * widthOf l := IntWalk.i64_in _ (by omega)
    have e3 : IntKind.i64.wrap (r * 16 + i * widthOf l) = r * 16 + i * widthOf l := IntWalk.i64_in _ (by omega)
    go_enter Try.func78, Try.ntmps78
    go_wp2_with (go_at_call 86; (with_reducible refine (valid_is r l i _).mono ?_); rintro e w' ⟨rfl, n, hw⟩; have hb : w'.heap[w.heap.size]? = some (cellOf 36 r l i) := (by rw [hw]; exact (heap_alloc_old _ _ (by simp)).trans (heap_alloc_new _ _)); have c0 : w'.cell? ⟨w.heap.size, 0, none⟩ = some (.int .i64 r) := (by simp [World.cell?, hb]); have c1 : w'.cell? ⟨w.heap.size, 1, none⟩ = some (.int .i64 l) := (by simp [World.cell?, hb]); have c2 : w'.cell? ⟨w.heap.size, 2, none⟩ = some (.int .i64 i) := (by simp [World.cell?, hb]); have hg : w.grownBy w' none := (by rw [hw]; exact g_drewN (g_alloc (g_alloc (grown_refl _) _) _) _); clear hw hb; have HG := Lib.hid hg; clear hg)
    go_quiet ((refine Calls.quiet_of_same (width_is l _); done))
    go_wp2
    go_ret
    exact ⟨rfl, g_drewN HG.out _⟩
  · have e : startOf r l i = -1 := if_neg h
    rw [Bool.not_eq_true] at h
    rw [e]
    go_enter Try.func78, Try.ntmps78
    go_wp2_with (go_at_call 86; (with_reducible refine (valid_is r l i _).mono ?_); rintro e w' ⟨rfl, n, rfl⟩)
    go_ret
    exact ⟨rfl, g_drewN (g_alloc (g_alloc (grown_refl _) _) _) _⟩
theorem specStart_is (r l i : Int) (w : World) :
    Calls Try.prog 83 #[.agg #[.int .i64 r, .int .i64 l, .int .i64 i]] w fun e w' => e = .returned (.int .i64 (startOf r l i)) ∧ w.grownBy w' none := by
  by_cases h : okId r l i = true
  · obtain ⟨h0, h1, h2, h3, h4, h5, h6, h7⟩ := bounds h
    have e : startOf r l i = r * 16 + i * widthOf l := if_pos h
    rw [e]
    have e1 : IntKind.i64.wrap (r * 16) = r * 16 := IntWalk.i64_in _ (by omega)
    have e2 : IntKind.i64.wrap (i * widthOf l) = i * widthOf l := IntWalk.i64_in _ (by omega)
    have e3 : IntKind.i64.wrap (r * 16 + i * widthOf l) = r * 16 + i * widthOf l := IntWalk.i64_in _ (by omega)
    go_enter Try.func83, Try.ntmps83
    go_wp2_with (go_at_call 82; (with_reducible refine (specOk_is r l i _).mono ?_); rintro e w' ⟨rfl, n, hw⟩; have hb : w'.heap[w.heap.size]? = some (cellOf 36 r l i) := (by rw [hw]; exact (heap_alloc_old _ _ (by simp)).trans (heap_alloc_new _ _)); have c0 : w'.cell? ⟨w.heap.size, 0, none⟩ = some (.int .i64 r) := (by simp [World.cell?, hb]); have c1 : w'.cell? ⟨w.heap.size, 1, none⟩ = some (.int .i64 l) := (by simp [World.cell?, hb]); have c2 : w'.cell? ⟨w.heap.size, 2, none⟩ = some (.int .i64 i) := (by simp [World.cell?, hb]); have hg : w.grownBy w' none := (by rw [hw]; exact g_drewN (g_alloc (g_alloc (grown_refl _) _) _) _); clear hw hb; have HG := Lib.hid hg; clear hg)
    go_quiet ((refine Calls.quiet_of_same (specWidth_is l _); done))
    go_wp2
    go_ret
    exact ⟨rfl, g_drewN HG.out _⟩
  · have e : startOf r l i = -1 := if_neg h
    rw [Bool.not_eq_true] at h
    rw [e]
    go_enter Try.func83, Try.ntmps83
    go_wp2_with (go_at_call 82; (with_reducible refine (specOk_is r l i _).mono ?_); rintro e w' ⟨rfl, n, rfl⟩)
    go_ret
    exact ⟨rfl, g_drewN (g_alloc (g_alloc (grown_refl _) _) _) _⟩

theorem toId_g (r l i : Int) (w : World) :
    Calls Try.prog 72 #[.agg #[.int .i64 r, .int .i64 l, .int .i64 i]] w fun e w' => e = .returned (.agg #[.int .i64 r, .int .i64 l, .int .i64 i]) ∧ w.grownBy w' none :=
  (toId_is r l i w).mono fun _ _ ⟨he, hw⟩ => ⟨he, hw ▸ g_alloc (g_alloc (g_alloc (grown_refl _) _) _) _⟩
theorem valid_g (r l i : Int) (w : World) :
    Calls Try.prog 86 #[.agg #[.int .i64 r, .int .i64 l, .int .i64 i]] w fun e w' => e = .returned (.bool (okId r l i)) ∧ w.grownBy w' none :=
  (valid_is r l i w).mono fun _ _ ⟨he, _, hw⟩ => ⟨he, hw ▸ g_drewN (g_alloc (grown_refl _) _) _⟩
theorem specOk_g (r l i : Int) (w : World) :
    Calls Try.prog 82 #[.agg #[.int .i64 r, .int .i64 l, .int .i64 i]] w fun e w' => e = .returned (.bool (okId r l i)) ∧ w.grownBy w' none :=
  (specOk_is r l i w).mono fun _ _ ⟨he, _, hw⟩ => ⟨he, hw ▸ g_drewN (g_alloc (grown_refl _) _) _⟩
theorem eq_g (r l i r' l' i' : Int) (w : World) :
    Calls Try.prog 73 #[.agg #[.int .i64 r, .int .i64 l, .int .i64 i], .agg #[.int .i64 r', .int .i64 l', .int .i64 i']] w fun e w' =>
      e = .returned (.bool (decide (r = r' ∧ l = l' ∧ i = i'))) ∧ w.grownBy w' none :=
  (eq_is r l i r' l' i' w).mono fun _ _ ⟨he, hw⟩ => ⟨he, hw ▸ g_alloc (g_alloc (grown_refl _) _) _⟩
/-- A cell's block, read. -/
structure Laid (w : World) (C : Nat) (r l i : Int) : Prop where
  c0 : w.cell? ⟨C, 0, none⟩ = some (.int .i64 r)
  c1 : w.cell? ⟨C, 1, none⟩ = some (.int .i64 l)
  c2 : w.cell? ⟨C, 2, none⟩ = some (.int .i64 i)
  lt : C < w.heap.size
theorem laid_new (w : World) (t : TypeId) (r l i : Int) : Laid (w.alloc (.cells #[.int .i64 r, .int .i64 l, .int .i64 i] t)) w.heap.size r l i :=
  ⟨by simp [World.cell?_alloc_new], by simp [World.cell?_alloc_new], by simp [World.cell?_alloc_new], by simp⟩
theorem Laid.on {w w' : World} {C : Nat} {r l i : Int} (h : Laid w C r l i) (hg : w.grownBy w' none) : Laid w' C r l i :=
  ⟨hg.cell h.c0 (by simp), hg.cell h.c1 (by simp), hg.cell h.c2 (by simp), Nat.lt_of_lt_of_le h.lt hg.size⟩
theorem Laid.past {w : World} {C : Nat} {r l i : Int} (h : Laid w C r l i) (o : Obj) : Laid (w.alloc o) C r l i := h.on (World.grownBy_alloc _ _ _)
end Go.Proofs.Ytcdkhapepabpkaa.Cell
