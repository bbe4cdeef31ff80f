/- Cells, as far as the meshes reach them: laws.toId, laws.eqId, the reference model's l01In, IdOk, WidthOf and StartOf, the program's isValid, WidthOf and StartOf, as contracts: what each answers, and the world it leaves. Meshes, the first part: cells as a list, their ends, a row of cells in memory. Plain lemmas. Meshes: MeshOk of the program, as a contract: what it answers; nothing that was there is written. Meshes: a mesh in a box of the call's own, its leaves a row of the call's own: for what collects cells. Plain lemmas. Meshes: the place of a leaf in a list of cells, the deepest level: plain lemmas. Meshes: a leaf replaced by its children, the first face that is not balanced, the balanced mesh: plain lemmas.
   Conditions: as each says. -/
import Derived.Test.YtaccigmkddomaaaChecked
import Derived.WalkKit
import Derived.ProofKit
import Derived.OpenShut
import Derived.BigQuiet
import Derived.Deep.QuietTactic
import Derived.WalkSmall
import Derived.Handy
import Derived.Lib.Hide
import Derived.Laws.ResultCell
import Derived.Deep.AppendLies
import Derived.RangeFuncNested
import Derived.RangeFuncBox
set_option maxRecDepth 100000
namespace Go.Proofs.Ytaccigmkddomaaa.Cell
open Go.ChangeShapes Go.WideShapes Go.ChangeAt Go.RowKit

/-- A valid cell. -/
def okId (r l i : Int) : Bool := decide (0 ≤ r ∧ r ≤ 7 ∧ 0 ≤ l ∧ l ≤ 4 ∧ 0 ≤ i ∧ i < 2 ^ l.toNat)
theorem ok_true {r l i : Int} (h : 0 ≤ r ∧ r ≤ 7 ∧ 0 ≤ l ∧ l ≤ 4 ∧ 0 ≤ i ∧ i < 2 ^ l.toNat) : okId r l i = true := decide_eq_true h
theorem ok_false {r l i : Int} (h : ¬ (0 ≤ r ∧ r ≤ 7 ∧ 0 ≤ l ∧ l ≤ 4 ∧ 0 ≤ i ∧ i < 2 ^ l.toNat)) : okId r l i = false := decide_eq_false h
theorem of_ok {r l i : Int} (h : okId r l i = true) : 0 ≤ r ∧ r ≤ 7 ∧ 0 ≤ l ∧ l ≤ 4 ∧ 0 ≤ i ∧ i < 2 ^ l.toNat := of_decide_eq_true h
/-- A cell's width. -/
def widthOf (l : Int) : Int := if 0 ≤ l ∧ l ≤ 4 then 16 / 2 ^ l.toNat else 0
/-- The block that a cell is laid in. -/
abbrev cellOf (t : TypeId) (r l i : Int) : Obj := .cells #[.int .i64 r, .int .i64 l, .int .i64 i] t
theorem grown_trans {a b c : World} (h : a.grownBy b none) (k : b.grownBy c none) : a.grownBy c none :=
  ⟨k.os.trans h.os, k.tape.trans h.tape, k.output.trans h.output, Nat.le_trans h.size k.size, fun i hi hne => (k.block i (Nat.lt_of_lt_of_le hi h.size) hne).trans (h.block i hi hne)⟩
theorem grown_refl (w : World) : w.grownBy w none := ⟨rfl, rfl, rfl, Nat.le_refl _, fun _ _ _ => rfl⟩
theorem grown_drewN (w : World) (n : Nat) : w.grownBy (w.drewN n) none := ⟨rfl, rfl, rfl, Nat.le_refl _, fun _ _ _ => rfl⟩
theorem grown_below {B : Nat} {w w' : World} (hg : w.grownBy w' none) (hs : B ≤ w.heap.size) : Below B w w' :=
  (Below.refl B w).grown hg hs (fun k e => by cases e)
theorem results_row_tmp {P : Program} {fn : Func} {p u : Tmp} {ty : TypeId} (h : fn.results = #[.cell p ty, .tmp u]) (tmps : Array Value) (w : World) (g : Nat) (t : TypeId) (cs : Array Value) (fr : Nat × Nat) (d : TypeDesc)
    (hp : tmps.getD p undef = .pointer (some ⟨g, 0, none⟩)) (hg : w.heap[g]? = some (.cells cs t fr))
    (hu : P.underlying ty = some d) (hd : (match d with | .struct _ | .array _ _ => true | _ => false) = true) (hi : (P.info? ty).map (·.size) = some cs.size) :
    (results fn tmps).run P w = .ok (.tuple #[.agg cs, tmps.getD u undef]) w := by
  rw [results_cell_tmp h, hp]
  simp [asAddr, Result.andThen, run_loadVar_row w g t ty cs fr d hg hu hd hi]
theorem in_any (x lo hi : Int) (w : World) :
    Calls Try.prog 44 #[.int .i64 x, .int .i64 lo, .int .i64 hi] w fun e w' => e = .returned (.bool (decide (lo ≤ x ∧ x ≤ hi))) ∧ w' = w := by
  by_cases h1 : lo ≤ x
  · by_cases h2 : x ≤ hi
    · go_enter Try.func44, Try.ntmps44
      go_wp2
      go_ret
      exact ⟨by simp [h1, h2], rfl⟩
    · go_enter Try.func44, Try.ntmps44
      go_wp2
      go_ret
      exact ⟨by rw [decide_eq_false (by omega)]; rfl, rfl⟩
  · go_enter Try.func44, Try.ntmps44
    go_wp2
    go_ret
    exact ⟨by rw [decide_eq_false (by omega)]; rfl, rfl⟩
theorem in_is (x lo hi : Int) (b : Bool) (h : decide (lo ≤ x ∧ x ≤ hi) = b) (w : World) :
    Calls Try.prog 44 #[.int .i64 x, .int .i64 lo, .int .i64 hi] w fun e w' => e = .returned (.bool b) ∧ w' = w := h ▸ in_any x lo hi w
theorem toId_is (r l i : Int) (w : World) :
    Calls Try.prog 83 #[.agg #[.int .i64 r, .int .i64 l, .int .i64 i]] w fun e w' =>
      e = .returned (.agg #[.int .i64 r, .int .i64 l, .int .i64 i]) ∧ w' = ((w.alloc (cellOf 99 r l i)).alloc (cellOf 35 r l i)).alloc (cellOf 35 r l i) := by
  go_enter Try.func83, Try.ntmps83
  go_wp2
  exact bodyPost_ret_by (results_cell_row (fn := Try.f83) rfl _ _ (w.heap.size + 1) _ _ (0, 0) _ rfl ((Below.heap_alloc _ _ _ (by simp)).trans (heap_alloc2_new _ _ _)) Try.underlying35 rfl (by kernel_rfl)) rfl ⟨rfl, rfl⟩
set_option maxHeartbeats 4000000 in
theorem valid_is (r l i : Int) (w : World) :
    Calls Try.prog 87 #[.agg #[.int .i64 r, .int .i64 l, .int .i64 i]] w fun e w' => e = .returned (.bool (okId r l i)) ∧ ∃ n, w' = (w.alloc (cellOf 35 r l i)).drewN n := by
  by_cases h1 : r < 0
  · rw [ok_false (by omega)]
    go_enter Try.func87, Try.ntmps87
    go_wp2
    go_ret
    exact ⟨rfl, 0, rfl⟩
  by_cases h2 : 7 < r
  · rw [ok_false (by omega)]
    go_enter Try.func87, Try.ntmps87
    go_wp2
    go_ret
    exact ⟨rfl, 0, rfl⟩
  by_cases h3 : l < 0
  · rw [ok_false (by omega)]
    go_enter Try.func87, Try.ntmps87
    go_wp2
    go_ret
    exact ⟨rfl, 0, rfl⟩
  by_cases h4 : 4 < l
  · rw [ok_false (by omega)]
    go_enter Try.func87, Try.ntmps87
    go_wp2
    go_ret
    exact ⟨rfl, 0, rfl⟩
  have hl : l = 0 ∨ l = 1 ∨ l = 2 ∨ l = 3 ∨ l = 4 := by omega
  by_cases h5 : i < 0
  · rw [ok_false (by omega)]
    have hd : decide (0 ≤ i) = false := decide_eq_false (by omega)
    go_enter Try.func87, Try.ntmps87
    go_wp2
    go_quiet (fail)
    go_wp2
    go_ret
    exact ⟨rfl, _, rfl⟩
  have h7 : 0 ≤ i := by omega
  clear h5
  rcases hl with rfl | rfl | rfl | rfl | rfl
  all_goals
    go_enter Try.func87, Try.ntmps87
    go_wp2
    go_quiet (fail)
    go_wp2
    go_ret
    exact ⟨congrArg (fun b => Ending.returned (.bool b)) (decide_eq_decide.2 ⟨fun h => ⟨by omega, by omega, by omega, by omega, by omega, by simpa using h⟩, fun h => by simpa using h.2.2.2.2.2⟩), _, rfl⟩
set_option maxHeartbeats 4000000 in
theorem specOk_is (r l i : Int) (w : World) :
    Calls Try.prog 79 #[.agg #[.int .i64 r, .int .i64 l, .int .i64 i]] w fun e w' => e = .returned (.bool (okId r l i)) ∧ ∃ n, w' = (w.alloc (cellOf 35 r l i)).drewN n := by
  by_cases h1 : ¬ (0 ≤ r ∧ r ≤ 7)
  · rw [ok_false (by omega)]
    have q1 := decide_eq_false h1
    go_enter Try.func79, Try.ntmps79
    go_wp2_with (go_at_call 44; (with_reducible refine (in_is r 0 7 false q1 _).mono ?_); rintro e w' ⟨rfl, rfl⟩)
    go_ret
    exact ⟨rfl, 0, rfl⟩
  rw [Decidable.not_not] at h1
  have q1 := decide_eq_true h1
  by_cases h2 : ¬ (0 ≤ l ∧ l ≤ 4)
  · rw [ok_false (by omega)]
    have q2 := decide_eq_false h2
    go_enter Try.func79, Try.ntmps79
    go_wp2_with (first
      | (go_at_call 44; (with_reducible refine (in_is r 0 7 true q1 _).mono ?_); rintro e w' ⟨rfl, rfl⟩)
      | (go_at_call 44; (with_reducible refine (in_is l 0 4 false q2 _).mono ?_); rintro e w' ⟨rfl, rfl⟩))
    go_ret
    exact ⟨rfl, 0, rfl⟩
  rw [Decidable.not_not] at h2
  have q2 := decide_eq_true h2
  by_cases h5 : i < 0
  · rw [ok_false (by omega)]
    go_enter Try.func79, Try.ntmps79
    go_wp2_with (first
      | (go_at_call 44; (with_reducible refine (in_is r 0 7 true q1 _).mono ?_); rintro e w' ⟨rfl, rfl⟩)
      | (go_at_call 44; (with_reducible refine (in_is l 0 4 true q2 _).mono ?_); rintro e w' ⟨rfl, rfl⟩))
    go_ret
    exact ⟨rfl, 0, rfl⟩
  have hl : l = 0 ∨ l = 1 ∨ l = 2 ∨ l = 3 ∨ l = 4 := by omega
  have h7 : 0 ≤ i := by omega
  clear h5
  rcases hl with rfl | rfl | rfl | rfl | rfl
  all_goals
    go_enter Try.func79, Try.ntmps79
    go_wp2_with (first
      | (go_at_call 44; (with_reducible refine (in_is r 0 7 true q1 _).mono ?_); rintro e w' ⟨rfl, rfl⟩)
      | (go_at_call 44; (with_reducible refine (in_is _ 0 4 true q2 _).mono ?_); rintro e w' ⟨rfl, rfl⟩))
    go_ret
    exact ⟨congrArg (fun b => Ending.returned (.bool b)) (decide_eq_decide.2 ⟨fun h => ⟨by omega, by omega, by omega, by omega, by omega, by simpa using h⟩, fun h => by simpa using h.2.2.2.2.2⟩), 0, rfl⟩
theorem width_is (l : Int) (w : World) :
    Calls Try.prog 72 #[.int .i64 l] w fun e w' => e = .returned (.int .i64 (widthOf l)) ∧ w' = w := by
  by_cases h2 : 0 ≤ l ∧ l ≤ 4
  · have hl : l = 0 ∨ l = 1 ∨ l = 2 ∨ l = 3 ∨ l = 4 := by omega
    rcases hl with rfl | rfl | rfl | rfl | rfl
    all_goals
      go_enter Try.func72, Try.ntmps72
      go_wp2
      go_ret
      exact ⟨rfl, rfl⟩
  · have e : widthOf l = 0 := if_neg h2
    rw [e]
    by_cases h3 : l < 0
    · go_enter Try.func72, Try.ntmps72
      go_wp2
      go_ret
      exact ⟨rfl, rfl⟩
    · have h4 : 4 < l := by omega
      go_enter Try.func72, Try.ntmps72
      go_wp2
      go_ret
      exact ⟨rfl, rfl⟩
theorem specWidth_is (l : Int) (w : World) :
    Calls Try.prog 90 #[.int .i64 l] w fun e w' => e = .returned (.int .i64 (widthOf l)) ∧ w' = w := by
  by_cases h2 : 0 ≤ l ∧ l ≤ 4
  · have hl : l = 0 ∨ l = 1 ∨ l = 2 ∨ l = 3 ∨ l = 4 := by omega
    have q2 := decide_eq_true h2
    rcases hl with rfl | rfl | rfl | rfl | rfl
    all_goals
      go_enter Try.func90, Try.ntmps90
      go_wp2_with (go_at_call 44; (with_reducible refine (in_is _ 0 4 true q2 _).mono ?_); rintro e w' ⟨rfl, rfl⟩)
      go_ret
      exact ⟨rfl, rfl⟩
  · have e : widthOf l = 0 := if_neg h2
    have q2 := decide_eq_false h2
    rw [e]
    go_enter Try.func90, Try.ntmps90
    go_wp2_with (go_at_call 44; (with_reducible refine (in_is _ 0 4 false q2 _).mono ?_); rintro e w' ⟨rfl, rfl⟩)
    go_ret
    exact ⟨rfl, rfl⟩
theorem eq_is (r l i r' l' i' : Int) (w : World) :
    Calls Try.prog 84 #[.agg #[.int .i64 r, .int .i64 l, .int .i64 i], .agg #[.int .i64 r', .int .i64 l', .int .i64 i']] w fun e w' =>
      e = .returned (.bool (decide (r = r' ∧ l = l' ∧ i = i'))) ∧ w' = (w.alloc (cellOf 35 r l i)).alloc (cellOf 35 r' l' i') := by
  by_cases h1 : ¬ r = r'
  · rw [decide_eq_false (by simp [h1])]
    go_enter Try.func84, Try.ntmps84
    go_wp2
    go_ret
    exact ⟨rfl, rfl⟩
  rw [Decidable.not_not] at h1
  subst h1
  by_cases h2 : ¬ l = l'
  · rw [decide_eq_false (by simp [h2])]
    go_enter Try.func84, Try.ntmps84
    go_wp2
    go_ret
    exact ⟨rfl, rfl⟩
  rw [Decidable.not_not] at h2
  subst h2
  by_cases h3 : ¬ i = i'
  · rw [decide_eq_false (by simp [h3])]
    go_enter Try.func84, Try.ntmps84
    go_wp2
    go_ret
    exact ⟨rfl, rfl⟩
  rw [Decidable.not_not] at h3
  subst h3
  rw [decide_eq_true (by simp)]
  go_enter Try.func84, Try.ntmps84
  go_wp2
  go_ret
  exact ⟨rfl, rfl⟩

theorem g_alloc {w a : World} (h : w.grownBy a none) (o : Obj) : w.grownBy (a.alloc o) none := grown_trans h (World.grownBy_alloc _ _ _)
theorem g_drewN {w a : World} (h : w.grownBy a none) (n : Nat) : w.grownBy (a.drewN n) none := grown_trans h (grown_drewN _ _)
theorem g_set {w a : World} (h : w.grownBy a none) (C j : Nat) (u : Value) (hC : w.heap.size ≤ C) : w.grownBy (a.setCell ⟨C, j, none⟩ u) none :=
  ⟨h.os, h.tape, h.output, by simpa using h.size, fun i hi hne => (heap_setCell_other a ⟨C, j, none⟩ i u (by simp; omega)).trans (h.block i hi hne)⟩
/-- A cell's left end. -/
def startOf (r l i : Int) : Int := if okId r l i then r * 16 + i * widthOf l else -1
theorem lvl {l : Int} (h0 : 0 ≤ l) (h1 : l ≤ 4) : l = 0 ∨ l = 1 ∨ l = 2 ∨ l = 3 ∨ l = 4 := by omega
theorem bounds {r l i : Int} (h : okId r l i = true) : 0 ≤ r ∧ r ≤ 7 ∧ 0 ≤ l ∧ l ≤ 4 ∧ 0 ≤ i ∧ i ≤ 15 ∧ 0 ≤ i * widthOf l ∧ i * widthOf l ≤ 240 := by
  obtain ⟨h0, h1, h2, h3, h4, h5⟩ := of_ok h
  rcases lvl h2 h3 with rfl | rfl | rfl | rfl | rfl
  all_goals
    simp at h5
    simp [widthOf]
    omega
theorem start_is (r l i : Int) (w : World) :
    Calls Try.prog 71 #[.agg #[.int .i64 r, .int .i64 l, .int .i64 i]] w fun e w' => e = .returned (.int .i64 (startOf r l i)) ∧ w.grownBy w' none := by
  by_cases h : okId r l i = true
  · obtain ⟨h0, h1, h2, h3, h4, h5, h6, h7⟩ := bounds h
    have e : startOf r l i = r * 16 + i * widthOf l := if_pos h
    rw [e]
    have e1 : IntKind.i64.wrap (r * 16) = r * 16 := IntWalk.i64_in _ (by omega)
    have e2 : IntKind.i64.wrap (i * widthOf l) = i * widthOf l := IntWalk.i64_in _ (by omega)
    have e3 : IntKind.i64.wrap (r * 16 + i * widthOf l) = r * 16 + i * widthOf l := IntWalk.i64_in _ (by omega)
    go_enter Try.func71, Try.ntmps71
    go_wp2_with (go_at_call 87; (with_reducible refine (valid_is r l i _).mono ?_); rintro e w' ⟨rfl, n, hw⟩; have hb : w'.heap[w.heap.size]? = some (cellOf 35 r l i) := (by rw [hw]; exact (Below.heap_alloc _ _ _ (by simp)).trans (heap_alloc_new _ _)); have c0 : w'.cell? ⟨w.heap.size, 0, none⟩ = some (.int .i64 r) := (by simp [World.cell?, hb]); have c1 : w'.cell? ⟨w.heap.size, 1, none⟩ = some (.int .i64 l) := (by simp [World.cell?, hb]); have c2 : w'.cell? ⟨w.heap.size, 2, none⟩ = some (.int .i64 i) := (by simp [World.cell?, hb]); have hg : w.grownBy w' none := (by rw [hw]; exact g_drewN (g_alloc (g_alloc (grown_refl _) _) _) _); clear hw hb; have HG := Lib.hid hg; clear hg)
    go_quiet ((refine Calls.quiet_of_same (width_is l _); done))
    go_wp2
    go_ret
    exact ⟨rfl, g_drewN HG.out _⟩
  · have e : startOf r l i = -1 := if_neg h
    rw [Bool.not_eq_true] at h
    rw [e]
    go_enter Try.func71, Try.ntmps71
    go_wp2_with (go_at_call 87; (with_reducible refine (valid_is r l i _).mono ?_); rintro e w' ⟨rfl, n, rfl⟩)
    go_ret
    exact ⟨rfl, g_drewN (g_alloc (g_alloc (grown_refl _) _) _) _⟩
theorem specStart_is (r l i : Int) (w : World) :
    Calls Try.prog 80 #[.agg #[.int .i64 r, .int .i64 l, .int .i64 i]] w fun e w' => e = .returned (.int .i64 (startOf r l i)) ∧ w.grownBy w' none := by
  by_cases h : okId r l i = true
  · obtain ⟨h0, h1, h2, h3, h4, h5, h6, h7⟩ := bounds h
    have e : startOf r l i = r * 16 + i * widthOf l := if_pos h
    rw [e]
    have e1 : IntKind.i64.wrap (r * 16) = r * 16 := IntWalk.i64_in _ (by omega)
    have e2 : IntKind.i64.wrap (i * widthOf l) = i * widthOf l := IntWalk.i64_in _ (by omega)
    have e3 : IntKind.i64.wrap (r * 16 + i * widthOf l) = r * 16 + i * widthOf l := IntWalk.i64_in _ (by omega)
    go_enter Try.func80, Try.ntmps80
    go_wp2_with (go_at_call 79; (with_reducible refine (specOk_is r l i _).mono ?_); rintro e w' ⟨rfl, n, hw⟩; have hb : w'.heap[w.heap.size]? = some (cellOf 35 r l i) := (by rw [hw]; exact (Below.heap_alloc _ _ _ (by simp)).trans (heap_alloc_new _ _)); have c0 : w'.cell? ⟨w.heap.size, 0, none⟩ = some (.int .i64 r) := (by simp [World.cell?, hb]); have c1 : w'.cell? ⟨w.heap.size, 1, none⟩ = some (.int .i64 l) := (by simp [World.cell?, hb]); have c2 : w'.cell? ⟨w.heap.size, 2, none⟩ = some (.int .i64 i) := (by simp [World.cell?, hb]); have hg : w.grownBy w' none := (by rw [hw]; exact g_drewN (g_alloc (g_alloc (grown_refl _) _) _) _); clear hw hb; have HG := Lib.hid hg; clear hg)
    go_quiet ((refine Calls.quiet_of_same (specWidth_is l _); done))
    go_wp2
    go_ret
    exact ⟨rfl, g_drewN HG.out _⟩
  · have e : startOf r l i = -1 := if_neg h
    rw [Bool.not_eq_true] at h
    rw [e]
    go_enter Try.func80, Try.ntmps80
    go_wp2_with (go_at_call 79; (with_reducible refine (specOk_is r l i _).mono ?_); rintro e w' ⟨rfl, n, rfl⟩)
    go_ret
    exact ⟨rfl, g_drewN (g_alloc (g_alloc (grown_refl _) _) _) _⟩

theorem toId_g (r l i : Int) (w : World) :
    Calls Try.prog 83 #[.agg #[.int .i64 r, .int .i64 l, .int .i64 i]] w fun e w' => e = .returned (.agg #[.int .i64 r, .int .i64 l, .int .i64 i]) ∧ w.grownBy w' none :=
  (toId_is r l i w).mono fun _ _ ⟨he, hw⟩ => ⟨he, hw ▸ g_alloc (g_alloc (g_alloc (grown_refl _) _) _) _⟩
theorem valid_g (r l i : Int) (w : World) :
    Calls Try.prog 87 #[.agg #[.int .i64 r, .int .i64 l, .int .i64 i]] w fun e w' => e = .returned (.bool (okId r l i)) ∧ w.grownBy w' none :=
  (valid_is r l i w).mono fun _ _ ⟨he, _, hw⟩ => ⟨he, hw ▸ g_drewN (g_alloc (grown_refl _) _) _⟩
theorem specOk_g (r l i : Int) (w : World) :
    Calls Try.prog 79 #[.agg #[.int .i64 r, .int .i64 l, .int .i64 i]] w fun e w' => e = .returned (.bool (okId r l i)) ∧ w.grownBy w' none :=
  (specOk_is r l i w).mono fun _ _ ⟨he, _, hw⟩ => ⟨he, hw ▸ g_drewN (g_alloc (grown_refl _) _) _⟩
theorem eq_g (r l i r' l' i' : Int) (w : World) :
    Calls Try.prog 84 #[.agg #[.int .i64 r, .int .i64 l, .int .i64 i], .agg #[.int .i64 r', .int .i64 l', .int .i64 i']] w fun e w' =>
      e = .returned (.bool (decide (r = r' ∧ l = l' ∧ i = i'))) ∧ w.grownBy w' none :=
  (eq_is r l i r' l' i' w).mono fun _ _ ⟨he, hw⟩ => ⟨he, hw ▸ g_alloc (g_alloc (grown_refl _) _) _⟩
/-- A cell's block, read. -/
structure Laid (w : World) (C : Nat) (r l i : Int) : Prop where
  c0 : w.cell? ⟨C, 0, none⟩ = some (.int .i64 r)
  c1 : w.cell? ⟨C, 1, none⟩ = some (.int .i64 l)
  c2 : w.cell? ⟨C, 2, none⟩ = some (.int .i64 i)
  lt : C < w.heap.size
theorem laid_new (w : World) (t : TypeId) (r l i : Int) : Laid (w.alloc (.cells #[.int .i64 r, .int .i64 l, .int .i64 i] t)) w.heap.size r l i :=
  ⟨by simp [World.cell?_alloc_new], by simp [World.cell?_alloc_new], by simp [World.cell?_alloc_new], by simp⟩
theorem Laid.on {w w' : World} {C : Nat} {r l i : Int} (h : Laid w C r l i) (hg : w.grownBy w' none) : Laid w' C r l i :=
  ⟨hg.cell h.c0 (by simp), hg.cell h.c1 (by simp), hg.cell h.c2 (by simp), Nat.lt_of_lt_of_le h.lt hg.size⟩
theorem Laid.past {w : World} {C : Nat} {r l i : Int} (h : Laid w C r l i) (o : Obj) : Laid (w.alloc o) C r l i := h.on (World.grownBy_alloc _ _ _)
end Go.Proofs.Ytaccigmkddomaaa.Cell

namespace Go.Proofs.Ytaccigmkddomaaa.Mesh
open Go.ChangeShapes Go.WideShapes Go.ChangeAt Go.RowKit Go.Proofs.Ytaccigmkddomaaa.Cell

/-- A cell: root, level, index. -/
abbrev C3 := Int × Int × Int
def stOf (x : C3) : Int := startOf x.1 x.2.1 x.2.2
def wdOf (x : C3) : Int := widthOf x.2.1
def okOf (x : C3) : Bool := okId x.1 x.2.1 x.2.2

/-- One leaf more: where the next one must start. -/
def step (o : Option Int) (x : C3) : Option Int := o.bind fun e => if stOf x = e then some (e + wdOf x) else none
/-- Where the leaves end, if each starts where the one before it ends. -/
def run (xs : List C3) : Option Int := xs.foldl step (some 0)
def meshOk (R : Int) (xs : List C3) : Bool := decide (1 ≤ R ∧ R ≤ 8 ∧ run xs = some (R * 16))

theorem run_snoc (xs : List C3) (x : C3) : run (xs ++ [x]) = step (run xs) x := by simp [run]
theorem fold_none (xs : List C3) : xs.foldl step none = none := by
  induction xs with
  | nil => rfl
  | cons x xs ih => exact ih
theorem run_none {xs ys : List C3} (h : run xs = none) : run (xs ++ ys) = none := by
  unfold run at *
  rw [List.foldl_append, h]
  exact fold_none ys
theorem step_yes {x : C3} {e : Int} (h : stOf x = e) : step (some e) x = some (e + wdOf x) := if_pos h
theorem step_no {x : C3} {e : Int} (h : stOf x ≠ e) : step (some e) x = none := if_neg h

theorem wd_bounds (l : Int) : 0 ≤ widthOf l ∧ widthOf l ≤ 16 := by
  unfold widthOf
  split
  · rename_i h
    rcases lvl h.1 h.2 with rfl | rfl | rfl | rfl | rfl <;> decide
  · omega
theorem st_ok {x : C3} (h : 0 ≤ stOf x) : okOf x = true := by
  unfold stOf startOf at h
  split at h
  · assumption
  · omega
theorem ok_bounds' {r l i : Int} (h : okId r l i = true) : 0 ≤ r ∧ r ≤ 7 ∧ 0 ≤ l ∧ l ≤ 4 ∧ startOf r l i = r * 16 + i * widthOf l ∧ 1 ≤ widthOf l ∧ 0 ≤ i * widthOf l ∧ i * widthOf l + widthOf l ≤ 16 ∧ 0 ≤ i := by
  have hs : startOf r l i = r * 16 + i * widthOf l := if_pos h
  obtain ⟨h0, h1, h2, h3, h4, h5⟩ := of_ok h
  rw [hs]
  rcases lvl h2 h3 with rfl | rfl | rfl | rfl | rfl
  all_goals
    simp at h5
    simp [widthOf]
    omega
/-- What a valid cell covers. -/
theorem ok_bounds {x : C3} (h : okOf x = true) : 0 ≤ x.1 ∧ x.1 ≤ 7 ∧ 0 ≤ x.2.1 ∧ x.2.1 ≤ 4 ∧ stOf x = x.1 * 16 + x.2.2 * wdOf x ∧ 1 ≤ wdOf x ∧ 0 ≤ x.2.2 * wdOf x ∧ x.2.2 * wdOf x + wdOf x ≤ 16 ∧ 0 ≤ x.2.2 := ok_bounds' h
theorem fold_bounds (xs : List C3) : ∀ e0 e, 0 ≤ e0 → e0 ≤ 128 → xs.foldl step (some e0) = some e → e0 + xs.length ≤ e ∧ e ≤ 128 ∧ ∀ x ∈ xs, okOf x = true := by
  induction xs with
  | nil => intro e0 e h0 h1 h; cases h; simp; omega
  | cons x xs ih =>
    intro e0 e h0 h1 h
    by_cases hx : stOf x = e0
    · rw [List.foldl_cons, step_yes hx] at h
      have ho : okOf x = true := st_ok (by omega)
      obtain ⟨b1, b2, b3, b4, b5, b6, b7, b8, b9⟩ := ok_bounds ho
      obtain ⟨c1, c2, c3⟩ := ih (e0 + wdOf x) e (by omega) (by omega) h
      refine ⟨by simp; omega, c2, ?_⟩
      intro y hy
      rcases List.mem_cons.1 hy with rfl | hy
      · exact ho
      · exact c3 y hy
    · rw [List.foldl_cons, step_no hx, fold_none] at h; cases h
theorem run_bounds {xs : List C3} (e : Int) (h : run xs = some e) : (xs.length : Int) ≤ e ∧ e ≤ 128 ∧ ∀ x ∈ xs, okOf x = true := by
  obtain ⟨h1, h2, h3⟩ := fold_bounds xs 0 e (by omega) (by omega) h
  exact ⟨by omega, h2, h3⟩

/-- A row of cells in memory: the slice of n of them reads xs. -/
structure Reads (w : World) (a : Option Addr) (n : Nat) (xs : List C3) : Prop where
  len : xs.length = n
  at_ : ∀ k x, xs[k]? = some x → ∃ g, a = some ⟨g, 0, none⟩ ∧ g < w.heap.size ∧ w.cell? ⟨g, k * 3, none⟩ = some (.int .i64 x.1) ∧ w.cell? ⟨g, k * 3 + 1, none⟩ = some (.int .i64 x.2.1) ∧ w.cell? ⟨g, k * 3 + 2, none⟩ = some (.int .i64 x.2.2)
theorem Reads.on {w w' : World} {a : Option Addr} {n : Nat} {xs : List C3} (h : Reads w a n xs) (hg : w.grownBy w' none) : Reads w' a n xs :=
  ⟨h.len, fun k x hk => let ⟨g, ha, hl, h0, h1, h2⟩ := h.at_ k x hk; ⟨g, ha, Nat.lt_of_lt_of_le hl hg.size, hg.cell h0 (by simp), hg.cell h1 (by simp), hg.cell h2 (by simp)⟩⟩
theorem Reads.past {w : World} {a : Option Addr} {n : Nat} {xs : List C3} (h : Reads w a n xs) (o : Obj) : Reads (w.alloc o) a n xs := h.on (World.grownBy_alloc _ _ _)
/-- A mesh's block, read: the number of roots, and the slice. -/
structure BoxM (w : World) (B : Nat) (R : Int) (v : Value) : Prop where
  c0 : w.cell? ⟨B, 0, none⟩ = some (.int .i64 R)
  c1 : w.cell? ⟨B, 1, none⟩ = some v
  lt : B < w.heap.size
theorem boxM_new (w : World) (t : TypeId) (R : Int) (v : Value) : BoxM (w.alloc (.cells #[.int .i64 R, v] t)) w.heap.size R v :=
  ⟨by simp [World.cell?_alloc_new], by simp [World.cell?_alloc_new], by simp⟩
theorem BoxM.on {w w' : World} {B : Nat} {R : Int} {v : Value} (h : BoxM w B R v) (hg : w.grownBy w' none) : BoxM w' B R v :=
  ⟨hg.cell h.c0 (by simp), hg.cell h.c1 (by simp), Nat.lt_of_lt_of_le h.lt hg.size⟩
theorem get_of_lt {xs : List C3} {k n : Nat} (h : xs.length = n) (hk : k < n) : ∃ r l i, xs[k]? = some (r, l, i) :=
  ⟨_, _, _, List.getElem?_eq_getElem (by omega)⟩
theorem take_snoc {xs : List C3} {k : Nat} {x : C3} (h : xs[k]? = some x) : xs.take (k + 1) = xs.take k ++ [x] := by
  rw [List.take_add_one, h]; rfl
end Go.Proofs.Ytaccigmkddomaaa.Mesh

namespace Go.Proofs.Ytaccigmkddomaaa.Mesh
open Go.ChangeShapes Go.WideShapes Go.ChangeAt Go.RowKit Go.Proofs.Ytaccigmkddomaaa.Cell

theorem beq_dec (a b : Int) : (a == b) = decide (a = b) := by by_cases h : a = b <;> simp [h]
theorem run_take_none {xs : List C3} {k : Nat} (h : run (xs.take k) = none) : run xs = none := by
  rw [← List.take_append_drop k xs]; exact run_none h
theorem run_next {xs : List C3} {k : Nat} {x : C3} {e : Int} (hx : xs[k]? = some x) (h : run (xs.take k) = some e) : run (xs.take (k + 1)) = step (some e) x := by
  rw [take_snoc hx, run_snoc, h]
theorem run_nonneg {xs : List C3} {e : Int} (h : run xs = some e) : 0 ≤ e ∧ e ≤ 128 := by
  obtain ⟨h1, h2, -⟩ := run_bounds e h; omega

theorem meshOk_is (R : Int) (a : Option Addr) (n cap : Nat) (xs : List C3) (w : World) (hr : Reads w a n xs) (hn : n ≤ 1048576) :
    Calls Try.prog 49 #[.agg #[.int .i64 R, .slice a n cap]] w fun e w' => e = .returned (.bool (meshOk R xs)) ∧ w.grownBy w' none := by
  have hni : (n : Int) ≤ 1048576 := by omega
  have HN := Lib.hid hn; clear hn
  have HR := Lib.hid hr; clear hr
  by_cases h1 : 1 ≤ R ∧ R ≤ 8
  · obtain ⟨h1, h2⟩ := h1
    have HM := Lib.hid (show meshOk R xs = decide (run xs = some (R * 16)) by simp [meshOk, h1, h2])
    rw [HM.out]
    go_enter Try.func49, Try.ntmps49
    go_wp2
    go_loopw [3, 17] (fun e i wr => ∃ (k : Nat) (e0 : Int), (k : Int) ≤ n ∧ i = .int .i64 k ∧ e = .int .i64 e0 ∧ Hid (run (xs.take k) = some e0) ∧ Hid (w.grownBy wr none) ∧ Hid (Reads wr a n xs) ∧ Hid (BoxM wr w.heap.size R (.slice a n cap))) (fun _ i _ => n - (intOf i).toNat)
    case atStart => exact ⟨0, 0, by omega, rfl, rfl, Lib.hid rfl, Lib.hid (g_alloc (grown_refl _) _), Lib.hid (HR.out.past _), Lib.hid (boxM_new _ _ _ _)⟩
    case round =>
      obtain ⟨k, e0, hk, rfl, rfl, HE, HG, HR, HB⟩ := hrel
      obtain ⟨z0, z1⟩ := run_nonneg HE.out
      by_cases hlt : (k : Int) < n
      · obtain ⟨r, l, i, hx⟩ := get_of_lt HR.out.len (k := k) (by omega)
        obtain ⟨g, rfl, hg, d0, d1, d2⟩ := HR.out.at_ k _ hx
        have HX := Lib.hid hx; clear hx
        obtain ⟨y0, y1⟩ := wd_bounds l
        dsimp only at d0 d1 d2
        by_cases hs : startOf r l i = e0
        · go_wp2_with (first
            | (go_at_call 71; (with_reducible refine (start_is _ _ _ _).mono ?_); rintro e w' ⟨rfl, hgc⟩; have hc1 := ((Cell.laid_new wr 35 r l i).on hgc).c1; have HGC := Lib.hid hgc; clear hgc)
            | (go_at_call 72; (with_reducible refine (width_is _ _).mono ?_); rintro e w' ⟨rfl, rfl⟩))
          go_roundw
          case rel => exact ⟨k + 1, e0 + widthOf l, by omega, by go_num, rfl, Lib.hid ((run_next HX.out HE.out).trans (step_yes hs)), Lib.hid (grown_trans (g_alloc HG.out _) HGC.out), Lib.hid ((HR.out.past _).on HGC.out), Lib.hid ((HB.out.on (World.grownBy_alloc _ _ _)).on HGC.out)⟩
          case measure => simp [intOf]; omega
        · go_wp2_with (first
            | (go_at_call 71; (with_reducible refine (start_is _ _ _ _).mono ?_); rintro e w' ⟨rfl, hgc⟩; have HGC := Lib.hid hgc; clear hgc))
          go_ret
          have hz : run xs = none := run_take_none ((run_next HX.out HE.out).trans (step_no hs))
          exact ⟨by simp [hz], grown_trans (g_alloc HG.out _) HGC.out⟩
      · have hke : k = n := by omega
        subst hke
        have hb0 := HB.out.c0
        go_wp2
        go_ret
        have hz : run xs = some e0 := by rw [← HE.out, ← HR.out.len, List.take_length]
        exact ⟨by simp [hz, beq_dec], HG.out⟩
  · have HM := Lib.hid (show meshOk R xs = false from decide_eq_false (by omega))
    rw [HM.out]
    go_enter Try.func49, Try.ntmps49
    go_wp2
    all_goals
      go_ret
      exact ⟨rfl, g_alloc (grown_refl _) _⟩
end Go.Proofs.Ytaccigmkddomaaa.Mesh

namespace Go.Proofs.Ytaccigmkddomaaa.Mesh
open Go.ChangeShapes Go.WideShapes Go.ChangeAt Go.RowKit Go.Proofs.Ytaccigmkddomaaa.Cell

/-- The values of a row of cells. -/
def flatC (xs : List C3) : List Value := xs.flatMap fun x => [.int .i64 x.1, .int .i64 x.2.1, .int .i64 x.2.2]
theorem flatC_snoc (xs : List C3) (x : C3) : flatC (xs ++ [x]) = flatC xs ++ [.int .i64 x.1, .int .i64 x.2.1, .int .i64 x.2.2] := by simp [flatC]
theorem flatC_len (xs : List C3) : (flatC xs).length = xs.length * 3 := by
  induction xs with
  | nil => rfl
  | cons x xs ih => simp only [flatC, List.flatMap_cons, List.length_append, List.length_cons, List.length_nil] at ih ⊢; omega
theorem flatC_at (xs : List C3) : ∀ (k : Nat) (x : C3), xs[k]? = some x → (flatC xs)[k * 3]? = some (.int .i64 x.1) ∧ (flatC xs)[k * 3 + 1]? = some (.int .i64 x.2.1) ∧ (flatC xs)[k * 3 + 2]? = some (.int .i64 x.2.2) := by
  induction xs with
  | nil => intro k x h; simp at h
  | cons y ys ih =>
    intro k x h
    cases k with
    | zero => simp at h; subst h; exact ⟨rfl, rfl, rfl⟩
    | succ k =>
      have h' : ys[k]? = some x := by simpa using h
      obtain ⟨a, b, c⟩ := ih k x h'
      have e : ∀ j, (flatC (y :: ys))[j + 3]? = (flatC ys)[j]? := fun j => by simp [flatC]
      refine ⟨?_, ?_, ?_⟩
      · rw [show (k + 1) * 3 = k * 3 + 3 by omega, e, a]
      · rw [show (k + 1) * 3 + 1 = (k * 3 + 1) + 3 by omega, e, b]
      · rw [show (k + 1) * 3 + 2 = (k * 3 + 2) + 3 by omega, e, c]

/-- A row of cells that a call owns reads as the list. -/
theorem own_reads {w : World} {base n cap : Nat} {a : Option Addr} {xs : List C3} (h : w.ownsRow base 35 3 (.slice a n cap) n (flatC xs)) : Reads w a n xs := by
  have hlen := h.1
  rw [flatC_len] at hlen
  refine ⟨by omega, fun k x hk => ?_⟩
  have hkl := (List.getElem?_eq_some_iff.1 hk).1
  rcases h.2 with ⟨h', h0⟩ | ⟨g, cap', cur, h', hb, hg, hnc, hcm, hcs, htake⟩
  · omega
  · simp only [Value.slice.injEq] at h'
    obtain ⟨rfl, -, -⟩ := h'
    obtain ⟨f0, f1, f2⟩ := flatC_at xs k x hk
    have hc : ∀ j v, j < n * 3 → (flatC xs)[j]? = some v → w.cell? ⟨g, j, none⟩ = some v := fun j v hj hv => by
      have e : cur[j]? = some v := by
        have : (cur.toList.take (n * 3))[j]? = some v := by rw [htake]; exact hv
        rw [List.getElem?_take_of_lt hj] at this
        simpa using this
      exact (cell_of_row w g j cur _ (0, 0) hg).trans e
    exact ⟨g, rfl, lt_of_block hg, hc _ _ (by omega) f0, hc _ _ (by omega) f1, hc _ _ (by omega) f2⟩

/-- Block B is the mesh's box: the number of roots, the slice of the leaves. -/
def MBox (W : World) (B : Nat) (R : Int) (v : Value) : Prop := W.heap[B]? = some (.cells #[.int .i64 R, v] 26 (0, 0))
variable {W W' w1 : World} {B : Nat} {R : Int} {v : Value}
theorem MBox.lt (h : MBox W B R v) : B < W.heap.size := (Array.getElem?_eq_some_iff.1 h).1
theorem MBox.c0 (h : MBox W B R v) : W.cell? ⟨B, 0, none⟩ = some (.int .i64 R) := by simp [World.cell?, show W.heap[B]? = _ from h]
theorem MBox.c1 (h : MBox W B R v) : W.cell? ⟨B, 1, none⟩ = some v := by simp [World.cell?, show W.heap[B]? = _ from h]
theorem MBox.f0 (h : MBox W B R v) : W.frozen? ⟨B, 0, none⟩ = false := by simp [World.frozen?, show W.heap[B]? = _ from h]
theorem MBox.f1 (h : MBox W B R v) : W.frozen? ⟨B, 1, none⟩ = false := by simp [World.frozen?, show W.heap[B]? = _ from h]
theorem MBox.new (W : World) (R : Int) (v : Value) : MBox (W.alloc (.cells #[.int .i64 R, v] 26)) W.heap.size R v := World.alloc_heap_new W _
theorem MBox.kept {row : Option Nat} (h : MBox W B R v) (hg : W.grownBy W' row) (hne : some B ≠ row) : MBox W' B R v := (hg.block B h.lt hne).trans h
theorem MBox.alloc (h : MBox W B R v) (o : Obj) : MBox (W.alloc o) B R v := h.kept (World.grownBy_alloc W o none) (by simp)
theorem MBox.set1 (h : MBox W B R v) (v' : Value) : MBox (W.setCell ⟨B, 1, none⟩ v') B R v' := heap_setCell_same W B 1 _ _ v' h
theorem MBox.set0 (h : MBox W B R v) (R' : Int) : MBox (W.setCell ⟨B, 0, none⟩ (.int .i64 R')) B R' v := heap_setCell_same W B 0 _ _ _ h
theorem grownBy_setC (W : World) (b j : Nat) (v : Value) : W.grownBy (W.setCell ⟨b, j, none⟩ v) (some b) :=
  ⟨rfl, rfl, rfl, (KeepsWalks.setCell W _ v).size, fun k _ hk => Below.heap_setCell _ _ _ k (fun e => hk (by rw [e]))⟩
theorem MBox.not_row (h : MBox W B R v) {base k : Nat} {u : Value} {xs : List Value} (hr : W.ownsRow base 35 3 u k xs) : some B ≠ u.ownBlock := by
  rcases hr.2 with ⟨rfl, _⟩ | ⟨g, cap, cur, rfl, _, hgb, _⟩
  · simp [Value.ownBlock]
  · intro e'
    obtain rfl : B = g := by simpa [Value.ownBlock] using e'
    have := (show W.heap[B]? = _ from h).symm.trans hgb
    simp at this
/-- The box and its row speak of cells alone. -/
theorem holds_own {β : Type} (n₀ B : Nat) (R : β → Int) (k : β → Nat) (f : β → List Value) : Own (fun s W => ∃ v, MBox W B (R s) v ∧ W.ownsRow n₀ 35 3 v (k s) (f s)) := by
  rintro s X Y row ⟨v, hv, hr⟩ hg hrow
  refine ⟨v, hv.kept hg (fun e' => ?_), hr.kept hg ?_⟩
  · obtain ⟨o, ho, hc⟩ := hrow B e'.symm
    rw [show X.heap[B]? = _ from hv] at ho; cases ho; cases hc
  · rcases hr.2 with ⟨rfl, _⟩ | ⟨g, cap, cur, rfl, _, hgb, _⟩
    · exact .inl rfl
    · refine .inr fun e' => ?_
      obtain ⟨o, ho, hc⟩ := hrow g (by simpa [Value.ownBlock] using e'.symm)
      rw [hgb] at ho; cases ho; cases hc
/-- Whatever block of cells is known whole speaks of cells alone. -/
theorem block_own {β : Type} (B : Nat) (t : TypeId) (f : β → Array Value) : Own (fun s (W : World) => W.heap[B]? = some (.cells (f s) t (0, 0))) := fun s X Y row hs hg hrow =>
  (hg.block B (Array.getElem?_eq_some_iff.1 hs).1 (fun e' => by obtain ⟨o, ho, hc⟩ := hrow B e'.symm; rw [hs] at ho; cases ho; cases hc)).trans hs
/-- A cell in a box. -/
def IBox (W : World) (B : Nat) (x : C3) : Prop := W.heap[B]? = some (.cells #[.int .i64 x.1, .int .i64 x.2.1, .int .i64 x.2.2] 35 (0, 0))
theorem IBox.lt {x : C3} (h : IBox W B x) : B < W.heap.size := (Array.getElem?_eq_some_iff.1 h).1
theorem IBox.c0 {x : C3} (h : IBox W B x) : W.cell? ⟨B, 0, none⟩ = some (.int .i64 x.1) := by simp [World.cell?, show W.heap[B]? = _ from h]
theorem IBox.c1 {x : C3} (h : IBox W B x) : W.cell? ⟨B, 1, none⟩ = some (.int .i64 x.2.1) := by simp [World.cell?, show W.heap[B]? = _ from h]
theorem IBox.c2 {x : C3} (h : IBox W B x) : W.cell? ⟨B, 2, none⟩ = some (.int .i64 x.2.2) := by simp [World.cell?, show W.heap[B]? = _ from h]
theorem IBox.new (W : World) (x : C3) : IBox (W.alloc (.cells #[.int .i64 x.1, .int .i64 x.2.1, .int .i64 x.2.2] 35)) W.heap.size x := World.alloc_heap_new W _
theorem box_own_any {β : Type} (b0 : Nat) (x : C3) (Pa : Nat → Prop) : Own (fun (_ : β) (W : World) => ∃ Bx, b0 < Bx ∧ IBox W Bx x ∧ Pa Bx) := fun s X Y row hs hg hrow => by
  obtain ⟨Bx, h1, h2, h3⟩ := hs
  exact ⟨Bx, h1, block_own Bx _ (fun (_ : Unit) => #[.int .i64 x.1, .int .i64 x.2.1, .int .i64 x.2.2]) () X Y row h2 hg hrow, h3⟩
/-- 'm.Leaves = append(m.Leaves, ..)', what the walk owes behind it. -/
theorem MBox.appended {n₀ k m : Nat} {v' : Value} {xs ys : List Value} {tmp : Obj}
    (hv : MBox W B R v) (hrow : W.ownsRow n₀ 35 3 v k xs) (hn₀ : n₀ ≤ W.heap.size) (hB : n₀ ≤ B)
    (hown' : w1.ownsRow n₀ 35 3 v' m ys) (hgrow : (W.alloc tmp).grownBy w1 v.ownBlock) :
    MBox w1 B R v ∧ MBox (w1.setCell ⟨B, 1, none⟩ v') B R v' ∧ (w1.setCell ⟨B, 1, none⟩ v').ownsRow n₀ 35 3 v' m ys ∧ KeepsOthers W (w1.setCell ⟨B, 1, none⟩ v') ∧ Below n₀ W (w1.setCell ⟨B, 1, none⟩ v')
    ∧ ∀ b, b < W.heap.size → some b ≠ v.ownBlock → b ≠ B → (w1.setCell ⟨B, 1, none⟩ v').heap[b]? = W.heap[b]? := by
  have hv1 : MBox w1 B R v := (hv.alloc tmp).kept hgrow (hv.not_row hrow)
  refine ⟨hv1, hv1.set1 v', hown'.kept (grownBy_setC w1 B 1 v') (.inr (hv1.not_row hown').symm), ?_, ?_, ?_⟩
  · refine ((KeepsOthers.alloc W tmp).trans (KeepsOthers.of_grownBy hgrow fun j o ej hj => ?_)).trans (KeepsOthers.setCell _ _ _)
    rcases (hrow.alloc tmp).2 with ⟨rfl, _⟩ | ⟨g, cap, cur, rfl, _, hgb, _⟩
    · simp [Value.ownBlock] at ej
    · obtain rfl : g = j := by simpa [Value.ownBlock] using ej
      rw [hgb] at hj; cases hj; rfl
  · refine (((Below.refl n₀ W).alloc hn₀ tmp).grown hgrow (by simp; omega) fun j ej => ?_).setCell (p := ⟨B, 1, none⟩) hB v'
    rcases hrow.2 with ⟨rfl, _⟩ | ⟨g, cap, cur, rfl, hb, _, _⟩
    · simp [Value.ownBlock] at ej
    · obtain rfl : g = j := by simpa [Value.ownBlock] using ej
      exact hb
  · intro b hb h1 h2
    exact (Below.heap_setCell _ _ _ b h2).trans ((hgrow.block b (by simp; omega) h1).trans (Below.heap_alloc W _ b hb))
end Go.Proofs.Ytaccigmkddomaaa.Mesh

namespace Go.Proofs.Ytaccigmkddomaaa.Mesh
open Go.ChangeShapes Go.WideShapes Go.ChangeAt Go.RowKit Go.Proofs.Ytaccigmkddomaaa.Cell

/-- The place of the first element for which p holds, or -1. -/
def idx (p : C3 → Bool) (xs : List C3) : Int := if xs.findIdx p < xs.length then (xs.findIdx p : Int) else -1
theorem idx_hit {p : C3 → Bool} {xs : List C3} {k : Nat} {x : C3} (hx : xs[k]? = some x) (hp : p x = true) (hn : ∀ j y, j < k → xs[j]? = some y → p y = false) : idx p xs = k := by
  obtain ⟨hk, rfl⟩ := List.getElem?_eq_some_iff.1 hx
  have h : xs.findIdx p = k := (List.findIdx_eq hk).2 ⟨hp, fun j hj => hn j _ hj (List.getElem?_eq_getElem (by omega))⟩
  unfold idx
  rw [h, if_pos hk]
theorem idx_none {p : C3 → Bool} {xs : List C3} (hn : ∀ (j : Nat) y, xs[j]? = some y → p y = false) : idx p xs = -1 := by
  have h : xs.findIdx p = xs.length := List.findIdx_eq_length.2 (fun x hx => by
    obtain ⟨j, hj⟩ := List.getElem?_of_mem hx
    rw [hn j x hj])
  unfold idx
  rw [h, if_neg (by omega)]

def inB (pos : Int) (x : C3) : Bool := decide (stOf x ≤ pos ∧ pos < stOf x + wdOf x)
def leafAt (R : Int) (xs : List C3) (pos : Int) : Int := if meshOk R xs then idx (inB pos) xs else -1
def leafOf (xs : List C3) (x : C3) : Int := idx (fun y => decide (y = x)) xs
def deepOf (xs : List C3) : Int := xs.foldl (fun m x => max m x.2.1) 0
def deepest (R : Int) (xs : List C3) : Int := if meshOk R xs then deepOf xs else -1

theorem max_if (d l : Int) : (if d < l then l else d) = max d l := by split <;> omega
theorem cases3 (a b c a' b' c' : Int) : ((a, b, c) = (a', b', c') ∧ (a == a') = true ∧ (b == b') = true ∧ (c == c') = true) ∨ ((a, b, c) ≠ (a', b', c') ∧ ((a == a') = false ∨ ((a == a') = true ∧ (b == b') = false) ∨ ((a == a') = true ∧ (b == b') = true ∧ (c == c') = false))) := by
  by_cases ha : a = a' <;> by_cases hb : b = b' <;> by_cases hc : c = c' <;> simp [ha, hb, hc]
theorem snoc_false {p : C3 → Bool} {xs : List C3} {k : Nat} {x : C3} (hn : ∀ (j : Nat) y, j < k → xs[j]? = some y → p y = false) (hx : xs[k]? = some x) (hp : p x = false) : ∀ (j : Nat) y, j < k + 1 → xs[j]? = some y → p y = false := by
  intro j y hj hy
  by_cases h : j < k
  · exact hn j y h hy
  · obtain rfl : j = k := by omega
    rw [hx] at hy; cases hy; exact hp
theorem all_false {p : C3 → Bool} {xs : List C3} {k : Nat} (hn : ∀ (j : Nat) y, j < k → xs[j]? = some y → p y = false) (hk : xs.length ≤ k) : ∀ (j : Nat) y, xs[j]? = some y → p y = false := by
  intro j y hy
  have := (List.getElem?_eq_some_iff.1 hy).1
  exact hn j y (by omega) hy
theorem st_bounds (r l i : Int) : -1 ≤ startOf r l i ∧ startOf r l i ≤ 128 := by
  by_cases h : okId r l i = true
  · obtain ⟨b1, b2, b3, b4, b5, b6, b7, b8, b9⟩ := ok_bounds' h
    omega
  · have e : startOf r l i = -1 := if_neg h
    omega

end Go.Proofs.Ytaccigmkddomaaa.Mesh

namespace Go.Proofs.Ytaccigmkddomaaa.Mesh
open Go.ChangeShapes Go.WideShapes Go.ChangeAt Go.RowKit Go.Proofs.Ytaccigmkddomaaa.Cell

/-- A cell's child. -/
def kidOf (x : C3) (s : Int) : C3 := (x.1, x.2.1 + 1, 2 * x.2.2 + s)
theorem kidOf_ok {x : C3} {s : Int} (h : okOf x = true) (hl : x.2.1 < 4) (hs : s = 0 ∨ s = 1) : okOf (kidOf x s) = true ∧ stOf (kidOf x s) = stOf x + s * wdOf (kidOf x s) ∧ wdOf x = 2 * wdOf (kidOf x s) := by
  obtain ⟨r, l, i⟩ := x
  obtain ⟨h0, h1, h2, h3, h4, h5⟩ := of_ok (show okId r l i = true from h)
  have hk : okId r (l + 1) (2 * i + s) = true := by
    apply ok_true
    dsimp only at hl
    rcases (show l = 0 ∨ l = 1 ∨ l = 2 ∨ l = 3 by omega) with rfl | rfl | rfl | rfl
    all_goals
      simp at h5 ⊢
      omega
  refine ⟨hk, ?_, ?_⟩
  · show startOf r (l + 1) (2 * i + s) = startOf r l i + s * widthOf (l + 1)
    rw [show startOf r l i = r * 16 + i * widthOf l from if_pos h, show startOf r (l + 1) (2 * i + s) = r * 16 + (2 * i + s) * widthOf (l + 1) from if_pos hk]
    dsimp only at hl
    rcases (show l = 0 ∨ l = 1 ∨ l = 2 ∨ l = 3 by omega) with rfl | rfl | rfl | rfl
    all_goals
      simp [widthOf]
      try omega
  · show widthOf l = 2 * widthOf (l + 1)
    dsimp only at hl
    rcases (show l = 0 ∨ l = 1 ∨ l = 2 ∨ l = 3 by omega) with rfl | rfl | rfl | rfl
    all_goals rfl

/-- The k-th leaf replaced by its children. -/
def split2 (xs : List C3) (k : Nat) : List C3 :=
  match xs[k]? with
  | some x => xs.take k ++ [kidOf x 0, kidOf x 1] ++ xs.drop (k + 1)
  | none => xs
theorem split2_of {xs : List C3} {k : Nat} {x : C3} (hx : xs[k]? = some x) : split2 xs k = xs.take k ++ [kidOf x 0, kidOf x 1] ++ xs.drop (k + 1) := by simp [split2, hx]
theorem cut_at {xs : List C3} {k : Nat} {x : C3} (hx : xs[k]? = some x) : xs = xs.take k ++ [x] ++ xs.drop (k + 1) := by
  rw [← take_snoc hx, List.take_append_drop]
theorem split2_len {xs : List C3} {k : Nat} {x : C3} (hx : xs[k]? = some x) : (split2 xs k).length = xs.length + 1 := by
  have hk := (List.getElem?_eq_some_iff.1 hx).1
  rw [split2_of hx]
  simp
  omega
theorem run_split {xs : List C3} {k : Nat} {x : C3} {e : Int} (hx : xs[k]? = some x) (ho : okOf x = true) (hl : x.2.1 < 4) (hr : run xs = some e) : run (split2 xs k) = some e := by
  obtain ⟨-, s0, w0⟩ := kidOf_ok ho hl (.inl rfl)
  obtain ⟨-, s1, w1⟩ := kidOf_ok ho hl (.inr rfl)
  have hw : wdOf (kidOf x 0) = wdOf (kidOf x 1) := rfl
  rw [split2_of hx]
  have h2 := hr
  rw [cut_at hx] at h2
  unfold run at h2 ⊢
  rw [List.foldl_append, List.foldl_append] at h2 ⊢
  rw [← h2]
  congr 1
  cases h : (xs.take k).foldl step (some 0) with
  | none => rfl
  | some e0 =>
    by_cases hs : stOf x = e0
    · rw [List.foldl_cons, List.foldl_cons, List.foldl_nil, List.foldl_cons, List.foldl_nil, step_yes hs, step_yes (show stOf (kidOf x 0) = e0 by omega), step_yes (show stOf (kidOf x 1) = e0 + wdOf (kidOf x 0) by omega)]
      congr 1
      omega
    · rw [h] at h2
      rw [List.foldl_cons, List.foldl_nil, step_no hs, fold_none] at h2
      cases h2
theorem meshOk_split {R : Int} {xs : List C3} {k : Nat} {x : C3} (hx : xs[k]? = some x) (hl : x.2.1 < 4) (h : meshOk R xs = true) : meshOk R (split2 xs k) = true := by
  obtain ⟨h1, h2, h3⟩ : 1 ≤ R ∧ R ≤ 8 ∧ run xs = some (R * 16) := of_decide_eq_true h
  have ho := (run_bounds _ h3).2.2 x (List.mem_of_getElem? hx)
  exact decide_eq_true ⟨h1, h2, run_split hx ho hl h3⟩

/-- A face whose levels differ by more than one. -/
def gap (x y : C3) : Bool := decide (1 < x.2.1 - y.2.1 ∨ x.2.1 - y.2.1 < -1)
def gapAt (xs : List C3) (i : Nat) : Bool := match xs[i]?, xs[i + 1]? with
  | some x, some y => gap x y
  | _, _ => false
theorem gapAt_of {xs : List C3} {i : Nat} {x y : C3} (hx : xs[i]? = some x) (hy : xs[i + 1]? = some y) : gapAt xs i = gap x y := by simp [gapAt, hx, hy]
theorem gapAt_out {xs : List C3} {i : Nat} (h : xs.length ≤ i + 1) : gapAt xs i = false := by
  unfold gapAt
  rw [List.getElem?_eq_none (show xs.length ≤ i + 1 from h)]
  split <;> simp_all
theorem gapAt_in {xs : List C3} {i : Nat} (h : gapAt xs i = true) : ∃ x y, xs[i]? = some x ∧ xs[i + 1]? = some y ∧ gap x y = true := by
  unfold gapAt at h
  split at h
  · exact ⟨_, _, by assumption, by assumption, h⟩
  · cases h
/-- The first of them, or -1. -/
def firstGap (xs : List C3) : Int := match (List.range xs.length).find? (gapAt xs) with
  | some i => i
  | none => -1
theorem first_hit {xs : List C3} {k : Nat} (h : gapAt xs k = true) (hn : ∀ j, j < k → gapAt xs j = false) : firstGap xs = k := by
  have hk : k < xs.length := by
    obtain ⟨x, y, hx, -, -⟩ := gapAt_in h
    exact (List.getElem?_eq_some_iff.1 hx).1
  have hf : (List.range xs.length).find? (gapAt xs) = some k := by
    rw [List.find?_eq_some_iff_getElem]
    refine ⟨h, k, by simpa using hk, by simp, fun j hj => ?_⟩
    simp [hn j hj]
  unfold firstGap
  rw [hf]
theorem first_none {xs : List C3} (hn : ∀ j, gapAt xs j = false) : firstGap xs = -1 := by
  have hf : (List.range xs.length).find? (gapAt xs) = none := by
    rw [List.find?_eq_none]
    intro j _
    simp [hn j]
  unfold firstGap
  rw [hf]
theorem first_cases (xs : List C3) : (firstGap xs = -1 ∧ ∀ j, gapAt xs j = false) ∨ ∃ k : Nat, firstGap xs = k ∧ gapAt xs k = true ∧ ∀ j, j < k → gapAt xs j = false := by
  by_cases h : ∃ k, gapAt xs k = true
  · obtain ⟨k, hk, hn⟩ : ∃ k, gapAt xs k = true ∧ ∀ j, j < k → gapAt xs j = false := by
      obtain ⟨k, hk⟩ := h
      induction k using Nat.strongRecOn with
      | _ k ih =>
        by_cases h2 : ∃ j, j < k ∧ gapAt xs j = true
        · obtain ⟨j, hj, hg⟩ := h2
          exact ih j hj hg
        · exact ⟨k, hk, fun j hj => by
            cases hg : gapAt xs j with
            | false => rfl
            | true => exact absurd ⟨j, hj, hg⟩ h2⟩
    exact .inr ⟨k, first_hit hk hn, hk, hn⟩
  · have hn : ∀ j, gapAt xs j = false := fun j => by
      cases hg : gapAt xs j with
      | false => rfl
      | true => exact absurd ⟨j, hg⟩ h
    exact .inl ⟨first_none hn, hn⟩
/-- The coarser leaf of a face. -/
def coarser (xs : List C3) (i : Nat) : Nat := match xs[i]?, xs[i + 1]? with
  | some x, some y => if y.2.1 < x.2.1 then i + 1 else i
  | _, _ => i
/-- The coarser leaf of a face that is not balanced can be refined, and its neighbour lies deeper. -/
theorem coarser_ok {xs : List C3} {i : Nat} (h : gapAt xs i = true) (hok : ∀ (j : Nat) x, xs[j]? = some x → okOf x = true) :
    ∃ x, xs[coarser xs i]? = some x ∧ x.2.1 < 3 := by
  obtain ⟨x, y, hx, hy, hg⟩ := gapAt_in h
  have hg' : 1 < x.2.1 - y.2.1 ∨ x.2.1 - y.2.1 < -1 := of_decide_eq_true hg
  obtain ⟨-, -, a0, a1, -⟩ := ok_bounds (hok _ _ hx)
  obtain ⟨-, -, b0, b1, -⟩ := ok_bounds (hok _ _ hy)
  unfold coarser
  rw [hx, hy]
  dsimp only
  split
  · exact ⟨y, hy, by omega⟩
  · exact ⟨x, hx, by omega⟩
/-- One refinement at the first face; the balanced mesh. -/
def balStep (xs : List C3) : List C3 := split2 xs (coarser xs (firstGap xs).toNat)
def bal : Nat → List C3 → List C3
  | 0, xs => xs
  | f + 1, xs => if firstGap xs < 0 then xs else bal f (balStep xs)
theorem bal_done {xs : List C3} (h : firstGap xs < 0) : ∀ f, bal f xs = xs
  | 0 => rfl
  | _ + 1 => if_pos h
theorem bal_next {xs : List C3} (h : ¬ firstGap xs < 0) (f : Nat) : bal (f + 1) xs = bal f (balStep xs) := if_neg h
theorem step_ok {R : Int} {xs : List C3} (h : meshOk R xs = true) (hg : ¬ firstGap xs < 0) : meshOk R (balStep xs) = true ∧ (balStep xs).length = xs.length + 1 := by
  obtain ⟨h1, h2, h3⟩ : 1 ≤ R ∧ R ≤ 8 ∧ run xs = some (R * 16) := of_decide_eq_true h
  have hok : ∀ (j : Nat) x, xs[j]? = some x → okOf x = true := fun j x hx => (run_bounds _ h3).2.2 x (List.mem_of_getElem? hx)
  rcases first_cases xs with ⟨e, -⟩ | ⟨k, e, hk, -⟩
  · omega
  · obtain ⟨x, hx, hl⟩ := coarser_ok hk hok
    have he : (firstGap xs).toNat = k := by omega
    unfold balStep
    rw [he]
    exact ⟨meshOk_split hx (by omega) h, split2_len hx⟩
/-- It is reached: no more than 128 leaves. -/
theorem bal_ok {R : Int} : ∀ (f : Nat) (xs : List C3), meshOk R xs = true → 128 ≤ f + xs.length → meshOk R (bal f xs) = true ∧ firstGap (bal f xs) = -1
  | 0, xs, h, hf => by
    refine ⟨h, ?_⟩
    by_cases hg : firstGap xs < 0
    · rcases first_cases xs with ⟨e, -⟩ | ⟨k, e, -⟩
      · exact e
      · omega
    · obtain ⟨q1, q2⟩ := step_ok h hg
      obtain ⟨-, -, h3⟩ : 1 ≤ R ∧ R ≤ 8 ∧ run (balStep xs) = some (R * 16) := of_decide_eq_true q1
      have := run_bounds _ h3
      omega
  | f + 1, xs, h, hf => by
    by_cases hg : firstGap xs < 0
    · rw [bal_done hg]
      refine ⟨h, ?_⟩
      rcases first_cases xs with ⟨e, -⟩ | ⟨k, e, -⟩
      · exact e
      · omega
    · rw [bal_next hg]
      obtain ⟨q1, q2⟩ := step_ok h hg
      exact bal_ok f _ q1 (by omega)
/-- The answer of Balance. -/
def balOf (R : Int) (xs : List C3) : List C3 := if meshOk R xs then bal 128 xs else xs
theorem balOf_ok {R : Int} {xs : List C3} (h : meshOk R xs = true) : meshOk R (balOf R xs) = true ∧ firstGap (balOf R xs) = -1 := by
  rw [show balOf R xs = bal 128 xs from if_pos h]
  exact bal_ok 128 xs h (by omega)
theorem balOf_again {R : Int} {xs : List C3} (h : meshOk R xs = true) : balOf R (balOf R xs) = balOf R xs := by
  obtain ⟨h1, h2⟩ := balOf_ok h
  rw [show balOf R (balOf R xs) = bal 128 (balOf R xs) from if_pos h1, bal_done (by omega)]

/-- What lies in a cell. -/
def Within (x y : C3) : Prop := stOf x ≤ stOf y ∧ stOf y + wdOf y ≤ stOf x + wdOf x
theorem within_refl (x : C3) : Within x x := ⟨Int.le_refl _, Int.le_refl _⟩
theorem Within.trans {x y z : C3} (h : Within x y) (k : Within y z) : Within x z := ⟨Int.le_trans h.1 k.1, Int.le_trans k.2 h.2⟩
theorem kid_within {x : C3} {s : Int} (ho : okOf x = true) (hl : x.2.1 < 4) (hs : s = 0 ∨ s = 1) : Within x (kidOf x s) := by
  obtain ⟨k0, s0, w0⟩ := kidOf_ok ho hl hs
  have hp := (ok_bounds k0).2.2.2.2.2.1
  rcases hs with rfl | rfl
  · exact ⟨by omega, by omega⟩
  · exact ⟨by omega, by omega⟩
theorem mem_split {xs : List C3} {k : Nat} {x y : C3} (hx : xs[k]? = some x) (hy : y ∈ split2 xs k) : y ∈ xs ∨ y = kidOf x 0 ∨ y = kidOf x 1 := by
  rw [split2_of hx] at hy
  simp only [List.mem_append, List.mem_cons, List.not_mem_nil, or_false] at hy
  rcases hy with (h | h) | h
  · exact .inl (List.mem_of_mem_take h)
  · exact .inr h
  · exact .inl (List.mem_of_mem_drop h)
theorem mem_of_split {xs : List C3} {k : Nat} {x y : C3} (hx : xs[k]? = some x) (hy : y ∈ xs) : y = x ∨ y ∈ split2 xs k := by
  rw [cut_at hx] at hy
  rw [split2_of hx]
  simp only [List.mem_append, List.mem_cons, List.not_mem_nil, or_false] at hy ⊢
  rcases hy with (h | h) | h
  · exact .inr (.inl (.inl h))
  · exact .inl h
  · exact .inr (.inr h)
/-- One refinement, in one sentence. -/
theorem step_at {R : Int} {xs : List C3} (h : meshOk R xs = true) (hg : ¬ firstGap xs < 0) : ∃ (k : Nat) (x y : C3), xs[k]? = some x ∧ okOf x = true ∧ x.2.1 < 3 ∧ y ∈ xs ∧ x.2.1 + 1 < y.2.1 ∧ balStep xs = split2 xs k := by
  obtain ⟨h1, h2, h3⟩ : 1 ≤ R ∧ R ≤ 8 ∧ run xs = some (R * 16) := of_decide_eq_true h
  have hok : ∀ (j : Nat) x, xs[j]? = some x → okOf x = true := fun j x hx => (run_bounds _ h3).2.2 x (List.mem_of_getElem? hx)
  rcases first_cases xs with ⟨e, -⟩ | ⟨k, e, hk, -⟩
  · omega
  · obtain ⟨x, y, hx, hy, hgp⟩ := gapAt_in hk
    have hg' : 1 < x.2.1 - y.2.1 ∨ x.2.1 - y.2.1 < -1 := of_decide_eq_true hgp
    obtain ⟨-, -, a0, a1, -⟩ := ok_bounds (hok _ _ hx)
    obtain ⟨-, -, c0, c1, -⟩ := ok_bounds (hok _ _ hy)
    have he : (firstGap xs).toNat = k := by omega
    have hb : balStep xs = split2 xs (coarser xs k) := by unfold balStep; rw [he]
    have hc : coarser xs k = if y.2.1 < x.2.1 then k + 1 else k := by unfold coarser; rw [hx, hy]
    rw [hb, hc]
    split
    · exact ⟨k + 1, y, x, hy, hok _ _ hy, by omega, List.mem_of_getElem? hx, by omega, rfl⟩
    · exact ⟨k, x, y, hx, hok _ _ hx, by omega, List.mem_of_getElem? hy, by omega, rfl⟩
/-- Each leaf of the balanced mesh lies in a leaf of the mesh. -/
theorem bal_within {R : Int} : ∀ (f : Nat) (xs : List C3), meshOk R xs = true → ∀ y ∈ bal f xs, ∃ x ∈ xs, Within x y
  | 0, _, _, y, hy => ⟨y, hy, within_refl y⟩
  | f + 1, xs, h, y, hy => by
    by_cases hg : firstGap xs < 0
    · rw [bal_done hg] at hy
      exact ⟨y, hy, within_refl y⟩
    · rw [bal_next hg] at hy
      obtain ⟨z, hz, hzy⟩ := bal_within f _ (step_ok h hg).1 y hy
      obtain ⟨k, x, -, hx, ho, hl, -, -, hb⟩ := step_at h hg
      rw [hb] at hz
      rcases mem_split hx hz with hm | rfl | rfl
      · exact ⟨z, hm, hzy⟩
      · exact ⟨x, List.mem_of_getElem? hx, (kid_within ho (by omega) (.inl rfl)).trans hzy⟩
      · exact ⟨x, List.mem_of_getElem? hx, (kid_within ho (by omega) (.inr rfl)).trans hzy⟩
theorem deep_fold (xs : List C3) : ∀ m : Int, m ≤ xs.foldl (fun m x => max m x.2.1) m ∧ (∀ x ∈ xs, x.2.1 ≤ xs.foldl (fun m x => max m x.2.1) m) ∧ (xs.foldl (fun m x => max m x.2.1) m = m ∨ ∃ x ∈ xs, xs.foldl (fun m x => max m x.2.1) m = x.2.1) := by
  induction xs with
  | nil => intro m; simp
  | cons x xs ih =>
    intro m
    obtain ⟨a, b, c⟩ := ih (max m x.2.1)
    rw [List.foldl_cons]
    refine ⟨by omega, fun y hy => ?_, ?_⟩
    · rcases List.mem_cons.1 hy with rfl | hy
      · omega
      · exact b y hy
    · rcases c with c | ⟨y, hy, c⟩
      · rw [c]
        by_cases hm : x.2.1 ≤ m
        · exact .inl (by omega)
        · exact .inr ⟨x, List.mem_cons_self, by omega⟩
      · exact .inr ⟨y, List.mem_cons_of_mem _ hy, c⟩
theorem deep_ge {xs : List C3} {x : C3} (h : x ∈ xs) : x.2.1 ≤ deepOf xs := (deep_fold xs 0).2.1 x h
theorem deep_le {xs : List C3} {m : Int} (h0 : 0 ≤ m) (h : ∀ x ∈ xs, x.2.1 ≤ m) : deepOf xs ≤ m := by
  rcases (deep_fold xs 0).2.2 with e | ⟨x, hx, e⟩
  · rw [show deepOf xs = 0 from e]; exact h0
  · rw [show deepOf xs = x.2.1 from e]; exact h x hx
theorem deep_step {R : Int} {xs : List C3} (h : meshOk R xs = true) (hg : ¬ firstGap xs < 0) : deepOf (balStep xs) = deepOf xs := by
  obtain ⟨k, x, y, hx, ho, hl, hy, hxy, hb⟩ := step_at h hg
  have hx0 := (ok_bounds ho).2.2.1
  have hyd := deep_ge hy
  have h0 : 0 ≤ deepOf xs := by omega
  rw [hb]
  have hle : deepOf (split2 xs k) ≤ deepOf xs := deep_le h0 fun z hz => by
    rcases mem_split hx hz with hm | rfl | rfl
    · exact deep_ge hm
    · show x.2.1 + 1 ≤ _; omega
    · show x.2.1 + 1 ≤ _; omega
  have hys : y ∈ split2 xs k := by
    rcases mem_of_split hx hy with rfl | hm
    · omega
    · exact hm
  have h1 := deep_ge hys
  have hge : deepOf xs ≤ deepOf (split2 xs k) := deep_le (by omega) fun z hz => by
    rcases mem_of_split hx hz with rfl | hm
    · omega
    · exact deep_ge hm
  omega
theorem bal_deep {R : Int} : ∀ (f : Nat) (xs : List C3), meshOk R xs = true → deepOf (bal f xs) = deepOf xs
  | 0, _, _ => rfl
  | f + 1, xs, h => by
    by_cases hg : firstGap xs < 0
    · rw [bal_done hg]
    · rw [bal_next hg, bal_deep f _ (step_ok h hg).1, deep_step h hg]
end Go.Proofs.Ytaccigmkddomaaa.Mesh
