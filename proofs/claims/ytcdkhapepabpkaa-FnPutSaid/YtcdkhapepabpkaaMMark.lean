/- Meshes: the exact laws' helpers markMesh and heldMesh, as contracts: a row of the call's own is marked; the marks are held.
   Conditions: at most 2^20 leaves. -/
import Derived.Test.YtcdkhapepabpkaaMBox
import Derived.Test.YtcdkhapepabpkaaMLaw
set_option maxRecDepth 100000
namespace Go.Proofs.Ytcdkhapepabpkaa.Mesh
open Go.ChangeShapes Go.WideShapes Go.ChangeAt Go.RowKit Go.Proofs.Ytcdkhapepabpkaa.Cell

/-- The marks, as cells. -/
def marks (n : Nat) : List C3 := (List.range n).map fun k : Nat => ((1 + 3 * k : Nat), (2 + 3 * k : Nat), (3 + 3 * k : Nat))
theorem marks_len (n : Nat) : (marks n).length = n := by simp [marks]
theorem marks_at {n k : Nat} (h : k < n) : (marks n)[k]? = some (((1 + 3 * k : Nat) : Int), ((2 + 3 * k : Nat) : Int), ((3 + 3 * k : Nat) : Int)) := by simp [marks, h]
theorem marked_eq {n : Nat} {ys : List Value} (hl : ys.length = n * 3) (h : ∀ j, j < n * 3 → ys[j]? = some (.int .i64 (1 + j : Nat))) : ys = flatC (marks n) := by
  refine List.ext_getElem? fun j => ?_
  by_cases hj : j < n * 3
  · have hk : j / 3 < n := by omega
    obtain ⟨a, b, c⟩ := flatC_at (marks n) (j / 3) _ (marks_at hk)
    rw [h j hj]
    rcases (show j = j / 3 * 3 ∨ j = j / 3 * 3 + 1 ∨ j = j / 3 * 3 + 2 by omega) with e | e | e
    · rw [e, a, ← e]; congr 3; omega
    · rw [e, b, ← e]; congr 3; omega
    · rw [e, c, ← e]; congr 3; omega
  · rw [List.getElem?_eq_none (by omega), List.getElem?_eq_none (by rw [flatC_len, marks_len]; omega)]

/-- Marked so far. -/
def Upto (k : Nat) (ys : List Value) : Prop := ∀ j, j < k * 3 → ys[j]? = some (.int .i64 (1 + j : Nat))
theorem Upto.next {n k : Nat} {ys : List Value} (h : Upto k ys) (hl : ys.length = n * 3) (hk : k < n) :
    Upto (k + 1) (((ys.set (k * 3) (.int .i64 (1 + 3 * k : Nat))).set (k * 3 + 1) (.int .i64 (2 + 3 * k : Nat))).set (k * 3 + 2) (.int .i64 (3 + 3 * k : Nat))) := by
  intro j hj
  rcases (show j < k * 3 ∨ j = k * 3 ∨ j = k * 3 + 1 ∨ j = k * 3 + 2 by omega) with e | rfl | rfl | rfl
  · rw [List.getElem?_set_ne (by omega), List.getElem?_set_ne (by omega), List.getElem?_set_ne (by omega)]; exact h j e
  · rw [List.getElem?_set_ne (by omega), List.getElem?_set_ne (by omega), List.getElem?_set_self (by omega)]; congr 3; omega
  · rw [List.getElem?_set_ne (by omega), List.getElem?_set_self (by simp; omega)]; congr 3; omega
  · rw [List.getElem?_set_self (by simp; omega)]; congr 3; omega
theorem grown_on {a b c : World} {row : Option Nat} (h : a.grownBy b row) (k : b.grownBy c row) : a.grownBy c row :=
  ⟨k.os.trans h.os, k.tape.trans h.tape, k.output.trans h.output, Nat.le_trans h.size k.size, fun i hi hne => (k.block i (Nat.lt_of_lt_of_le hi h.size) hne).trans (h.block i hi hne)⟩
theorem own_at {w : World} {base : Nat} {a : Option Addr} {n cap : Nat} {xs : List Value} (h : w.ownsRow base 36 3 (.slice a n cap) n xs) (hn : 0 < n) :
    ∃ g, a = some ⟨g, 0, none⟩ ∧ (∀ j, j < n * 3 → w.cell? ⟨g, j, none⟩ = xs[j]?) ∧ ∀ j, w.frozen? ⟨g, j, none⟩ = false := by
  obtain ⟨g, cap', hv, hb, hlt⟩ := h.form hn
  simp only [Value.slice.injEq] at hv
  obtain ⟨rfl, _, rfl⟩ := hv
  exact ⟨g, rfl, fun j hj => h.cellAt j hj, fun j => h.frozenAt j⟩

def MarkPost (base n : Nat) (a : Option Addr) (cap : Nat) (w : World) (e : Ending) (w' : World) : Prop :=
  e = .returned (.int .i64 (1 + 3 * n : Nat)) ∧ w'.ownsRow base 36 3 (.slice a n cap) n (flatC (marks n)) ∧ w.grownBy w' (Value.slice a n cap).ownBlock

theorem some_of_lt {ys : List Value} {j : Nat} (h : j < ys.length) : ∃ z, ys[j]? = some z := ⟨_, List.getElem?_eq_getElem h⟩

set_option maxHeartbeats 2000000 in
theorem markS_is {base n cap : Nat} {a : Option Addr} {xs : List Value} {w : World} (hn : n ≤ 1048576) (hown : w.ownsRow base 36 3 (.slice a n cap) n xs) :
    Calls Try.prog 58 #[.slice a n cap, .int .i64 1] w (MarkPost base n a cap w) := by
  have hni : (n : Int) ≤ 1048576 := by omega
  have HN := Lib.hid hn; clear hn
  have HO := Lib.hid hown; clear hown
  go_enter Try.func58, Try.ntmps58
  go_wp2_with fail
  go_loopw [1, 5] (fun q i wr => ∃ k r : Nat, (k : Int) ≤ n ∧ i = .int .i64 k ∧ q = .int .i64 r ∧ Hid (r = 1 + 3 * k) ∧ Hid (∃ ys, wr.ownsRow base 36 3 (.slice a n cap) n ys ∧ Upto k ys) ∧ Hid (w.grownBy wr (Value.slice a n cap).ownBlock)) (fun _ i _ => n - (intOf i).toNat)
  case atStart => exact ⟨0, 1, by omega, rfl, rfl, Lib.hid rfl, Lib.hid ⟨xs, HO.out, fun j hj => by omega⟩, Lib.hid ⟨rfl, rfl, rfl, Nat.le_refl _, fun _ _ _ => rfl⟩⟩
  case round =>
    obtain ⟨k, r, hk, rfl, rfl, HR, HY, HG⟩ := hrel
    by_cases hlt : (k : Int) < n
    · have HK := Lib.hid (show k < n by omega)
      have hr2 : (r : Int) ≤ 3145730 := by have := HR.out; omega
      obtain ⟨ys, hys, hms⟩ := HY.out
      obtain ⟨g, ha, hc, hf⟩ := own_at hys (by omega)
      subst ha
      have hyl : ys.length = n * 3 := hys.1
      obtain ⟨z0, e0⟩ := some_of_lt (ys := ys) (j := k * 3) (by omega)
      obtain ⟨z1, e1⟩ := some_of_lt (ys := ys) (j := k * 3 + 1) (by omega)
      obtain ⟨z2, e2⟩ := some_of_lt (ys := ys) (j := k * 3 + 2) (by omega)
      have d0 := (hc (k * 3) (by omega)).trans e0
      have d1 := (hc (k * 3 + 1) (by omega)).trans e1
      have d2 := (hc (k * 3 + 2) (by omega)).trans e2
      have f0 := hf (k * 3)
      have f1 := hf (k * 3 + 1)
      have f2 := hf (k * 3 + 2)
      have HYS := Lib.hid hys
      have HMS := Lib.hid (hms.next hyl HK.out)
      clear hys hms hc hf hyl e0 e1 e2
      go_wp2_with fail
      go_roundw
      case rel =>
        have s1 := HYS.out.stored (k * 3) (.int .i64 (r : Int))
        have s2 := s1.1.stored (k * 3 + 1) (.int .i64 ((r : Int) + 1))
        have s3 := s2.1.stored (k * 3 + 2) (.int .i64 ((r : Int) + 1 + 1))
        refine ⟨k + 1, r + 3, by omega, by go_num, by go_num, Lib.hid (by have := HR.out; omega), Lib.hid ⟨_, s3.1, ?_⟩, Lib.hid (grown_on (grown_on (grown_on HG.out s1.2) s2.2) s3.2)⟩
        have h := HMS.out
        have hr := HR.out
        rw [show ((1 + 3 * k : Nat) : Int) = (r : Int) by omega, show ((2 + 3 * k : Nat) : Int) = (r : Int) + 1 by omega, show ((3 + 3 * k : Nat) : Int) = (r : Int) + 1 + 1 by omega] at h
        exact h
      case measure => simp [intOf]; omega
    · obtain rfl : k = n := by omega
      go_wp2_with fail
      go_ret
      obtain ⟨ys, hys, hms⟩ := HY.out
      exact ⟨by rw [HR.out]; rfl, (marked_eq hys.1 hms) ▸ hys, HG.out⟩

def HeldPost (n : Nat) (w : World) (e : Ending) (w' : World) : Prop := e = .returned (.int .i64 (1 + 3 * n : Nat)) ∧ w' = w

set_option maxHeartbeats 2000000 in
theorem heldS_is {n cap : Nat} {a : Option Addr} {w : World} (hn : n ≤ 1048576) (hr : Reads w a n (marks n)) :
    Calls Try.prog 74 #[.slice a n cap, .int .i64 1] w (HeldPost n w) := by
  have hni : (n : Int) ≤ 1048576 := by omega
  have HN := Lib.hid hn; clear hn
  have HO := Lib.hid hr; clear hr
  go_enter Try.func74, Try.ntmps74
  go_wp2_with fail
  go_loopw [1, 5] (fun q i wr => ∃ k r : Nat, (k : Int) ≤ n ∧ i = .int .i64 k ∧ q = .int .i64 r ∧ Hid (r = 1 + 3 * k) ∧ wr = w) (fun _ i _ => n - (intOf i).toNat)
  case atStart => exact ⟨0, 1, by omega, rfl, rfl, Lib.hid rfl, rfl⟩
  case round =>
    obtain ⟨k, r, hk, rfl, rfl, HR, rfl⟩ := hrel
    by_cases hlt : (k : Int) < n
    · have hr2 : (r : Int) ≤ 3145730 := by have := HR.out; omega
      obtain ⟨g, ha, -, d0, d1, d2⟩ := HO.out.at_ k _ (marks_at (by omega))
      subst ha
      have hr := HR.out
      dsimp only at d0 d1 d2
      rw [show ((1 + 3 * k : Nat) : Int) = (r : Int) by omega] at d0
      rw [show ((2 + 3 * k : Nat) : Int) = (r : Int) + 1 by omega] at d1
      rw [show ((3 + 3 * k : Nat) : Int) = (r : Int) + 1 + 1 by omega] at d2
      clear hr
      go_wp2_with fail
      go_roundw
      case rel => exact ⟨k + 1, r + 3, by omega, by go_num, by go_num, Lib.hid (by have := HR.out; omega), trivial⟩
      case measure => simp [intOf]; omega
    · obtain rfl : k = n := by omega
      go_wp2_with fail
      go_ret
      exact ⟨by rw [HR.out]; rfl, rfl⟩

theorem mark_is {base n cap : Nat} {a : Option Addr} {xs : List Value} (R : Int) {w : World} (hn : n ≤ 1048576) (hown : w.ownsRow base 36 3 (.slice a n cap) n xs) :
    Calls Try.prog 29 #[.agg #[.int .i64 R, .slice a n cap], .int .i64 1] w (MarkPost base n a cap w) := by
  have HN := Lib.hid hn; clear hn
  have HO := Lib.hid hown; clear hown
  go_enter Try.func29, Try.ntmps29
  go_wp2_with (go_at_call 58; (with_reducible refine (markS_is HN.out (HO.out.alloc _)).mono ?_); rintro e w' ⟨rfl, ho, hg⟩; have HO1 := Lib.hid ho; have HG := Lib.hid hg; clear ho hg)
  go_ret
  exact ⟨rfl, HO1.out, grown_on (World.grownBy_alloc _ _ _) HG.out⟩

theorem held_is {n cap : Nat} {a : Option Addr} (R : Int) {w : World} (hn : n ≤ 1048576) (hr : Reads w a n (marks n)) :
    Calls Try.prog 59 #[.agg #[.int .i64 R, .slice a n cap], .int .i64 1] w fun e w' => e = .returned (.int .i64 (1 + 3 * n : Nat)) ∧ w.grownBy w' none := by
  have hni : (n : Int) ≤ 1048576 := by omega
  have HN := Lib.hid hn; clear hn
  have HO := Lib.hid hr; clear hr
  have hpos : ¬ ((1 + 3 * n : Nat) : Int) < 0 := by omega
  go_enter Try.func59, Try.ntmps59
  go_wp2_with (go_at_call 74; (with_reducible refine (heldS_is HN.out (HO.out.past _)).mono ?_); rintro e w' ⟨rfl, rfl⟩)
  go_ret
  exact ⟨rfl, World.grownBy_alloc _ _ _⟩
end Go.Proofs.Ytcdkhapepabpkaa.Mesh
