/- Meshes: the iterators of chapter 4 as contracts: cellsOfLevel.
   Conditions: none. -/
import Derived.RangeFuncNested
import Derived.RangeFuncBound
import Derived.RangeFuncCalls
import Derived.RangeFuncLeaves
import Derived.RangeFuncBox
import Derived.Shelf.Abstract
import Derived.Shelf.RegionOpen
import Derived.WalkKit
import Derived.OwnWalkIn
import Derived.TacticsInMore
import Derived.LoopNIn
import Derived.LoopIn
import Derived.Maps.AppendAt
import Derived.Test.YtaccigmkddomaaaPkMesh
set_option maxRecDepth 100000
namespace Go.Proofs.Ytaccigmkddomaaa.Mesh
open Go.ChangeShapes Go.WideShapes Go.ChangeAt Go.RowKit Go.Shelf Go.Proofs.Ytaccigmkddomaaa.Cell

attribute [local go_sem] Oper.semAt_some

def encC (x : C3) : Array Value := #[.agg #[.int .i64 x.1, .int .i64 x.2.1, .int .i64 x.2.2]]
/-- The first k cells of a root; the cells of the first k roots. -/
def rowC (r : Nat) (L : Int) (k : Nat) : List C3 := (List.range k).map fun i : Nat => ((r : Int), L, (i : Int))
def allC (k : Nat) (L : Int) (N : Nat) : List C3 := (List.range k).flatMap fun r : Nat => rowC r L N
theorem rowC_zero (r : Nat) (L : Int) : rowC r L 0 = [] := rfl
theorem rowC_succ (r : Nat) (L : Int) (k : Nat) : rowC r L (k + 1) = rowC r L k ++ [((r : Int), L, (k : Int))] := by simp [rowC, List.range_succ]
theorem rowC_len (r : Nat) (L : Int) (k : Nat) : (rowC r L k).length = k := by simp [rowC]
theorem allC_zero (L : Int) (N : Nat) : allC 0 L N = [] := rfl
theorem allC_succ (k : Nat) (L : Int) (N : Nat) : allC (k + 1) L N = allC k L N ++ rowC k L N := by simp [allC, List.range_succ]
theorem allC_len (k : Nat) (L : Int) (N : Nat) : (allC k L N).length = k * N := by
  induction k with
  | zero => simp [allC_zero]
  | succ k ih => rw [allC_succ, List.length_append, ih, rowC_len, Nat.succ_mul]

/-- What a round keeps for the iterator: its two boxes. -/
def KeepsAt (b1 b2 : Nat) (W W' : World) : Prop := (∀ v, W.cell? ⟨b1, 0, none⟩ = some v → W'.cell? ⟨b1, 0, none⟩ = some v) ∧ ∀ v, W.cell? ⟨b2, 0, none⟩ = some v → W'.cell? ⟨b2, 0, none⟩ = some v
theorem KeepsAt.trans {b1 b2 : Nat} {A B C : World} (h : KeepsAt b1 b2 A B) (k : KeepsAt b1 b2 B C) : KeepsAt b1 b2 A C := ⟨fun v hv => k.1 v (h.1 v hv), fun v hv => k.2 v (h.2 v hv)⟩
theorem KeepsAt.refl (b1 b2 : Nat) (A : World) : KeepsAt b1 b2 A A := ⟨fun _ h => h, fun _ h => h⟩

/-- 2 to the level. -/
def powL (L : Int) : Nat := 2 ^ L.toNat
theorem powL_is {L : Int} (h0 : 0 ≤ L) (h4 : L ≤ 4) : wrap64 (2 ^ L.toNat) = (powL L : Int) ∧ powL L ≤ 16 ∧ 1 ≤ powL L := by
  rcases lvl h0 h4 with rfl | rfl | rfl | rfl | rfl <;> exact ⟨by simp [powL, wrap64], by decide, by decide⟩
theorem pre_all {k R N i : Nat} {L : Int} (hk : k < R) (hi : i ≤ N) : (allC k L N ++ rowC k L i) <+: allC R L N := by
  obtain ⟨d, rfl⟩ : ∃ d, R = (k + 1) + d := ⟨R - (k + 1), by omega⟩
  refine List.IsPrefix.trans (l₂ := allC (k + 1) L N) ?_ ?_
  · rw [allC_succ]
    obtain ⟨j, rfl⟩ : ∃ j, N = i + j := ⟨N - i, by omega⟩
    refine ⟨(List.range j).map fun q : Nat => ((k : Int), L, ((i + q : Nat) : Int)), ?_⟩
    rw [List.append_assoc]
    congr 1
    simp [rowC, List.range_add]
  · clear hk
    induction d with
    | zero => exact List.prefix_refl _
    | succ d ih => exact ih.trans ⟨_, (allC_succ (k + 1 + d) L N).symm⟩

set_option maxRecDepth 100000 in
set_option maxHeartbeats 4000000 in
theorem lvl1_in (F : Fence) (n : Nat) (hF : F.fn 88) (hro : F.round = none) (hn : 1 ≤ n) (l Br Bl R N : Nat) (L : Int) (hN : wrap64 (2 ^ L.toNat) = (N : Int)) (h16 : N ≤ 16) (hR : R ≤ 8) (h0L : 0 ≤ L) (h4L : L ≤ 4) (J Jx : List C3 → World → Prop)
    (hY : ∀ pre x W, J pre W → pre.length < 128 → YieldAt F (n - 1) Try.prog l (encC x) W fun e W' =>
      (e = .returned (.bool true) ∧ J (pre ++ [x]) W' ∧ KeepsAt Br Bl W W') ∨ (e = .returned (.bool false) ∧ Jx (pre ++ [x]) W'))
    (W : World) (hBr : W.cell? ⟨Br, 0, none⟩ = some (.int .i64 R)) (hBl : W.cell? ⟨Bl, 0, none⟩ = some (.int .i64 L)) (h0 : J [] W) :
    CallsIn F n Try.prog 88 #[.func (.yield l) #[] #[], .pointer (some ⟨Br, 0, none⟩), .pointer (some ⟨Bl, 0, none⟩)] W fun e W' => (∃ v, e = .returned v) ∧
      ((∃ ys, ys = allC R L N ∧ J ys W') ∨ (∃ pre, pre <+: allC R L N ∧ Jx pre W')) := by
  refine callsIn_of_wp Try.func88 rfl hF ?_ hro
  simp only [Try.ntmps88, List.size_toArray, List.length_cons, List.length_nil, Nat.reduceAdd, Nat.reduceSub, Array.replicate_succ, Array.replicate_zero, List.push_toArray, List.append_toArray, List.nil_append, List.cons_append]
  gi_wp2
  gi_loopw [7] (fun p wr => ∃ k : Nat, (k : Int) ≤ R ∧ p = .int .i64 k ∧ J (allC k L N) wr ∧ wr.cell? ⟨Br, 0, none⟩ = some (.int .i64 R) ∧ wr.cell? ⟨Bl, 0, none⟩ = some (.int .i64 L)) (fun p _ => R - (intOf p).toNat)
  case atStart => exact ⟨0, by omega, rfl, h0, hBr, hBl⟩
  case round =>
    obtain ⟨k, hk, rfl, hJ, hr, hb⟩ := hrel
    by_cases hlt : (k : Int) < R
    · have hkR : k < R := by omega
      gi_wp2
      rw [hN]
      gi_loopw [12] (fun p wr => ∃ i : Nat, (i : Int) ≤ N ∧ p = .int .i64 i ∧ J (allC k L N ++ rowC k L i) wr ∧ wr.cell? ⟨Br, 0, none⟩ = some (.int .i64 R) ∧ wr.cell? ⟨Bl, 0, none⟩ = some (.int .i64 L)) (fun p _ => N - (intOf p).toNat)
      case atStart => exact ⟨0, by omega, rfl, by rw [rowC_zero, List.append_nil]; exact hJ, hr, hb⟩
      case round =>
        obtain ⟨i, hi, rfl, hJ1, hr1, hb1⟩ := hrel
        by_cases hlt1 : (i : Int) < N
        · have hlen : (allC k L N ++ rowC k L i).length < 128 := by
            rw [List.length_append, allC_len, rowC_len]
            have := Nat.mul_le_mul (show k ≤ 7 by omega) h16
            omega
          obtain ⟨fn, tmps, assign, body, hy, hY1⟩ := hY _ ((k : Int), L, (i : Int)) _ hJ1 hlen
          dsimp only [encC] at hy
          gi_wp2
          refine hY1.mono ?_
          rintro e W3 (⟨rfl, hJ3, hk3⟩ | ⟨rfl, hJx3⟩)
          · rw [List.append_assoc, ← rowC_succ] at hJ3
            gi_wp2
            go_roundw
            case rel => exact ⟨i + 1, by omega, by go_num, hJ3, hk3.1 _ hr1, hk3.2 _ hb1⟩
            case measure => simp [intOf]; omega
          · gi_wp2
            refine bodyPost_ret (results_none rfl _ _ _) rfl ?_
            rw [List.append_assoc, ← rowC_succ] at hJx3
            exact ⟨⟨_, rfl⟩, .inr ⟨_, pre_all hkR (by omega), hJx3⟩⟩
        · obtain rfl : i = N := by omega
          gi_wp2
          go_roundw
          case rel => exact ⟨k + 1, by omega, by go_num, by rw [allC_succ]; exact hJ1, hr1, hb1⟩
          case measure => simp [intOf]; omega
    · obtain rfl : k = R := by omega
      gi_wp2
      go_end0
      exact ⟨⟨_, rfl⟩, .inl hJ⟩
set_option maxHeartbeats 1000000 in
theorem lvl_in (F : Fence) (n : Nat) (hF : F.fn 73) (hro : F.round = none) (R L : Int) (w : World) :
    CallsIn F n Try.prog 73 #[.int .i64 R, .int .i64 L] w fun e w' => e = .returned (.func (.func 88) #[] #[.pointer (some ⟨w.heap.size, 0, none⟩), .pointer (some ⟨w.heap.size + 1, 0, none⟩)]) ∧ w' = (w.alloc (.cells #[.int .i64 R] 3)).alloc (.cells #[.int .i64 L] 3) := by
  refine callsIn_of_wp Try.func73 rfl hF ?_ hro
  simp only [Try.ntmps73, List.size_toArray, List.length_cons, List.length_nil, Nat.reduceAdd, Nat.reduceSub, Array.replicate_succ, Array.replicate_zero, List.push_toArray, List.append_toArray, List.nil_append, List.cons_append]
  gi_wp2
  go_ret
  exact ⟨rfl, rfl⟩

theorem lvl_stops (F : Fence) (n : Nat) (hF : F.fn 88) (hro : F.round = none) (hn : 1 ≤ n) (Br Bl R : Nat) (L : Int) (hR : R ≤ 8) (h0L : 0 ≤ L) (h4L : L ≤ 4) (w : World)
    (hBr : w.cell? ⟨Br, 0, none⟩ = some (.int .i64 R)) (hBl : w.cell? ⟨Bl, 0, none⟩ = some (.int .i64 L)) (hr : Br < w.heap.size) (hl : Bl < w.heap.size) :
    SeqStopsK F n Try.prog 88 #[.pointer (some ⟨Br, 0, none⟩), .pointer (some ⟨Bl, 0, none⟩)] encC (KeepsAt Br Bl) (fun ys => ys = allC R L (powL L)) (fun pre => pre <+: allC R L (powL L)) 128 w := fun l J Jx W hW _ _ hY h0 =>
  lvl1_in F n hF hro hn l Br Bl R (powL L) L (powL_is h0L h4L).1 (powL_is h0L h4L).2.1 hR h0L h4L J Jx hY W ((hW.cell (p := ⟨Br, 0, none⟩) hr).trans hBr) ((hW.cell (p := ⟨Bl, 0, none⟩) hl).trans hBl) h0
end Go.Proofs.Ytaccigmkddomaaa.Mesh
