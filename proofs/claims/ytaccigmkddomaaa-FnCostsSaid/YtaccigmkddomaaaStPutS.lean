/- States: PutCell of the reference model, as a contract.
   Conditions: at most 2^20 leaves and numbers. -/
import Derived.Test.YtaccigmkddomaaaStCopy
import Derived.Test.YtaccigmkddomaaaStOkS
set_option maxRecDepth 100000
namespace Go.Proofs.Ytaccigmkddomaaa.State
open Go.ChangeShapes Go.WideShapes Go.ChangeAt Go.RowKit Go.Joins Go.Proofs.Ytaccigmkddomaaa.Cell Go.Proofs.Ytaccigmkddomaaa.Mesh Go.Proofs.Ytaccigmkddomaaa.Law Go.Proofs.Ytaccigmkddomaaa.Ints Go.Deep

theorem Held.stateOwn {w W : World} {gs : List Grp} {v1 v2 v3 v4 : Value} {n1 n2 n3 n4 : Nat} {xs : List C3} {ms ts bs : List Int} (h : Held w W gs) (k : Nat) (hk : gs[k]? = some (stateG v1 v2 v3 v4 n1 n2 n3 n4 xs ms ts bs)) : OwnS W w.heap.size v1 v2 v3 v4 n1 n2 n3 n4 xs ms ts bs := by
  have ho : OwnS W 0 v1 v2 v3 v4 n1 n2 n3 n4 xs ms ts bs := h.nth k hk
  have hl : ∀ b ∈ v1.ownBlock.toList ++ (v2.ownBlock.toList ++ (v3.ownBlock.toList ++ v4.ownBlock.toList)), w.heap.size ≤ b := fun b hb => (h.lo _ (List.mem_of_getElem? hk) b hb).1
  exact ⟨rowG_own ho.l (fun b hb => hl b (List.mem_append_left _ hb)), rowG_own ho.m (fun b hb => hl b (List.mem_append_right _ (List.mem_append_left _ hb))), rowG_own ho.t (fun b hb => hl b (List.mem_append_right _ (List.mem_append_right _ (List.mem_append_left _ hb)))),
    rowG_own ho.b (fun b hb => hl b (List.mem_append_right _ (List.mem_append_right _ (List.mem_append_right _ hb)))), ho.lm, ho.lt, ho.lb, ho.mt, ho.mb, ho.tb⟩
theorem vals_set (xs : List Int) (j : Nat) (x : Int) : vals (xs.set j x) = (vals xs).set j (.int .i64 x) := by simp [vals, List.map_set]
/-- A mass, a tracer stored. -/
theorem Held.setMass {w W : World} {gs : List Grp} {v1 v3 v4 : Value} {g n1 n2 n3 n4 c : Nat} {xs : List C3} {ms ts bs : List Int} (h : Held w W gs) (k : Nat) (hk : gs[k]? = some (stateG v1 (.slice (some ⟨g, 0, none⟩) n2 c) v3 v4 n1 n2 n3 n4 xs ms ts bs)) (j : Nat) (x : Int) :
    Held w (W.setCell ⟨g, j, none⟩ (.int .i64 x)) (gs.set k (stateG v1 (.slice (some ⟨g, 0, none⟩) n2 c) v3 v4 n1 n2 n3 n4 xs (ms.set j x) ts bs)) := by
  have ho : OwnS W 0 v1 (.slice (some ⟨g, 0, none⟩) n2 c) v3 v4 n1 n2 n3 n4 xs ms ts bs := h.nth k hk
  have hs := ho.m.stored j (.int .i64 x)
  rw [← vals_set] at hs
  exact h.turn k hk (turnedM (v2 := .slice (some ⟨g, 0, none⟩) n2 c) hs.2) rfl (ho.markM hs.2 hs.1)
theorem Held.setTracer {w W : World} {gs : List Grp} {v1 v2 v4 : Value} {g n1 n2 n3 n4 c : Nat} {xs : List C3} {ms ts bs : List Int} (h : Held w W gs) (k : Nat) (hk : gs[k]? = some (stateG v1 v2 (.slice (some ⟨g, 0, none⟩) n3 c) v4 n1 n2 n3 n4 xs ms ts bs)) (j : Nat) (x : Int) :
    Held w (W.setCell ⟨g, j, none⟩ (.int .i64 x)) (gs.set k (stateG v1 v2 (.slice (some ⟨g, 0, none⟩) n3 c) v4 n1 n2 n3 n4 xs ms (ts.set j x) bs)) := by
  have ho : OwnS W 0 v1 v2 (.slice (some ⟨g, 0, none⟩) n3 c) v4 n1 n2 n3 n4 xs ms ts bs := h.nth k hk
  have hs := ho.t.stored j (.int .i64 x)
  rw [← vals_set] at hs
  exact h.turn k hk (turnedT (v3 := .slice (some ⟨g, 0, none⟩) n3 c) hs.2) rfl (ho.markT hs.2 hs.1)
/-- A row of ints that is not empty: its block, a cell of it. -/
theorem own_cellI {w : World} {base n cap : Nat} {a : Option Addr} {xs : List Int} (h : w.ownsRow base 3 1 (.slice a n cap) n (vals xs)) {j : Nat} (hj : j < n) :
    ∃ g x, a = some ⟨g, 0, none⟩ ∧ xs[j]? = some x ∧ w.cell? ⟨g, j, none⟩ = some (.int .i64 x) ∧ w.frozen? ⟨g, j, none⟩ = false := by
  obtain ⟨g, rfl, hc, hf⟩ := own_atI h (by omega)
  have hl : xs.length = n := by have := h.1; rw [vals_len] at this; omega
  obtain ⟨x, hx⟩ := getI hl hj
  exact ⟨g, x, rfl, hx, by rw [hc j hj, vals_at hx], hf j⟩

/-- Whether a mass and a tracer can be put into leaf i; what the lists are then. -/
def putB (R : Int) (xs : List C3) (ms ts bs : List Int) (i m t : Int) : Bool := stOk R xs ms ts bs && (decide (0 ≤ i ∧ i ≤ (ms.length : Int) - 1) && stOk R xs (ms.set i.toNat m) (ts.set i.toNat t) bs)
def putM (R : Int) (xs : List C3) (ms ts bs : List Int) (i m t : Int) : List Int := if putB R xs ms ts bs i m t = true then ms.set i.toNat m else ms
def putT (R : Int) (xs : List C3) (ms ts bs : List Int) (i m t : Int) : List Int := if putB R xs ms ts bs i m t = true then ts.set i.toNat t else ts

end Go.Proofs.Ytaccigmkddomaaa.State
