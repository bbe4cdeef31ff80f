/- States: what the law of filled states needs: the mesh and the beds that DrawLake draws, as one group; they can be filled; what a filled leaf holds. Plain lemmas.
   Conditions: none. -/
import Derived.Test.YtcdkhapepabpkaaStDrawL
import Derived.Test.YtcdkhapepabpkaaStFillI
set_option maxRecDepth 100000
namespace Go.Proofs.Ytcdkhapepabpkaa.State
open Go.ChangeShapes Go.WideShapes Go.ChangeAt Go.RowKit Go.Proofs.Ytcdkhapepabpkaa.Cell Go.Proofs.Ytcdkhapepabpkaa.Mesh Go.Proofs.Ytcdkhapepabpkaa.Law Go.Proofs.Ytcdkhapepabpkaa.Ints

/-- Leaves and beds. -/
def lakeG (v1 v4 : Value) (n1 n2 : Nat) (xs : List C3) (bs : List Int) : Grp :=
  ⟨fun W => W.ownsRow 0 36 3 v1 n1 (flatC xs) ∧ W.ownsRow 0 3 1 v4 n2 (vals bs), v1.ownBlock.toList ++ v4.ownBlock.toList, fun W W' h hp =>
    ⟨(rowG _ _ v1 _ _).loc W W' (fun b hb => h b (List.mem_append_left _ hb)) hp.1, (rowG _ _ v4 _ _).loc W W' (fun b hb => h b (List.mem_append_right _ hb)) hp.2⟩⟩
theorem Held.lake {w W W' : World} {gs : List Grp} {v1 v4 : Value} {n1 n2 : Nat} {xs : List C3} {bs : List Int} (h : Held w W gs) (hg : W.grownBy W' none) (h1 : W'.ownsRow W.heap.size 36 3 v1 n1 (flatC xs)) (h4 : W'.ownsRow W.heap.size 3 1 v4 n2 (vals bs)) : Held w W' (gs ++ [lakeG v1 v4 n1 n2 xs bs]) :=
  h.add hg ⟨own_zero h1, own_zero h4⟩ (fun b hb => by
    rcases List.mem_append.1 hb with hb | hb
    · exact h1.lt b (by simpa using hb)
    · exact h4.lt b (by simpa using hb))
theorem two_pow_pos (k : Nat) : (1 : Int) ≤ 2 ^ k := by
  have : (0 : Int) < 2 ^ k := Int.pow_pos (by decide)
  omega
theorem fillMass_bounds {bs : List Int} {h : Int} {x : C3} (h0 : 0 ≤ h) (hb : 0 ≤ bs.getD x.1.toNat 0) : 0 ≤ fillMass bs h x ∧ fillMass bs h x ≤ h := by
  unfold fillMass
  have hp := two_pow_pos x.2.1.toNat
  have hd : 0 ≤ (if bs.getD x.1.toNat 0 < h then h - max (bs.getD x.1.toNat 0) (-1) else 0) ∧ (if bs.getD x.1.toNat 0 < h then h - max (bs.getD x.1.toNat 0) (-1) else 0) ≤ h := by split <;> omega
  generalize (if bs.getD x.1.toNat 0 < h then h - max (bs.getD x.1.toNat 0) (-1) else 0) = D at *
  refine ⟨Int.ediv_nonneg hd.1 (by omega), ?_⟩
  have := Int.ediv_le_self (2 ^ x.2.1.toNat) hd.1
  omega
theorem lake_fills {R h : Int} {n1 n2 : Nat} {xs : List C3} {bs : List Int} (hm : meshOk R xs = true) (hg : firstGap xs < 0) (h1 : xs.length = n1) (h2 : (n2 : Int) = R) (hl : bs.length = n2) (hb : ∀ b ∈ bs, 0 ≤ b ∧ b ≤ 8999) (hh0 : 0 ≤ h) (hh1 : h ≤ 11999) : fillB R xs bs h = true := by
  have hbal : balanced R xs = true := by unfold balanced; rw [hm]; simp [hg]
  obtain ⟨-, hn1, hn2⟩ := mesh_parts hm
  have hget : ∀ j : Nat, 0 ≤ bs.getD j 0 := fun j => by
    rw [List.getD_eq_getElem?_getD]
    cases e : bs[j]? with
    | none => simp
    | some b => exact (hb b (List.mem_of_getElem? e)).1
  have hms : ∀ m ∈ fillMs bs h xs, 0 ≤ m ∧ m ≤ 11999 := fun m hm' => by
    obtain ⟨x, hx, rfl⟩ := List.mem_map.1 hm'
    have := fillMass_bounds (x := x) hh0 (hget x.1.toNat)
    omega
  have hst : stOk R xs (fillMs bs h xs) (List.replicate xs.length 0) bs = true := by
    refine stOk_mk hbal ⟨fillMs_len _ _ _, by rw [fillMs_len, List.length_replicate], by rw [hl]; exact h2⟩ ?_ ?_ ?_
    · refine pairs_all (n := xs.length) (fillMs_len _ _ _) (List.length_replicate ..) fun j m t hj hm' ht => ?_
      rw [List.getElem?_replicate_of_lt hj] at ht
      cases ht
      have := hms m (List.mem_of_getElem? hm')
      exact decide_eq_true (by omega)
    · exact List.all_eq_true.2 fun b hb' => by have := hb b hb'; exact decide_eq_true (by omega)
    · have := (sum_bounds hms).2
      rw [fillMs_len] at this
      have h3 : (xs.length : Int) * 11999 ≤ 128 * 11999 := Int.mul_le_mul_of_nonneg_right (by omega) (by decide)
      omega
  unfold fillB
  rw [hbal, decide_eq_true (by rw [hl]; exact h2), decide_eq_true ⟨hh0, by omega⟩, hst]
  rfl
theorem sum_zeros (n : Nat) : (List.replicate n (0 : Int)).sum = 0 := by
  induction n with
  | zero => rfl
  | succ n ih => rw [List.replicate_succ, List.sum_cons, ih]; rfl
/-- What the law holds in its loop. -/
def LakeL (R : Int) (g1 g4 n1 n2 c1 c4 : Nat) (xs : List C3) (bs ms : List Int) (q1 : Option Addr) (d1 : Nat) (q2 : Option Addr) (d2 : Nat) (q3 : Option Addr) (d3 : Nat) (q4 : Option Addr) (d4 B3 B6 : Nat) (w wr : World) : Prop :=
  Held w wr [lakeG (.slice (some ⟨g1, 0, none⟩) n1 c1) (.slice (some ⟨g4, 0, none⟩) n2 c4) n1 n2 xs bs, boxG B3 26 #[.int .i64 R, .slice (some ⟨g1, 0, none⟩) n1 c1], stateG (.slice q1 n1 d1) (.slice q2 n1 d2) (.slice q3 n1 d3) (.slice q4 n2 d4) n1 n1 n1 n2 xs ms (List.replicate n1 0) bs, boxG B6 31 #[.int .i64 R, .slice q1 n1 d1, .slice q2 n1 d2, .slice q3 n1 d3, .slice q4 n2 d4]]
end Go.Proofs.Ytcdkhapepabpkaa.State
