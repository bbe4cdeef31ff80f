/- Steps: what the program moves through a face: content's add, stepThrough's second closure, as contracts.
   Conditions: at most 2^20 leaves and numbers. -/
import Derived.Test.YtnaofcbbdlhjpaaStStepP
import Derived.Test.YtnaofcbbdlhjpaaStPutI
set_option maxRecDepth 100000
namespace Go.Proofs.Ytnaofcbbdlhjpaa.State
open Go.ChangeShapes Go.WideShapes Go.ChangeAt Go.RowKit Go.Joins Go.Proofs.Ytnaofcbbdlhjpaa.Cell Go.Proofs.Ytnaofcbbdlhjpaa.Mesh Go.Proofs.Ytnaofcbbdlhjpaa.Law Go.Proofs.Ytnaofcbbdlhjpaa.Ints Go.Proofs.Ytnaofcbbdlhjpaa.Draws Go.Deep

set_option maxHeartbeats 4000000 in
theorem add_is (g2 g3 k : Nat) (m t x y : Int) (w : World) (hm : w.cell? ⟨g2, k, none⟩ = some (.int .i64 x)) (fm : w.frozen? ⟨g2, k, none⟩ = false) (ht : w.cell? ⟨g3, k, none⟩ = some (.int .i64 y)) (ft : w.frozen? ⟨g3, k, none⟩ = false) (hne : g2 ≠ g3)
    (bm : -1000000000000 ≤ x + m ∧ x + m ≤ 1000000000000) (bt : -1000000000000 ≤ y + t ∧ y + t ≤ 1000000000000) :
    Calls Try.prog 89 #[.agg #[.pointer (some ⟨g2, k, none⟩), .pointer (some ⟨g3, k, none⟩)], .int .i64 m, .int .i64 t] w fun e w' => e = .returned (.tuple #[]) ∧ ∃ W, w.grownBy W none ∧ w' = (W.setCell ⟨g2, k, none⟩ (.int .i64 (x + m))).setCell ⟨g3, k, none⟩ (.int .i64 (y + t)) := by
  have he := (Held.nil w).box 88 #[.pointer (some ⟨g2, k, none⟩), .pointer (some ⟨g3, k, none⟩)]
  have l2 := World.block_lt_of_cell? w _ hm
  have l3 := World.block_lt_of_cell? w _ ht
  have HE := Lib.hid he; clear he
  go_enter Try.func89, Try.ntmps89
  go_upto_region 1 with fail
  have HG := Lib.hid (World.grownBy_alloc w (.cells #[.pointer (some ⟨g2, k, none⟩), .pointer (some ⟨g3, k, none⟩)] 88) none)
  generalize w.alloc (.cells #[.pointer (some ⟨g2, k, none⟩), .pointer (some ⟨g3, k, none⟩)] 88) = W0 at *
  obtain ⟨p0, p1⟩ := box2 (HE.out.nth 0 rfl)
  have HQ := Lib.hid (And.intro l2 l3)
  have m2 := HG.out.cell hm (by simp)
  have m3 := HG.out.cell ht (by simp)
  have u2 : W0.frozen? ⟨g2, k, none⟩ = false := (World.frozen?_of_block (HG.out.block g2 l2 (by simp))).trans fm
  have u3 : W0.frozen? ⟨g3, k, none⟩ = false := (World.frozen?_of_block (HG.out.block g3 l3 (by simp))).trans ft
  clear hm ht fm ft l2 l3
  obtain ⟨X, hX⟩ : ∃ X, x + m = X := ⟨_, rfl⟩
  obtain ⟨Y, hY⟩ : ∃ Y, y + t = Y := ⟨_, rfl⟩
  go_upto_region 2 with fail
  have hb : w.heap.size ≠ g2 := by have := HQ.out.1; simp at this; omega
  have HE1 := Lib.hid ((show (W0.setCell ⟨g2, k, none⟩ (.int .i64 (x + m))).heap[w.heap.size]? = W0.heap[w.heap.size]? from heap_setCell_other W0 ⟨g2, k, none⟩ w.heap.size _ (by simpa using hb)))
  have p1' : (W0.setCell ⟨g2, k, none⟩ (.int .i64 (x + m))).cell? ⟨w.heap.size, 1, none⟩ = some (.pointer (some ⟨g3, k, none⟩)) := (World.cell?_of_block HE1.out).trans p1
  have m3' : (W0.setCell ⟨g2, k, none⟩ (.int .i64 (x + m))).cell? ⟨g3, k, none⟩ = some (.int .i64 y) := (World.cell?_of_block (heap_setCell_other W0 ⟨g2, k, none⟩ g3 _ (by simpa using fun h => hne h.symm))).trans m3
  have u3' : (W0.setCell ⟨g2, k, none⟩ (.int .i64 (x + m))).frozen? ⟨g3, k, none⟩ = false := (World.frozen?_of_block (heap_setCell_other W0 ⟨g2, k, none⟩ g3 _ (by simpa using fun h => hne h.symm))).trans u3
  go_wp2_with fail
  exact bodyPost_end (results_none rfl _ _ _) rfl ⟨rfl, W0, HG.out, rfl⟩

theorem set_at_self {gs : List Grp} {k : Nat} {g g' : Grp} (h : gs[k]? = some g) : (gs.set k g')[k]? = some g' := List.getElem?_set_self (List.getElem?_eq_some_iff.1 h).1

set_option maxHeartbeats 8000000 in
/-- The second closure of stepThrough: a mass and a tracer go from one leaf to another. -/
theorem move_is {w0 u0 : World} {gs : List Grp} (R : Int) (a1 a4 : Option Addr) (k2 k3 n1 n2 n3 n4 c1 c2 c3 c4 Ab kb k i j : Nat) (xs : List C3) (ms ts bs : List Int) (m t x y x' y' : Int)
    (h : Held w0 u0 gs) (hkb : gs[kb]? = some (boxG Ab 29 #[.int .i64 R, .slice a1 n1 c1, .slice (some ⟨k2, 0, none⟩) n2 c2, .slice (some ⟨k3, 0, none⟩) n3 c3, .slice a4 n4 c4]))
    (hk : gs[k]? = some (stateG (.slice a1 n1 c1) (.slice (some ⟨k2, 0, none⟩) n2 c2) (.slice (some ⟨k3, 0, none⟩) n3 c3) (.slice a4 n4 c4) n1 n2 n3 n4 xs ms ts bs)) (hne : kb ≠ k) (hij : i ≠ j)
    (hi : ms[i]? = some x) (hi' : ts[i]? = some y) (hj : ms[j]? = some x') (hj' : ts[j]? = some y')
    (bm : -10000000000 ≤ m ∧ m ≤ 10000000000) (bt : -10000000000 ≤ t ∧ t ≤ 10000000000)
    (bx : -500000000000 ≤ x ∧ x ≤ 500000000000) (by_ : -500000000000 ≤ y ∧ y ≤ 500000000000) (bx' : -500000000000 ≤ x' ∧ x' ≤ 500000000000) (by' : -500000000000 ≤ y' ∧ y' ≤ 500000000000) :
    Calls Try.prog 87 #[.int .i64 (i : Int), .int .i64 (j : Int), .int .i64 m, .int .i64 t, .pointer (some ⟨Ab, 0, none⟩)] u0 fun e u' => e = .returned (.tuple #[]) ∧
      Held w0 u' (gs.set k (stateG (.slice a1 n1 c1) (.slice (some ⟨k2, 0, none⟩) n2 c2) (.slice (some ⟨k3, 0, none⟩) n3 c3) (.slice a4 n4 c4) n1 n2 n3 n4 xs ((ms.set i (x + -m)).set j (x' + m)) ((ts.set i (y + -t)).set j (y' + t)) bs)) := by
  have ho := h.nth k hk
  have hl2 : ms.length = n2 := by have := (OwnS.m ho).1; rw [vals_len] at this; omega
  have hl3 : ts.length = n3 := by have := (OwnS.t ho).1; rw [vals_len] at this; omega
  have HNE := Lib.hid (show k2 ≠ k3 from fun e => (OwnS.mt ho) k2 rfl (by rw [e]; rfl))
  have i2 := (List.getElem?_eq_some_iff.1 hi).1
  have i3 := (List.getElem?_eq_some_iff.1 hi').1
  have j2 := (List.getElem?_eq_some_iff.1 hj).1
  have j3 := (List.getElem?_eq_some_iff.1 hj').1
  rw [hl2] at i2 j2
  rw [hl3] at i3 j3
  have HCI := Lib.hid fun u => contentOf_is R a1 a4 k2 k3 n1 n2 n3 n4 c1 c2 c3 c4 i i2 i3 u
  have HCJ := Lib.hid fun u => contentOf_is R a1 a4 k2 k3 n1 n2 n3 n4 c1 c2 c3 c4 j j2 j3 u
  have HA := Lib.hid (show ∀ u, u0.grownBy u none → Calls Try.prog 89 #[.agg #[.pointer (some ⟨k2, i, none⟩), .pointer (some ⟨k3, i, none⟩)], .int .i64 (-m), .int .i64 (-t)] u fun e w' => e = .returned (.tuple #[]) ∧ ∃ W, u.grownBy W none ∧ w' = (W.setCell ⟨k2, i, none⟩ (.int .i64 (x + -m))).setCell ⟨k3, i, none⟩ (.int .i64 (y + -t)) from fun u hu => by
    have ho2 := (h.on hu).nth k hk
    obtain ⟨g2, z2, e2, q2, m2, u2⟩ := own_cellI (OwnS.m ho2) i2
    cases e2
    obtain ⟨g3, z3, e3, q3, m3, u3⟩ := own_cellI (OwnS.t ho2) i3
    cases e3
    rw [hi] at q2; cases q2
    rw [hi'] at q3; cases q3
    exact add_is k2 k3 i (-m) (-t) x y u m2 u2 m3 u3 HNE.out (by omega) (by omega))
  have hkl := (List.getElem?_eq_some_iff.1 hk).1
  have HA2 := Lib.hid (show ∀ (u : World), Held w0 u (gs.set k (stateG (.slice a1 n1 c1) (.slice (some ⟨k2, 0, none⟩) n2 c2) (.slice (some ⟨k3, 0, none⟩) n3 c3) (.slice a4 n4 c4) n1 n2 n3 n4 xs (ms.set i (x + -m)) (ts.set i (y + -t)) bs)) → Calls Try.prog 89 #[.agg #[.pointer (some ⟨k2, j, none⟩), .pointer (some ⟨k3, j, none⟩)], .int .i64 m, .int .i64 t] u fun e w' => e = .returned (.tuple #[]) ∧ ∃ W, u.grownBy W none ∧ w' = (W.setCell ⟨k2, j, none⟩ (.int .i64 (x' + m))).setCell ⟨k3, j, none⟩ (.int .i64 (y' + t)) from fun u hu => by
    have ho2 := hu.nth k (set_at_self hk)
    obtain ⟨g2, z2, e2, q2, m2, u2⟩ := own_cellI (OwnS.m ho2) j2
    cases e2
    obtain ⟨g3, z3, e3, q3, m3, u3⟩ := own_cellI (OwnS.t ho2) j3
    cases e3
    rw [List.getElem?_set_ne hij, hj] at q2; cases q2
    rw [List.getElem?_set_ne hij, hj'] at q3; cases q3
    exact add_is k2 k3 j m t x' y' u m2 u2 m3 u3 HNE.out (by omega) (by omega))
  have HK := Lib.hid hk; have HKB := Lib.hid hkb
  have HE := Lib.hid h
  have HKB2 := Lib.hid fun (g' : Grp) => show (gs.set k g')[kb]? = _ from (List.getElem?_set_ne (Ne.symm hne)).trans hkb
  have e1 : IntKind.i64.wrap (-m) = -m := IntWalk.i64_in _ (by omega)
  have e2 : IntKind.i64.wrap (-t) = -t := IntWalk.i64_in _ (by omega)
  clear ho h hk hkb hi hi' hj hj' bx by_ bx' by' i2 i3 j2 j3 hl2 hl3
  obtain ⟨p0, p1, p2, p3, p4⟩ := box5 (HE.out.nth kb HKB.out)
  go_enter Try.func87, Try.ntmps87
  go_upto_region 1 with (first
    | (go_at_call 88; ((with_reducible refine (HCI.out _).mono ?_); rintro e w4 ⟨rfl, hg⟩; have HG4 := Lib.hid hg; clear hg))
    | (go_at_call 89; ((with_reducible refine (HA.out _ HG4.out).mono ?_); rintro e w5 ⟨rfl, W, hg, rfl⟩; have HE5 := Lib.hid (Held.setTracer (Held.setMass ((HE.out.on HG4.out).on hg) k HK.out i (x + -m)) k (set_at_self HK.out) i (y + -t)); clear hg)))
  have HE6 := Lib.hid HE5.out
  rw [List.set_set] at HE6
  clear p0 p1 p2 p3 p4 HE HE5 HCI HA HG4
  generalize (W.setCell ⟨k2, i, none⟩ (.int .i64 (x + -m))).setCell ⟨k3, i, none⟩ (.int .i64 (y + -t)) = W5 at *
  obtain ⟨p0, p1, p2, p3, p4⟩ := box5 (HE6.out.nth kb (HKB2.out _))
  go_wp2_with (first
    | (go_at_call 88; ((with_reducible refine (HCJ.out _).mono ?_); rintro e w6 ⟨rfl, hg⟩; have HE7 := Lib.hid (HE6.out.on hg); clear hg))
    | (go_at_call 89; ((with_reducible refine (HA2.out _ HE7.out).mono ?_); rintro e w7 ⟨rfl, W, hg, rfl⟩; have HE8 := Lib.hid (Held.setTracer (Held.setMass (HE7.out.on hg) k (set_at_self HK.out) j (x' + m)) k (set_at_self (set_at_self HK.out)) j (y' + t)); clear hg)))
  rw [List.set_set, List.set_set] at HE8
  exact bodyPost_end (results_none rfl _ _ _) rfl ⟨rfl, HE8.out⟩
end Go.Proofs.Ytnaofcbbdlhjpaa.State
