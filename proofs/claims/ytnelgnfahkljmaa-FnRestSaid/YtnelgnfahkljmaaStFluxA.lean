/- States: the program's facesOf, AllFluxes, SteepestFace, as contracts: what each answers; nothing that was there is written.
   Conditions: at most 2^20 leaves and numbers. -/
import Derived.Test.YtnelgnfahkljmaaStFluxF
import Derived.Test.YtnelgnfahkljmaaStFillS
set_option maxRecDepth 100000
namespace Go.Proofs.Ytnelgnfahkljmaa.State
open Go.ChangeShapes Go.WideShapes Go.ChangeAt Go.RowKit Go.Joins Go.Proofs.Ytnelgnfahkljmaa.Cell Go.Proofs.Ytnelgnfahkljmaa.Mesh Go.Proofs.Ytnelgnfahkljmaa.Law Go.Proofs.Ytnelgnfahkljmaa.Ints Go.Deep

/-- A block of faces, of which the first k stand. -/
def facesG (g p : Nat) (R : Int) (v1 v2 v3 v4 : Value) (k : Nat) : Grp :=
  ⟨fun W => ∃ cur, W.heap[g]? = some (.cells cur 68 (0, 0)) ∧ cur.size = p ∧ ∀ j, j < k → cur[j]? = some (faceV R v1 v2 v3 v4 j), [g], fun W W' h hp => let ⟨cur, hb, hs, hc⟩ := hp; ⟨cur, (h g (by simp)).trans hb, hs, hc⟩⟩
theorem facesG.cell {g p : Nat} {R : Int} {v1 v2 v3 v4 : Value} {n j : Nat} {W : World} (h : (facesG g p R v1 v2 v3 v4 n).P W) (hj : j < n) : W.cell? ⟨g, j, none⟩ = some (faceV R v1 v2 v3 v4 j) :=
  let ⟨cur, hb, _, hc⟩ := h
  (cell_of_row W g j cur _ (0, 0) hb).trans (hc j hj)
theorem facesG.old {g p : Nat} {R : Int} {v1 v2 v3 v4 : Value} {n k : Nat} {W : World} (h : (facesG g p R v1 v2 v3 v4 n).P W) (hk : k < p) : (∃ z, W.cell? ⟨g, k, none⟩ = some z) ∧ W.frozen? ⟨g, k, none⟩ = false := by
  obtain ⟨cur, hb, hs, hc⟩ := h
  obtain ⟨z, hz⟩ := lt_of_get (cur := cur) (j := k) (by omega)
  exact ⟨⟨z, (cell_of_row W g _ cur _ (0, 0) hb).trans hz⟩, by simp [World.frozen?, hb]⟩
/-- One face more stands. -/
theorem Held.face {w W : World} {gs : List Grp} {g p : Nat} {R : Int} {v1 v2 v3 v4 : Value} {n : Nat} (h : Held w W gs) (i : Nat) (hi : gs[i]? = some (facesG g p R v1 v2 v3 v4 n)) (hn : n < p) :
    Held w (W.setCell ⟨g, n, none⟩ (faceV R v1 v2 v3 v4 n)) (gs.set i (facesG g p R v1 v2 v3 v4 (n + 1))) := by
  obtain ⟨cur, hb, hs, hc⟩ := h.nth i hi
  refine h.turn i hi ((Turned.of (grownBy_setC W g n _)).wide (by simp [facesG])) rfl ⟨_, heap_setCell_same W g n cur _ _ hb, by simp [hs], fun j hj => ?_⟩
  by_cases e : j = n
  · subst e
    rw [Array.getElem?_setIfInBounds_self_of_lt (by omega)]
  · rw [Array.getElem?_setIfInBounds_ne (by omega)]
    exact hc j (by omega)
theorem infoFace : (Try.prog.info? 68).map (fun i => (i.zero, i.size, i.bytes)) = some (some .nilIface, 1, 16) := by kernel_rfl
theorem makeFaces_is (w : World) (n : Nat) (hn : n ≤ 1048576) : ∃ Z, Z.size = n ∧ (Instr.makeSlice 65 (.int .i64 (n : Int)) (.int .i64 (n : Int))).run Try.prog w = .ok (.slice (some ⟨w.heap.size, 0, none⟩) n n) (w.alloc (.cells Z 68)) := by
  obtain ⟨i0, hi, hz0, hz1, hz2⟩ := info_parts infoFace
  refine ⟨_, ?_, run_make w _ _ i0 _ Try.underlying65 hi hz0 .i64 .i64 (n : Int) (n : Int) (by omega) (by omega) (by rw [hz2]; omega) (by omega)⟩
  rw [hz1]
  simp [size_madeCells]

set_option maxHeartbeats 4000000 in
theorem faces_is (R : Int) (a1 a2 a3 a4 : Option Addr) (p n2 n3 n4 c1 c2 c3 c4 : Nat) (w : World) (hp : p ≤ 1048576) :
    Calls Try.prog 42 #[.agg #[.int .i64 R, .slice a1 (p + 1) c1, .slice a2 n2 c2, .slice a3 n3 c3, .slice a4 n4 c4]] w fun e w' =>
      ∃ g, e = .returned (.slice (some ⟨g, 0, none⟩) p p) ∧ w.heap.size ≤ g ∧ g < w'.heap.size ∧ (facesG g p R (.slice a1 (p + 1) c1) (.slice a2 n2 c2) (.slice a3 n3 c3) (.slice a4 n4 c4) p).P w' ∧ w.grownBy w' none := by
  have HE := Lib.hid ((Held.nil w).box 31 #[.int .i64 R, .slice a1 (p + 1) c1, .slice a2 n2 c2, .slice a3 n3 c3, .slice a4 n4 c4])
  have hpi : (p : Int) ≤ 1048576 := by omega
  have HP := Lib.hid hp; clear hp
  go_enter Try.func42, Try.ntmps42
  go_upto_region 1 with fail
  generalize w.alloc (.cells #[.int .i64 R, .slice a1 (p + 1) c1, .slice a2 n2 c2, .slice a3 n3 c3, .slice a4 n4 c4] 31) = W0 at *
  obtain ⟨p0, p1, p2, p3, p4⟩ := box5 (HE.out.nth 0 rfl)
  obtain ⟨Z, hz, hmk⟩ := makeFaces_is W0 p HP.out
  have HZ := Lib.hid hz; clear hz
  have hsub : ((p + 1 : Nat) : Int) - 1 = p := by omega
  go_wp2_with fail
  have HL := Lib.hid (HE.out.add (g := facesG W0.heap.size p R (.slice a1 (p + 1) c1) (.slice a2 n2 c2) (.slice a3 n3 c3) (.slice a4 n4 c4) 0) (World.grownBy_alloc W0 (.cells Z 68) none) ⟨Z, World.alloc_heap_new W0 _, HZ.out, fun j hj => by omega⟩ (fun b hb => by rw [List.mem_singleton.1 hb]; simp))
  obtain ⟨g, hg⟩ : ∃ g, g = W0.heap.size := ⟨_, rfl⟩
  have HGL := Lib.hid (show w.heap.size ≤ g by have := HE.out.gr.size; omega)
  rw [← hg] at HL ⊢
  clear hg hmk HZ p0 p1 p2 p3 p4 HE
  generalize W0.alloc (.cells Z 68) = W1 at *
  go_loopw [13] (fun i wr => ∃ k : Nat, (k : Int) ≤ p ∧ i = .int .i64 k ∧ Hid (Held w wr [boxG w.heap.size 31 #[.int .i64 R, .slice a1 (p + 1) c1, .slice a2 n2 c2, .slice a3 n3 c3, .slice a4 n4 c4], facesG g p R (.slice a1 (p + 1) c1) (.slice a2 n2 c2) (.slice a3 n3 c3) (.slice a4 n4 c4) k])) (fun i _ => p - (intOf i).toNat)
  case atStart => exact ⟨0, by omega, rfl, HL⟩
  case round =>
    clear HL
    obtain ⟨k, hk, rfl, HF⟩ := hrel
    obtain ⟨p0, p1, p2, p3, p4⟩ := box5 (HF.out.nth 0 rfl)
    by_cases hlt : (k : Int) < p
    · have HK := Lib.hid (show k < p by omega)
      obtain ⟨⟨z, hz⟩, fz⟩ := facesG.old (HF.out.nth 1 rfl) HK.out
      go_wp2_with fail
      have HN := Lib.hid (State.Held.face HF.out 1 rfl HK.out)
      go_roundw
      case rel => exact ⟨k + 1, by omega, by go_num, HN⟩
      case measure => simp [intOf]; omega
    · obtain rfl : p = k := by omega
      go_wp2_with fail
      go_ret
      exact ⟨g, rfl, HGL.out, (HF.out.lo _ (List.mem_cons_of_mem _ (List.mem_singleton.2 rfl)) g (by simp [facesG])).2, HF.out.nth 1 rfl, HF.out.gr⟩

/-- A slice of ints in memory of the call's own. -/
def GivesI (ys : List Int) (w : World) (e : Ending) (w' : World) : Prop :=
  ∃ (q : Option Addr) (d : Nat), e = .returned (.slice q ys.length d) ∧ w'.ownsRow w.heap.size 3 1 (.slice q ys.length d) ys.length (vals ys) ∧ w.grownBy w' none
theorem flux_take {xs : List C3} {ms bs : List Int} {k : Nat} (h : k + 1 < xs.length) : vals ((fluxes xs ms bs).take k) ++ [Value.int .i64 (fluxAt xs ms bs k)] = vals ((fluxes xs ms bs).take (k + 1)) := by
  rw [List.take_add_one, fluxes_at h]; simp [vals]

theorem steep_next (xs : List C3) (ms bs : List Int) (k : Nat) : (gapF xs ms bs k > (steep xs ms bs k).2 → steep xs ms bs (k + 1) = ((k : Int), gapF xs ms bs k)) ∧ (¬ gapF xs ms bs k > (steep xs ms bs k).2 → steep xs ms bs (k + 1) = steep xs ms bs k) :=
  ⟨fun h => by rw [steep, if_pos h], fun h => by rw [steep, if_neg h]⟩

end Go.Proofs.Ytnelgnfahkljmaa.State
