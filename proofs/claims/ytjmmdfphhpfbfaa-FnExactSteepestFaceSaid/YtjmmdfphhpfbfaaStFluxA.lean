/- States: the program's facesOf, AllFluxes, SteepestFace, as contracts: what each answers; nothing that was there is written.
   Conditions: at most 2^20 leaves and numbers. -/
import Derived.Test.YtjmmdfphhpfbfaaStFluxF
import Derived.Test.YtjmmdfphhpfbfaaStFillS
set_option maxRecDepth 100000
namespace Go.Proofs.Ytjmmdfphhpfbfaa.State
open Go.ChangeShapes Go.WideShapes Go.ChangeAt Go.RowKit Go.Joins Go.Proofs.Ytjmmdfphhpfbfaa.Cell Go.Proofs.Ytjmmdfphhpfbfaa.Mesh Go.Proofs.Ytjmmdfphhpfbfaa.Law Go.Proofs.Ytjmmdfphhpfbfaa.Ints Go.Deep

/-- A block of faces, of which the first k stand. -/
def facesG (g p : Nat) (R : Int) (v1 v2 v3 v4 : Value) (k : Nat) : Grp :=
  ⟨fun W => ∃ cur, W.heap[g]? = some (.cells cur 53 (0, 0)) ∧ cur.size = p ∧ ∀ j, j < k → cur[j]? = some (faceV R v1 v2 v3 v4 j), [g], fun W W' h hp => let ⟨cur, hb, hs, hc⟩ := hp; ⟨cur, (h g (by simp)).trans hb, hs, hc⟩⟩
theorem facesG.cell {g p : Nat} {R : Int} {v1 v2 v3 v4 : Value} {n j : Nat} {W : World} (h : (facesG g p R v1 v2 v3 v4 n).P W) (hj : j < n) : W.cell? ⟨g, j, none⟩ = some (faceV R v1 v2 v3 v4 j) :=
  let ⟨cur, hb, _, hc⟩ := h
  (cell_of_row W g j cur _ (0, 0) hb).trans (hc j hj)
theorem facesG.old {g p : Nat} {R : Int} {v1 v2 v3 v4 : Value} {n k : Nat} {W : World} (h : (facesG g p R v1 v2 v3 v4 n).P W) (hk : k < p) : (∃ z, W.cell? ⟨g, k, none⟩ = some z) ∧ W.frozen? ⟨g, k, none⟩ = false := by
  obtain ⟨cur, hb, hs, hc⟩ := h
  obtain ⟨z, hz⟩ := lt_of_get (cur := cur) (j := k) (by omega)
  exact ⟨⟨z, (cell_of_row W g _ cur _ (0, 0) hb).trans hz⟩, by simp [World.frozen?, hb]⟩
/-- One face more stands. -/
theorem Held.face {w W : World} {gs : List Grp} {g p : Nat} {R : Int} {v1 v2 v3 v4 : Value} {n : Nat} (h : Held w W gs) (i : Nat) (hi : gs[i]? = some (facesG g p R v1 v2 v3 v4 n)) (hn : n < p) :
    Held w (W.setCell ⟨g, n, none⟩ (faceV R v1 v2 v3 v4 n)) (gs.set i (facesG g p R v1 v2 v3 v4 (n + 1))) := by
  obtain ⟨cur, hb, hs, hc⟩ := h.nth i hi
  refine h.turn i hi ((Turned.of (grownBy_setC W g n _)).wide (by simp [facesG])) rfl ⟨_, heap_setCell_same W g n cur _ _ hb, by simp [hs], fun j hj => ?_⟩
  by_cases e : j = n
  · subst e
    rw [Array.getElem?_setIfInBounds_self_of_lt (by omega)]
  · rw [Array.getElem?_setIfInBounds_ne (by omega)]
    exact hc j (by omega)
theorem infoFace : (Try.prog.info? 53).map (fun i => (i.zero, i.size, i.bytes)) = some (some .nilIface, 1, 16) := by kernel_rfl
theorem makeFaces_is (w : World) (n : Nat) (hn : n ≤ 1048576) : ∃ Z, Z.size = n ∧ (Instr.makeSlice 50 (.int .i64 (n : Int)) (.int .i64 (n : Int))).run Try.prog w = .ok (.slice (some ⟨w.heap.size, 0, none⟩) n n) (w.alloc (.cells Z 53)) := by
  obtain ⟨i0, hi, hz0, hz1, hz2⟩ := info_parts infoFace
  refine ⟨_, ?_, run_make w _ _ i0 _ Try.underlying50 hi hz0 .i64 .i64 (n : Int) (n : Int) (by omega) (by omega) (by rw [hz2]; omega) (by omega)⟩
  rw [hz1]
  simp [size_madeCells]

set_option maxHeartbeats 4000000 in
theorem faces_is (R : Int) (a1 a2 a3 a4 : Option Addr) (p n2 n3 n4 c1 c2 c3 c4 : Nat) (w : World) (hp : p ≤ 1048576) :
    Calls Try.prog 29 #[.agg #[.int .i64 R, .slice a1 (p + 1) c1, .slice a2 n2 c2, .slice a3 n3 c3, .slice a4 n4 c4]] w fun e w' =>
      ∃ g, e = .returned (.slice (some ⟨g, 0, none⟩) p p) ∧ w.heap.size ≤ g ∧ g < w'.heap.size ∧ (facesG g p R (.slice a1 (p + 1) c1) (.slice a2 n2 c2) (.slice a3 n3 c3) (.slice a4 n4 c4) p).P w' ∧ w.grownBy w' none := by
  have HE := Lib.hid ((Held.nil w).box 29 #[.int .i64 R, .slice a1 (p + 1) c1, .slice a2 n2 c2, .slice a3 n3 c3, .slice a4 n4 c4])
  have hpi : (p : Int) ≤ 1048576 := by omega
  have HP := Lib.hid hp; clear hp
  go_enter Try.func29, Try.ntmps29
  go_upto_region 1 with fail
  generalize w.alloc (.cells #[.int .i64 R, .slice a1 (p + 1) c1, .slice a2 n2 c2, .slice a3 n3 c3, .slice a4 n4 c4] 29) = W0 at *
  obtain ⟨p0, p1, p2, p3, p4⟩ := box5 (HE.out.nth 0 rfl)
  obtain ⟨Z, hz, hmk⟩ := makeFaces_is W0 p HP.out
  have HZ := Lib.hid hz; clear hz
  have hsub : ((p + 1 : Nat) : Int) - 1 = p := by omega
  go_wp2_with fail
  have HL := Lib.hid (HE.out.add (g := facesG W0.heap.size p R (.slice a1 (p + 1) c1) (.slice a2 n2 c2) (.slice a3 n3 c3) (.slice a4 n4 c4) 0) (World.grownBy_alloc W0 (.cells Z 53) none) ⟨Z, World.alloc_heap_new W0 _, HZ.out, fun j hj => by omega⟩ (fun b hb => by rw [List.mem_singleton.1 hb]; simp))
  obtain ⟨g, hg⟩ : ∃ g, g = W0.heap.size := ⟨_, rfl⟩
  have HGL := Lib.hid (show w.heap.size ≤ g by have := HE.out.gr.size; omega)
  rw [← hg] at HL ⊢
  clear hg hmk HZ p0 p1 p2 p3 p4 HE
  generalize W0.alloc (.cells Z 53) = W1 at *
  go_loopw [13] (fun i wr => ∃ k : Nat, (k : Int) ≤ p ∧ i = .int .i64 k ∧ Hid (Held w wr [boxG w.heap.size 29 #[.int .i64 R, .slice a1 (p + 1) c1, .slice a2 n2 c2, .slice a3 n3 c3, .slice a4 n4 c4], facesG g p R (.slice a1 (p + 1) c1) (.slice a2 n2 c2) (.slice a3 n3 c3) (.slice a4 n4 c4) k])) (fun i _ => p - (intOf i).toNat)
  case atStart => exact ⟨0, by omega, rfl, HL⟩
  case round =>
    clear HL
    obtain ⟨k, hk, rfl, HF⟩ := hrel
    obtain ⟨p0, p1, p2, p3, p4⟩ := box5 (HF.out.nth 0 rfl)
    by_cases hlt : (k : Int) < p
    · have HK := Lib.hid (show k < p by omega)
      obtain ⟨⟨z, hz⟩, fz⟩ := facesG.old (HF.out.nth 1 rfl) HK.out
      go_wp2_with fail
      have HN := Lib.hid (State.Held.face HF.out 1 rfl HK.out)
      go_roundw
      case rel => exact ⟨k + 1, by omega, by go_num, HN⟩
      case measure => simp [intOf]; omega
    · obtain rfl : p = k := by omega
      go_wp2_with fail
      go_ret
      exact ⟨g, rfl, HGL.out, (HF.out.lo _ (List.mem_cons_of_mem _ (List.mem_singleton.2 rfl)) g (by simp [facesG])).2, HF.out.nth 1 rfl, HF.out.gr⟩

/-- A slice of ints in memory of the call's own. -/
def GivesI (ys : List Int) (w : World) (e : Ending) (w' : World) : Prop :=
  ∃ (q : Option Addr) (d : Nat), e = .returned (.slice q ys.length d) ∧ w'.ownsRow w.heap.size 3 1 (.slice q ys.length d) ys.length (vals ys) ∧ w.grownBy w' none
theorem flux_take {xs : List C3} {ms bs : List Int} {k : Nat} (h : k + 1 < xs.length) : vals ((fluxes xs ms bs).take k) ++ [Value.int .i64 (fluxAt xs ms bs k)] = vals ((fluxes xs ms bs).take (k + 1)) := by
  rw [List.take_add_one, fluxes_at h]; simp [vals]

set_option maxHeartbeats 8000000 in
theorem allFluxes_is (R : Int) (a1 a2 a3 a4 : Option Addr) (n1 n2 n3 n4 c1 c2 c3 c4 : Nat) (xs : List C3) (ms ts bs : List Int) (w : World) (h : ReadsS w a1 a2 a3 a4 n1 n2 n3 n4 xs ms ts bs) (h1 : n1 ≤ 1048576) (h2 : n2 ≤ 1048576) (h3 : n3 ≤ 1048576) (h4 : n4 ≤ 1048576) :
    Calls Try.prog 11 #[.agg #[.int .i64 R, .slice a1 n1 c1, .slice a2 n2 c2, .slice a3 n3 c3, .slice a4 n4 c4]] w (GivesI (fluxesG R xs ms ts bs) w) := by
  have hok : ∀ u, w.grownBy u none → Calls Try.prog 28 #[.agg #[.int .i64 R, .slice a1 n1 c1, .slice a2 n2 c2, .slice a3 n3 c3, .slice a4 n4 c4]] u fun e w' => e = .returned (.bool (stOk R xs ms ts bs)) ∧ u.grownBy w' none := fun u hu => stateOk_is R a1 a2 a3 a4 n1 n2 n3 n4 c1 c2 c3 c4 xs ms ts bs u (h.on hu) h1 h2 h3 h4
  have HOK := Lib.hid hok
  have HE := Lib.hid ((Held.nil w).box 29 #[.int .i64 R, .slice a1 n1 c1, .slice a2 n2 c2, .slice a3 n3 c3, .slice a4 n4 c4])
  clear hok
  unfold fluxesG
  cases hs : stOk R xs ms ts bs with
  | false =>
    rw [hs] at HOK
    clear hs
    go_enter Try.func11, Try.ntmps11
    go_upto_region 1 with fail
    generalize w.alloc (.cells #[.int .i64 R, .slice a1 n1 c1, .slice a2 n2 c2, .slice a3 n3 c3, .slice a4 n4 c4] 29) = W0 at *
    obtain ⟨p0, p1, p2, p3, p4⟩ := box5 (HE.out.nth 0 rfl)
    go_wp2_with (go_at_call 28; ((with_reducible refine (HOK.out _ HE.out.gr).mono ?_); rintro e w1 ⟨rfl, hg⟩; have HE1 := Lib.hid (HE.out.on hg); clear hg))
    go_ret
    exact ⟨none, 0, rfl, nil_own _ _ _ _, HE1.out.gr⟩
  | true =>
    rw [hs] at HOK
    rw [if_pos rfl]
    obtain ⟨-, hx0, hx1⟩ := mesh_parts (show meshOk R xs = true by
      obtain ⟨p1, -⟩ := stOk_parts hs
      unfold balanced at p1; simp only [Bool.and_eq_true] at p1; exact p1.1)
    have hl := h.l.len
    obtain ⟨p, rfl⟩ : ∃ p, n1 = p + 1 := ⟨n1 - 1, by omega⟩
    have hpi : (p : Int) ≤ 128 := by omega
    have hfl : (fluxes xs ms bs).length = p := by rw [fluxes_len]; omega
    have HFX := Lib.hid fun (k : Nat) (hk : k + 1 < p + 1) (u : World) (hu : w.grownBy u none) => flux_is R a1 a2 a3 a4 (p + 1) n2 n3 n4 c1 c2 c3 c4 k xs ms ts bs u (h.on hu) h1 hs hk
    have HXL := Lib.hid hl; have HFL := Lib.hid hfl
    obtain ⟨i0, hi0, hz0, hz1, hz2⟩ := info_parts infoInt
    clear hs h h1 h2 h3 h4 hx0 hx1 hl hfl
    go_enter Try.func11, Try.ntmps11
    go_upto_region 1 with fail
    generalize w.alloc (.cells #[.int .i64 R, .slice a1 (p + 1) c1, .slice a2 n2 c2, .slice a3 n3 c3, .slice a4 n4 c4] 29) = W0 at *
    obtain ⟨p0, p1, p2, p3, p4⟩ := box5 (HE.out.nth 0 rfl)
    go_upto_region 4 with (go_at_call 28; ((with_reducible refine (HOK.out _ HE.out.gr).mono ?_); rintro e w1 ⟨rfl, hg⟩; have HE1 := Lib.hid (HE.out.on hg); clear hg))
    have HE2 := Lib.hid (HE1.out.row (World.grownBy_alloc w1 (.cells #[] 3) none) (own_emptyI w1 w1.heap.size (Nat.le_refl _)))
    clear p0 p1 p2 p3 p4 HE HE1
    obtain ⟨B, hB⟩ : ∃ B, B = w1.heap.size := ⟨_, rfl⟩
    rw [← hB] at HE2 ⊢
    clear hB
    generalize w1.alloc (.cells #[] 3) = W2 at *
    obtain ⟨p0, p1, p2, p3, p4⟩ := box5 (HE2.out.nth 0 rfl)
    go_wp2_with (go_at_call 29; ((with_reducible refine (faces_is R a1 a2 a3 a4 p n2 n3 n4 c1 c2 c3 c4 _ (by omega)).mono ?_); rintro e w3 ⟨g, rfl, hge, hglt, hG, hg⟩; have HE3 := Lib.hid (HE2.out.add hg hG (fun b hb => by rw [List.mem_singleton.1 hb]; exact ⟨hge, hglt⟩)); clear hge hglt hG hg))
    clear p0 p1 p2 p3 p4 HE2 HOK
    go_loopw [3, 13] (fun v i wr => ∃ (k : Nat) (q : Option Addr) (d : Nat), (k : Int) ≤ p ∧ i = .int .i64 k ∧ v = .slice q k d ∧ Hid (Held w wr [boxG w.heap.size 29 #[.int .i64 R, .slice a1 (p + 1) c1, .slice a2 n2 c2, .slice a3 n3 c3, .slice a4 n4 c4], rowG 3 1 (.slice q k d) k (vals ((fluxes xs ms bs).take k)), facesG g p R (.slice a1 (p + 1) c1) (.slice a2 n2 c2) (.slice a3 n3 c3) (.slice a4 n4 c4) p])) (fun _ i _ => p - (intOf i).toNat)
    case atStart => exact ⟨0, _, _, by omega, rfl, rfl, HE3⟩
    case round =>
      clear HE3
      obtain ⟨k, q, d, hk, rfl, rfl, HF⟩ := hrel
      by_cases hlt : (k : Int) < p
      · have HK := Lib.hid (show k < p by omega)
        have HC := Lib.hid (HFX.out k (by omega))
        have f0 := facesG.cell (HF.out.nth 2 rfl) HK.out
        have HT := Lib.hid (flux_take (xs := xs) (ms := ms) (bs := bs) (k := k) (by have := HXL.out; omega))
        generalize fluxAt xs ms bs k = F at HC HT
        go_wp2_with (first
          | (go_at_call 30; ((with_reducible refine (HC.out _ HF.out.gr).mono ?_); rintro e w4 ⟨rfl, hg⟩; have HF2 := Lib.hid (HF.out.on hg); clear hg))
          | (at_builtin; refine wpList_append_own_at _ rfl _ _ 27 rfl 0 3 i0 (.int .i64 0) 1 8 Try.underlying27 hi0 hz0 hz1 hz2 rfl (by decide) _ k (vals ((fluxes xs ms bs).take k)) rfl (own_on (HF2.out.nth 1 rfl) (World.grownBy_alloc w4 _ none)) ⟨w4.heap.size, 0, none⟩ 1 1 [.int .i64 F] rfl rfl (cell_one_new _ _ _) (fun x hx => by simp at hx; subst hx; rfl) (by have := HK.out; unfold maxLen; omega) (by have := HK.out; omega) (Nat.zero_le _) ?_; intro v' w6 hown hg _ hat; rw [HT.out] at hown; obtain ⟨q', d', rfl⟩ := own_shapeAny hown; have HE6 := Lib.hid ((HF2.out.on (World.grownBy_alloc w4 _ none)).appended 1 rfl hown hg hat); clear hown hg hat))
        exact ⟨⟨k + 1, q', d', by omega, by go_num, rfl, HE6⟩, by simp [intOf]; omega⟩
      · obtain rfl : p = k := by omega
        go_wp2_with fail
        go_ret
        have hr := HF.out.own 1 rfl
        rw [← HFL.out, List.take_length] at hr
        rw [HFL.out] at hr
        exact ⟨q, d, by rw [HFL.out]; rfl, by rw [HFL.out]; exact hr, HF.out.gr⟩

theorem steep_next (xs : List C3) (ms bs : List Int) (k : Nat) : (gapF xs ms bs k > (steep xs ms bs k).2 → steep xs ms bs (k + 1) = ((k : Int), gapF xs ms bs k)) ∧ (¬ gapF xs ms bs k > (steep xs ms bs k).2 → steep xs ms bs (k + 1) = steep xs ms bs k) :=
  ⟨fun h => by rw [steep, if_pos h], fun h => by rw [steep, if_neg h]⟩

set_option maxHeartbeats 8000000 in
theorem steepest_is (R : Int) (a1 a2 a3 a4 : Option Addr) (n1 n2 n3 n4 c1 c2 c3 c4 : Nat) (xs : List C3) (ms ts bs : List Int) (w : World) (h : ReadsS w a1 a2 a3 a4 n1 n2 n3 n4 xs ms ts bs) (h1 : n1 ≤ 1048576) (h2 : n2 ≤ 1048576) (h3 : n3 ≤ 1048576) (h4 : n4 ≤ 1048576) :
    Calls Try.prog 14 #[.agg #[.int .i64 R, .slice a1 n1 c1, .slice a2 n2 c2, .slice a3 n3 c3, .slice a4 n4 c4]] w fun e w' => e = .returned (.int .i64 (steepG R xs ms ts bs)) ∧ w.grownBy w' none := by
  have hok : ∀ u, w.grownBy u none → Calls Try.prog 28 #[.agg #[.int .i64 R, .slice a1 n1 c1, .slice a2 n2 c2, .slice a3 n3 c3, .slice a4 n4 c4]] u fun e w' => e = .returned (.bool (stOk R xs ms ts bs)) ∧ u.grownBy w' none := fun u hu => stateOk_is R a1 a2 a3 a4 n1 n2 n3 n4 c1 c2 c3 c4 xs ms ts bs u (h.on hu) h1 h2 h3 h4
  have HOK := Lib.hid hok
  have HE := Lib.hid ((Held.nil w).box 29 #[.int .i64 R, .slice a1 n1 c1, .slice a2 n2 c2, .slice a3 n3 c3, .slice a4 n4 c4])
  clear hok
  unfold steepG
  cases hs : stOk R xs ms ts bs with
  | false =>
    rw [hs] at HOK
    clear hs
    go_enter Try.func14, Try.ntmps14
    go_upto_region 1 with fail
    generalize w.alloc (.cells #[.int .i64 R, .slice a1 n1 c1, .slice a2 n2 c2, .slice a3 n3 c3, .slice a4 n4 c4] 29) = W0 at *
    obtain ⟨p0, p1, p2, p3, p4⟩ := box5 (HE.out.nth 0 rfl)
    go_wp2_with (go_at_call 28; ((with_reducible refine (HOK.out _ HE.out.gr).mono ?_); rintro e w1 ⟨rfl, hg⟩; have HE1 := Lib.hid (HE.out.on hg); clear hg))
    go_ret
    exact ⟨rfl, HE1.out.gr⟩
  | true =>
    rw [hs] at HOK
    rw [if_pos rfl]
    obtain ⟨-, hx0, hx1⟩ := mesh_parts (show meshOk R xs = true by
      obtain ⟨p1, -⟩ := stOk_parts hs
      unfold balanced at p1; simp only [Bool.and_eq_true] at p1; exact p1.1)
    have hl := h.l.len
    obtain ⟨p, rfl⟩ : ∃ p, n1 = p + 1 := ⟨n1 - 1, by omega⟩
    have hpi : (p : Int) ≤ 128 := by omega
    rw [hl, Nat.add_sub_cancel]
    have HDX := Lib.hid fun (k : Nat) (hk : k + 1 < p + 1) (u : World) (hu : w.grownBy u none) => drop_is R a1 a2 a3 a4 (p + 1) n2 n3 n4 c1 c2 c3 c4 k xs ms ts bs u (h.on hu) h1 hs hk
    have HBD := Lib.hid fun (k : Nat) (hk : k < p + 1) => leaf_bounds hs (k := k) (by omega)
    have HSB := Lib.hid fun (k : Nat) (hk : k + 1 ≤ p + 1) => steep_bounds hs k (by omega)
    clear hs h h1 h2 h3 h4 hx0 hx1 hl
    go_enter Try.func14, Try.ntmps14
    go_upto_region 1 with fail
    generalize w.alloc (.cells #[.int .i64 R, .slice a1 (p + 1) c1, .slice a2 n2 c2, .slice a3 n3 c3, .slice a4 n4 c4] 29) = W0 at *
    obtain ⟨p0, p1, p2, p3, p4⟩ := box5 (HE.out.nth 0 rfl)
    go_wp2_with (first
      | (go_at_call 28; ((with_reducible refine (HOK.out _ HE.out.gr).mono ?_); rintro e w1 ⟨rfl, hg⟩; have HE1 := Lib.hid (HE.out.on hg); obtain ⟨q0, q1, q2, q3, q4⟩ := box5 (HE1.out.nth 0 rfl); clear hg))
      | (go_at_call 29; ((with_reducible refine (faces_is R a1 a2 a3 a4 p n2 n3 n4 c1 c2 c3 c4 _ (by omega)).mono ?_); rintro e w3 ⟨g, rfl, hge, hglt, hG, hg⟩; have HE3 := Lib.hid (HE1.out.add hg hG (fun b hb => by rw [List.mem_singleton.1 hb]; exact ⟨hge, hglt⟩)); clear hge hglt hG hg)))
    clear p0 p1 p2 p3 p4 q0 q1 q2 q3 q4 HE HE1 HOK
    go_loopw [3, 4, 15] (fun a b i wr => ∃ (k : Nat) (u v : Int), (k : Int) ≤ p ∧ i = .int .i64 k ∧ a = .int .i64 u ∧ b = .int .i64 v ∧ Hid (u = (steep xs ms bs k).1 ∧ v = (steep xs ms bs k).2) ∧ Hid (Held w wr [boxG w.heap.size 29 #[.int .i64 R, .slice a1 (p + 1) c1, .slice a2 n2 c2, .slice a3 n3 c3, .slice a4 n4 c4], facesG g p R (.slice a1 (p + 1) c1) (.slice a2 n2 c2) (.slice a3 n3 c3) (.slice a4 n4 c4) p])) (fun _ _ i _ => p - (intOf i).toNat)
    case atStart => exact ⟨0, -1, -1, by omega, rfl, rfl, rfl, Lib.hid ⟨rfl, rfl⟩, HE3⟩
    case round =>
      clear HE3
      obtain ⟨k, u, v, hk, rfl, rfl, rfl, HS, HF⟩ := hrel
      obtain ⟨z0, z1, z2, z3⟩ := HSB.out k (by omega)
      rw [← HS.out.1] at z0 z1
      rw [← HS.out.2] at z2 z3
      by_cases hlt : (k : Int) < p
      · have HK := Lib.hid (show k < p by omega)
        have HC := Lib.hid (HDX.out k (by omega))
        have f0 := facesG.cell (HF.out.nth 1 rfl) HK.out
        obtain ⟨s0, s1, -⟩ := HBD.out k (by omega)
        obtain ⟨r0, r1, -⟩ := HBD.out (k + 1) (by omega)
        obtain ⟨gp, hgp⟩ : ∃ gp, gapF xs ms bs k = gp := ⟨_, rfl⟩
        have hge : gp = max (surf xs ms bs k - surf xs ms bs (k + 1)) (-(surf xs ms bs k - surf xs ms bs (k + 1))) := hgp.symm
        obtain ⟨n1', n2'⟩ := steep_next xs ms bs k
        rw [hgp, ← HS.out.2] at n1' n2'
        generalize surf xs ms bs k = s at *
        generalize surf xs ms bs (k + 1) = t at *
        obtain ⟨dr, hdr⟩ : ∃ dr, s - t = dr := ⟨_, rfl⟩
        rw [hdr] at HC hge
        have g0 : -161000000 ≤ dr ∧ dr ≤ 161000000 := by omega
        clear hdr s0 s1 r0 r1 hgp
        by_cases hd : dr < 0
        · have hq : gp = -dr := by omega
          subst hq
          clear hge
          by_cases hg : -dr > v
          · have HN := Lib.hid (n1' hg)
            clear n1' n2'
            go_wp2_with (go_at_call 32; ((with_reducible refine (HC.out _ HF.out.gr).mono ?_); rintro e w4 ⟨rfl, hg⟩; have HF2 := Lib.hid (HF.out.on hg); clear hg))
            go_roundw
            case rel => exact ⟨k + 1, k, -dr, by omega, by go_num, rfl, rfl, Lib.hid ⟨by rw [HN.out], by rw [HN.out]⟩, HF2⟩
            case measure => simp [intOf]; omega
          · have HN := Lib.hid (n2' hg)
            clear n1' n2'
            go_wp2_with (go_at_call 32; ((with_reducible refine (HC.out _ HF.out.gr).mono ?_); rintro e w4 ⟨rfl, hg⟩; have HF2 := Lib.hid (HF.out.on hg); clear hg))
            go_roundw
            case rel => exact ⟨k + 1, u, v, by omega, by go_num, rfl, rfl, Lib.hid ⟨by rw [HN.out]; exact HS.out.1, by rw [HN.out]; exact HS.out.2⟩, HF2⟩
            case measure => simp [intOf]; omega
        · have hq : gp = dr := by omega
          subst hq
          clear hge
          by_cases hg : gp > v
          · have HN := Lib.hid (n1' hg)
            clear n1' n2'
            go_wp2_with (go_at_call 32; ((with_reducible refine (HC.out _ HF.out.gr).mono ?_); rintro e w4 ⟨rfl, hg⟩; have HF2 := Lib.hid (HF.out.on hg); clear hg))
            go_roundw
            case rel => exact ⟨k + 1, k, gp, by omega, by go_num, rfl, rfl, Lib.hid ⟨by rw [HN.out], by rw [HN.out]⟩, HF2⟩
            case measure => simp [intOf]; omega
          · have HN := Lib.hid (n2' hg)
            clear n1' n2'
            go_wp2_with (go_at_call 32; ((with_reducible refine (HC.out _ HF.out.gr).mono ?_); rintro e w4 ⟨rfl, hg⟩; have HF2 := Lib.hid (HF.out.on hg); clear hg))
            go_roundw
            case rel => exact ⟨k + 1, u, v, by omega, by go_num, rfl, rfl, Lib.hid ⟨by rw [HN.out]; exact HS.out.1, by rw [HN.out]; exact HS.out.2⟩, HF2⟩
            case measure => simp [intOf]; omega
      · obtain rfl : p = k := by omega
        go_wp2_with fail
        go_ret
        exact ⟨congrArg (fun z => Ending.returned (.int .i64 z)) HS.out.1, HF.out.gr⟩
end Go.Proofs.Ytjmmdfphhpfbfaa.State
