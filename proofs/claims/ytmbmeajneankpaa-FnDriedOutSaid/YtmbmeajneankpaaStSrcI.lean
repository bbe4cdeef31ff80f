/- Rain and losses: the program's isSource, partsOfSource, RainOn, Soak, DryOut, as contracts: what each answers, in memory of the call's own; nothing that was there is written (written by wip/tools/stsrc.py).
   Conditions: at most 2^20 leaves and numbers. -/
import Derived.Test.YtmbmeajneankpaaStSrcP
import Derived.Test.YtmbmeajneankpaaStLedI
import Derived.Test.YtmbmeajneankpaaStRestI
import Derived.Deep.OwnRows
set_option maxRecDepth 100000
namespace Go.Proofs.Ytmbmeajneankpaa.State
open Go.ChangeShapes Go.WideShapes Go.ChangeAt Go.RowKit Go.Joins Go.Proofs.Ytmbmeajneankpaa.Cell Go.Proofs.Ytmbmeajneankpaa.Mesh Go.Proofs.Ytmbmeajneankpaa.Law Go.Proofs.Ytmbmeajneankpaa.Ints Go.Proofs.Ytmbmeajneankpaa.Draws Go.Deep
set_option linter.unusedVariables false

/-- A row made of zeros, and a number stored into a row of the call's own. -/
theorem makeRow_is (w : World) (n : Nat) (hn : n ≤ 1048576) : (Instr.makeSlice 27 (.int .i64 (n : Int)) (.int .i64 (n : Int))).run Try.prog w = .ok (.slice (some ⟨w.heap.size, 0, none⟩) n n) (w.alloc (.cells (madeCells #[.int .i64 0] n) 3)) := by
  obtain ⟨i0, hi, hz0, hz1, hz2⟩ := info_parts infoInt
  have h := run_make (P := Try.prog) (w := w) 27 3 i0 _ Try.underlying27 hi hz0 .i64 .i64 (n : Int) (n : Int) (by omega) (by omega) (by rw [hz2]; omega) (by omega)
  simpa [hz1, Value.cells] using h
theorem ownMade (w : World) (n : Nat) (hn : n ≤ 1048576) (base : Nat) (hb : base ≤ w.heap.size) : (w.alloc (.cells (madeCells #[.int .i64 0] n) 3)).ownsRow base 3 1 (.slice (some ⟨w.heap.size, 0, none⟩) n n) n (vals (List.replicate n 0)) := by
  refine ⟨by rw [vals_len, List.length_replicate, Nat.mul_one], .inr ⟨w.heap.size, n, _, rfl, hb, heap_alloc_new w _, Nat.le_refl _, by unfold maxLen; omega, by rw [size_madeCells, Nat.mul_one], ?_⟩⟩
  rw [Nat.mul_one, List.take_of_length_le (by simp [size_madeCells])]
  refine List.ext_getElem? fun j => ?_
  by_cases hj : j < n
  · rw [vals_at (List.getElem?_replicate_of_lt hj)]
    simp [madeCells, hj, Nat.mod_one]
  · rw [List.getElem?_eq_none (by simp [size_madeCells]; omega), List.getElem?_eq_none (by rw [vals_len, List.length_replicate]; omega)]
theorem Held.storeRow {w W : World} {gs : List Grp} {g n c : Nat} {xs : List Int} (h : Held w W gs) (k : Nat) (hk : gs[k]? = some (rowG 3 1 (.slice (some ⟨g, 0, none⟩) n c) n (vals xs))) (j : Nat) (x : Int) :
    Held w (W.setCell ⟨g, j, none⟩ (.int .i64 x)) (gs.set k (rowG 3 1 (.slice (some ⟨g, 0, none⟩) n c) n (vals (xs.set j x)))) := by
  have ho : W.ownsRow 0 3 1 (.slice (some ⟨g, 0, none⟩) n c) n (vals xs) := h.nth k hk
  have hs := ho.stored j (.int .i64 x)
  rw [← vals_set] at hs
  exact h.turn k hk (Turned.of hs.2) rfl hs.1
theorem zeros_upto (n : Nat) (g : Nat → Int) : List.replicate n (0 : Int) = gen n (upto 0 g fun _ => 0) := by
  refine List.ext_getElem? fun j => ?_
  by_cases hj : j < n
  · rw [List.getElem?_replicate_of_lt hj, gen_at _ hj]; rfl
  · rw [List.getElem?_eq_none (by rw [List.length_replicate]; omega), List.getElem?_eq_none (by rw [gen_len]; omega)]
theorem set_same {xs : List Int} {j : Nat} {y : Int} (h : xs[j]? = some y) : xs.set j y = xs := by
  refine List.ext_getElem? fun k => ?_
  by_cases e : j = k
  · subst e; rw [List.getElem?_set_self (List.getElem?_eq_some_iff.1 h).1, h]
  · rw [List.getElem?_set_ne e]
theorem widthS_g (l : Int) (w : World) : Calls Try.prog 66 #[.int .i64 l] w fun e w' => e = .returned (.int .i64 (widthOf l)) ∧ w.grownBy w' none :=
  (width_is l w).mono fun e w' ⟨he, hw⟩ => ⟨he, by rw [hw]; exact Cell.grown_refl _⟩

set_option maxHeartbeats 2000000 in
theorem isSource_is (a : Int) (w : World) : Calls Try.prog 30 #[.int .i64 a] w fun e w' => e = .returned (.bool (amtB a)) ∧ w.grownBy w' none := by
  by_cases h1 : 0 ≤ a
  case neg =>
    rw [show amtB a = false from decide_eq_false (by omega)]
    go_enter Try.func30, Try.ntmps30
    go_wp2
    go_ret
    exact ⟨rfl, Cell.grown_refl _⟩
  by_cases h2 : a ≤ 10000
  case neg =>
    rw [show amtB a = false from decide_eq_false (by omega)]
    go_enter Try.func30, Try.ntmps30
    go_wp2
    go_ret
    exact ⟨rfl, Cell.grown_refl _⟩
  rw [show amtB a = true from decide_eq_true (by omega)]
  go_enter Try.func30, Try.ntmps30
  go_wp2
  go_ret
  exact ⟨rfl, Cell.grown_refl _⟩

set_option maxHeartbeats 8000000 in
/-- Each leaf's part. -/
theorem partsOf_is (R : Int) (a1 a2 a3 a4 : Option Addr) (n1 n2 n3 n4 c1 c2 c3 c4 : Nat) (xs : List C3) (ms ts bs : List Int) (a : Int) (w : World) (h : ReadsS w a1 a2 a3 a4 n1 n2 n3 n4 xs ms ts bs) (ha : amtB a = true) (h1 : n1 ≤ 1048576) :
    Calls Try.prog 33 #[.agg #[.int .i64 R, .slice a1 n1 c1, .slice a2 n2 c2, .slice a3 n3 c3, .slice a4 n4 c4], .int .i64 a] w fun e w' =>
      ∃ g, e = .returned (.slice (some ⟨g, 0, none⟩) n1 n1) ∧ w'.ownsRow w.heap.size 3 1 (.slice (some ⟨g, 0, none⟩) n1 n1) n1 (vals (gen n1 (partN a xs))) ∧ w.grownBy w' none := by
  have HE := Lib.hid ((Held.nil w).box 29 #[.int .i64 R, .slice a1 n1 c1, .slice a2 n2 c2, .slice a3 n3 c3, .slice a4 n4 c4])
  have HRL := Lib.hid h.l
  have hni : (n1 : Int) ≤ 1048576 := by omega
  have HPF := Lib.hid fun k => part_facts ha xs k
  have HDF := Lib.hid (show ∀ k u, Calls Try.prog 65 #[.int .i64 (a * widthOf (lvAt xs k)), .int .i64 16] u fun e w' => e = .returned (.int .i64 (partN a xs k)) ∧ u.grownBy w' none from fun k u => by
    have q := Draw.floor_is (a * widthOf (lvAt xs k)) 16 (by have := (part_facts ha xs k).1; omega) (by omega) u
    rw [if_neg (by decide)] at q
    exact q)
  clear h ha
  go_enter Try.func33, Try.ntmps33
  go_upto_region 1 with fail
  generalize w.alloc (.cells #[.int .i64 R, .slice a1 n1 c1, .slice a2 n2 c2, .slice a3 n3 c3, .slice a4 n4 c4] 29) = W0 at *
  obtain ⟨p0, p1, p2, p3, p4⟩ := box5 (HE.out.nth 0 rfl)
  have hmk := makeRow_is W0 n1 h1
  go_wp2_with fail
  have HL := Lib.hid (HE.out.row (World.grownBy_alloc W0 (.cells (madeCells #[.int .i64 0] n1) 3) none) (ownMade W0 n1 h1 W0.heap.size (Nat.le_refl _)))
  rw [zeros_upto n1 (partN a xs)] at HL
  obtain ⟨g, hg⟩ : ∃ g, g = W0.heap.size := ⟨_, rfl⟩
  rw [← hg] at HL ⊢
  clear hg hmk p0 p1 p2 p3 p4 HE h1
  generalize W0.alloc (.cells (madeCells #[.int .i64 0] n1) 3) = W1 at *
  go_loopw [14] (fun i wr => ∃ j : Nat, (j : Int) ≤ n1 ∧ i = .int .i64 j ∧ Hid (Held w wr [boxG w.heap.size 29 #[.int .i64 R, .slice a1 n1 c1, .slice a2 n2 c2, .slice a3 n3 c3, .slice a4 n4 c4], rowG 3 1 (.slice (some ⟨g, 0, none⟩) n1 n1) n1 (vals (gen n1 (upto j (partN a xs) fun _ => 0)))])) (fun i _ => n1 - (intOf i).toNat)
  case atStart => exact ⟨0, by omega, rfl, HL⟩
  case round =>
    clear HL
    obtain ⟨j, hj, rfl, HF⟩ := hrel
    obtain ⟨p0, p1, p2, p3, p4⟩ := box5 (HF.out.nth 0 rfl)
    by_cases hlt : (j : Int) < n1
    · have HK := Lib.hid (show j < n1 by omega)
      obtain ⟨r, l, i, hx⟩ := get_of_lt HRL.out.len (k := j) HK.out
      obtain ⟨g1, rfl, -, -, d1, -⟩ := (HRL.out.on HF.out.gr).at_ j _ hx
      dsimp only at d1
      have hll : lvAt xs j = l := by simp [lvAt, hx]
      have hpf := (HPF.out j).1
      have HD := Lib.hid (HDF.out j)
      rw [hll] at hpf HD
      have hw : IntKind.i64.wrap (a * widthOf l) = a * widthOf l := IntWalk.i64_in _ (by omega)
      have HST := Lib.hid (show ∀ u, Held w u _ → (∃ z, u.cell? ⟨g, j, none⟩ = some z) ∧ u.frozen? ⟨g, j, none⟩ = false from fun u (hu : Held w u (gsOf HF.out)) => by
        obtain ⟨g', z, e, -, m2, u2⟩ := own_cellI (hu.nth 1 rfl) HK.out
        cases e
        exact ⟨⟨_, m2⟩, u2⟩)
      have HT := Lib.hid (upto_set (n := n1) (k := j) (partN a xs) fun _ => 0)
      clear hx hll hpf
      generalize partN a xs j = V at HD HT
      go_wp2_with (first
        | (go_at_call 66; ((with_reducible refine (width_is l _).mono ?_); rintro e w3 ⟨rfl, rfl⟩))
        | (go_at_call 65; ((with_reducible refine (HD.out _).mono ?_); rintro e w4 ⟨rfl, hg⟩; have HF2 := Lib.hid (HF.out.on hg); obtain ⟨⟨z, m2⟩, u2⟩ := HST.out _ HF2.out; clear hg)))
      go_roundw
      case rel => exact ⟨j + 1, by omega, by go_num, by have q := State.Held.storeRow HF2.out 1 rfl j V; rw [HT.out] at q; exact Lib.hid q⟩
      case measure => simp [intOf]; omega
    · obtain rfl : n1 = j := by omega
      go_wp2_with fail
      go_ret
      have hr := HF.out.own 1 rfl
      rw [upto_all] at hr
      exact ⟨g, rfl, hr, HF.out.gr⟩

set_option maxHeartbeats 16000000 in
theorem rainOn_is (R : Int) (a1 a2 a3 a4 : Option Addr) (n1 n2 n3 n4 c1 c2 c3 c4 : Nat) (xs : List C3) (ms ts bs : List Int) (a : Int) (w : World) (h : ReadsS w a1 a2 a3 a4 n1 n2 n3 n4 xs ms ts bs) (h1 : n1 ≤ 1048576) (h2 : n2 ≤ 1048576) (h3 : n3 ≤ 1048576) (h4 : n4 ≤ 1048576) :
    Calls Try.prog 11 #[.agg #[.int .i64 R, .slice a1 n1 c1, .slice a2 n2 c2, .slice a3 n3 c3, .slice a4 n4 c4], .int .i64 a] w (GivesSL R n1 n2 n3 n4 xs (rnM R xs ms ts bs a) ts bs (rnL R xs ms ts bs a) 0 0 0 w) := by
  have HOK := Lib.hid (show ∀ u, w.grownBy u none → Calls Try.prog 29 #[.agg #[.int .i64 R, .slice a1 n1 c1, .slice a2 n2 c2, .slice a3 n3 c3, .slice a4 n4 c4]] u fun e w' => e = .returned (.bool (stOk R xs ms ts bs)) ∧ u.grownBy w' none from fun u hu => stateOk_is R a1 a2 a3 a4 n1 n2 n3 n4 c1 c2 c3 c4 xs ms ts bs u (h.on hu) h1 h2 h3 h4)
  have HIS := Lib.hid (show ∀ u, Calls Try.prog 30 #[.int .i64 a] u fun e w' => e = .returned (.bool (amtB a)) ∧ u.grownBy w' none from fun u => isSource_is a u)
  have HCP := Lib.hid (show ∀ u, w.grownBy u none → Calls Try.prog 31 #[.agg #[.int .i64 R, .slice a1 n1 c1, .slice a2 n2 c2, .slice a3 n3 c3, .slice a4 n4 c4]] u (GivesS R n1 n2 n3 n4 xs ms ts bs u) from fun u hu => stClone_is R a1 a2 a3 a4 n1 n2 n3 n4 c1 c2 c3 c4 xs ms ts bs u (h.on hu) h1 h2 h3 h4)
  have he := (((Held.nil w).box 29 #[.int .i64 R, .slice a1 n1 c1, .slice a2 n2 c2, .slice a3 n3 c3, .slice a4 n4 c4]).box 29 #[.int .i64 0, .slice none 0 0, .slice none 0 0, .slice none 0 0, .slice none 0 0]).box 33 #[.int .i64 0, .int .i64 0, .int .i64 0, .int .i64 0]
  simp only [World.size_alloc] at he
  have HE := Lib.hid he; clear he
  cases hs : stOk R xs ms ts bs with
  | false =>
    have hp : srcB R xs ms ts bs a = false := by unfold srcB; rw [hs]; rfl
    unfold rnM rnL
    rw [hp]
    rw [hs] at HOK
    simp only [Bool.false_eq_true, if_false]
    clear h h1 h2 h3 h4 hs hp
    go_enter Try.func11, Try.ntmps11
    go_upto_region 1 with fail
    generalize ((w.alloc (.cells #[.int .i64 R, .slice a1 n1 c1, .slice a2 n2 c2, .slice a3 n3 c3, .slice a4 n4 c4] 29)).alloc (.cells #[.int .i64 0, .slice none 0 0, .slice none 0 0, .slice none 0 0, .slice none 0 0] 29)).alloc (.cells #[.int .i64 0, .int .i64 0, .int .i64 0, .int .i64 0] 33) = W0 at *
    obtain ⟨p0, p1, p2, p3, p4⟩ := box5 (HE.out.nth 0 rfl)
    go_wp2_with (first
      | (go_at_call 29; ((with_reducible refine (HOK.out _ HE.out.gr).mono ?_); rintro e w1 ⟨rfl, hg⟩; have HE1 := Lib.hid (HE.out.on hg); obtain ⟨z0, z1, z2, z3, z4⟩ := box5 (HE1.out.nth 0 rfl); clear hg))
      | (go_at_call 30; ((with_reducible refine (HIS.out _).mono ?_); rintro e w2 ⟨rfl, hg⟩; have HE1 := Lib.hid (HE1.out.on hg); obtain ⟨z0, z1, z2, z3, z4⟩ := box5 (HE1.out.nth 0 rfl); clear hg))
      | (go_at_call 31; ((with_reducible refine (HCP.out _ HE1.out.gr).mono ?_); rintro e w2 ⟨q1, d1, q2, d2, q3, d3, q4, d4, rfl, ho, hg⟩; have HE2 := Lib.hid (State.Held.state HE1.out hg ho); obtain ⟨r0, r1, r2, r3, r4⟩ := box5 (HE2.out.nth 1 rfl); obtain ⟨f0, f1, f2, f3, f4⟩ := free5 (HE2.out.nth 1 rfl); obtain ⟨x0, x1, x2, x3⟩ := cells4 (HE2.out.nth 2 rfl); obtain ⟨e0, e1, e2, e3⟩ := frees4 (HE2.out.nth 2 rfl); clear ho hg)))
    have he := (HE2.out.put5 1 rfl (.int .i64 R) (.slice q1 n1 d1) (.slice q2 n2 d2) (.slice q3 n3 d3) (.slice q4 n4 d4)).put4 2 rfl (.int .i64 0) (.int .i64 0) (.int .i64 0) (.int .i64 0)
    exact bodyPost_ret_by (results_two_rows (fn := Try.f11) rfl _ _ (w.heap.size + 1) (w.heap.size + 2) _ _ _ _ (0, 0) (0, 0) _ _ rfl rfl (he.nth 1 rfl) (he.nth 2 rfl) Try.underlying29 rfl (by kernel_rfl) Try.underlying33 rfl (by kernel_rfl)) rfl ⟨q1, d1, q2, d2, q3, d3, q4, d4, rfl, Held.stateOwn he 3 rfl, he.gr⟩
  | true =>
  cases hb : amtB a with
  | false =>
    have hp : srcB R xs ms ts bs a = false := by unfold srcB; rw [hs, hb]; rfl
    unfold rnM rnL
    rw [hp]
    rw [hs] at HOK
    rw [hb] at HIS
    simp only [Bool.false_eq_true, if_false]
    clear h h1 h2 h3 h4 hs hp hb
    go_enter Try.func11, Try.ntmps11
    go_upto_region 1 with fail
    generalize ((w.alloc (.cells #[.int .i64 R, .slice a1 n1 c1, .slice a2 n2 c2, .slice a3 n3 c3, .slice a4 n4 c4] 29)).alloc (.cells #[.int .i64 0, .slice none 0 0, .slice none 0 0, .slice none 0 0, .slice none 0 0] 29)).alloc (.cells #[.int .i64 0, .int .i64 0, .int .i64 0, .int .i64 0] 33) = W0 at *
    obtain ⟨p0, p1, p2, p3, p4⟩ := box5 (HE.out.nth 0 rfl)
    go_wp2_with (first
      | (go_at_call 29; ((with_reducible refine (HOK.out _ HE.out.gr).mono ?_); rintro e w1 ⟨rfl, hg⟩; have HE1 := Lib.hid (HE.out.on hg); obtain ⟨z0, z1, z2, z3, z4⟩ := box5 (HE1.out.nth 0 rfl); clear hg))
      | (go_at_call 30; ((with_reducible refine (HIS.out _).mono ?_); rintro e w2 ⟨rfl, hg⟩; have HE1 := Lib.hid (HE1.out.on hg); obtain ⟨z0, z1, z2, z3, z4⟩ := box5 (HE1.out.nth 0 rfl); clear hg))
      | (go_at_call 31; ((with_reducible refine (HCP.out _ HE1.out.gr).mono ?_); rintro e w2 ⟨q1, d1, q2, d2, q3, d3, q4, d4, rfl, ho, hg⟩; have HE2 := Lib.hid (State.Held.state HE1.out hg ho); obtain ⟨r0, r1, r2, r3, r4⟩ := box5 (HE2.out.nth 1 rfl); obtain ⟨f0, f1, f2, f3, f4⟩ := free5 (HE2.out.nth 1 rfl); obtain ⟨x0, x1, x2, x3⟩ := cells4 (HE2.out.nth 2 rfl); obtain ⟨e0, e1, e2, e3⟩ := frees4 (HE2.out.nth 2 rfl); clear ho hg)))
    have he := (HE2.out.put5 1 rfl (.int .i64 R) (.slice q1 n1 d1) (.slice q2 n2 d2) (.slice q3 n3 d3) (.slice q4 n4 d4)).put4 2 rfl (.int .i64 0) (.int .i64 0) (.int .i64 0) (.int .i64 0)
    exact bodyPost_ret_by (results_two_rows (fn := Try.f11) rfl _ _ (w.heap.size + 1) (w.heap.size + 2) _ _ _ _ (0, 0) (0, 0) _ _ rfl rfl (he.nth 1 rfl) (he.nth 2 rfl) Try.underlying29 rfl (by kernel_rfl) Try.underlying33 rfl (by kernel_rfl)) rfl ⟨q1, d1, q2, d2, q3, d3, q4, d4, rfl, Held.stateOwn he 3 rfl, he.gr⟩
  | true =>
    unfold rnM rnL
    rw [hs] at HOK
    rw [hb] at HIS
    have hp : srcB R xs ms ts bs a = true := by unfold srcB; rw [hs, hb]; rfl
    simp only [hp, if_true]
    obtain ⟨z1, z2, z3, z4⟩ := st_sizes hs
    have hn1 := h.l.len; have hn2 := h.m.len; have hn3 := h.t.len
    obtain rfl : n2 = n1 := by omega
    obtain rfl : n3 = n2 := by omega
    obtain ⟨n, hn⟩ : ∃ n, n = n3 := ⟨_, rfl⟩
    subst hn
    have hrs := rain_small hb xs n
    have HRS := Lib.hid fun k => rain_small hb xs k
    have HFB : fits a xs ms = decide (ms.sum + rainN a xs n ≤ 10000000) := by rw [fits, hn2]
    have HLB := Lib.hid (fun x hx => mass_bounds (stOk_parts hs).2.2.1 (stOk_parts hs).2.1.2.1 (m := x) hx)
    have HPB := Lib.hid (show ∀ x ∈ gen n (partN a xs), 0 ≤ x ∧ x ≤ 10000 from fun x hx => by
      obtain ⟨k, -, rfl⟩ := List.mem_map.1 hx
      exact (part_facts hb xs k).2)
    have H1 := Lib.hid h1
    have HMM : rainM a xs ms = if fits a xs ms = true then wetM a xs ms else ms := rfl
    have HLL : rainL a xs ms = if fits a xs ms = true then rainN a xs n else 0 := by rw [rainL, hn2]
    rw [HMM, HLL]
    have HWM : wetM a xs ms = gen n (wetAt a xs ms) := by rw [wetM, hn2]
    rw [HWM]
    have HMS := Lib.hid (show ms = gen n (msAt ms) by rw [← hn2, gen_ms])
    have HFB' := Lib.hid HFB
    have HLF := Lib.hid fun k => leaf_range hs k
    have HPF := Lib.hid fun k => (part_facts hb xs k).2
    have HN := Lib.hid hn2
    have HT0 := Lib.hid hn3
    have HK0 := Lib.hid (show 0 < n by omega)
    have hni : (n : Int) ≤ 128 := by omega
    have HOB := Lib.hid (show ∀ u, w.grownBy u none → Calls Try.prog 32 #[.agg #[.int .i64 R, .slice a1 n c1, .slice a2 n c2, .slice a3 n c3, .slice a4 n4 c4]] u _ from fun u hu => openBooks_is R a1 a2 a3 a4 n n n n4 c1 c2 c3 c4 xs ms ts bs u (h.on hu) h1 h2 h3 h4)
    have HPO := Lib.hid (show ∀ u, w.grownBy u none → Calls Try.prog 33 #[.agg #[.int .i64 R, .slice a1 n c1, .slice a2 n c2, .slice a3 n c3, .slice a4 n4 c4], .int .i64 a] u _ from fun u hu => partsOf_is R a1 a2 a3 a4 n n n n4 c1 c2 c3 c4 xs ms ts bs a u (h.on hu) hb h1)
    clear h h1 h2 h3 h4 hs hp hb z1 z2 z3 z4 hn1 hn2 hn3 HMM HLL HWM HFB
    go_enter Try.func11, Try.ntmps11
    go_upto_region 1 with fail
    generalize ((w.alloc (.cells #[.int .i64 R, .slice a1 n c1, .slice a2 n c2, .slice a3 n c3, .slice a4 n4 c4] 29)).alloc (.cells #[.int .i64 0, .slice none 0 0, .slice none 0 0, .slice none 0 0, .slice none 0 0] 29)).alloc (.cells #[.int .i64 0, .int .i64 0, .int .i64 0, .int .i64 0] 33) = W0 at *
    obtain ⟨p0, p1, p2, p3, p4⟩ := box5 (HE.out.nth 0 rfl)
    go_upto_region 3 with (first
      | (go_at_call 29; ((with_reducible refine (HOK.out _ HE.out.gr).mono ?_); rintro e w1 ⟨rfl, hg⟩; have HE1 := Lib.hid (HE.out.on hg); clear hg))
      | (go_at_call 30; ((with_reducible refine (HIS.out _).mono ?_); rintro e w2 ⟨rfl, hg⟩; have HE2 := Lib.hid (HE1.out.on hg); clear hg)))
    clear p0 p1 p2 p3 p4 HE HE1 HOK HIS HCP
    obtain ⟨p0, p1, p2, p3, p4⟩ := box5 (HE2.out.nth 0 rfl)
    go_upto_region 4 with (go_at_call 32; ((with_reducible refine (HOB.out _ HE2.out.gr).mono ?_); rintro e w3 ⟨B, q1, d1, q2, d2, q3, d3, q4, d4, rfl, hh⟩; have HE3 := Lib.hid (HE2.out.app hh); clear hh))
    obtain ⟨k2, y2, rfl, -, -, -⟩ := own_cellI (OwnS.m (HE3.out.nth 3 rfl)) HK0.out
    obtain ⟨k3, y3, rfl, -, -, -⟩ := own_cellI (OwnS.t (HE3.out.nth 3 rfl)) HK0.out
    clear p0 p1 p2 p3 p4 HE2 HOB
    obtain ⟨p0, p1, p2, p3, p4⟩ := box5 (HE3.out.nth 0 rfl)
    go_upto_region 5 with (go_at_call 33; ((with_reducible refine (HPO.out _ HE3.out.gr).mono ?_); rintro e w4 ⟨gp, rfl, ho, hg⟩; have HE4 := Lib.hid (HE3.out.row hg ho); clear ho hg))
    clear p0 p1 p2 p3 p4 HE3 HPO
    have HSU := Lib.hid (show ∀ u, w4.grownBy u none → Calls Try.prog 35 #[.slice (some ⟨gp, 0, none⟩) n n] u fun e w' => e = .returned (.int .i64 (rainN a xs n)) ∧ u.grownBy w' none from fun u hu => sumOf_is _ n n _ u (own_readsI ((HE4.out.on hu).nth 5 rfl)) H1.out (fun x hx => by have := HPB.out x hx; omega))
    have HHR := Lib.hid (show ∀ u, w4.grownBy u none → Calls Try.prog 34 #[.pointer (some ⟨B, 0, none⟩), .int .i64 (rainN a xs n)] u fun e w' => e = .returned (.bool (fits a xs ms)) ∧ u.grownBy w' none from fun u hu => by
      have q := hasRoom_is R q1 q4 k2 k3 n n n n4 d1 d2 d3 d4 B 4 3 xs ms ts bs (rainN a xs n) 0 0 0 0 (HE4.out.on hu) rfl rfl H1.out HLB.out (by omega)
      rw [← HFB'.out] at q
      exact q)
    generalize fits a xs ms = rb at *
    cases rb with
    | false =>
      simp only [Bool.false_eq_true, if_false]
      go_upto_region 11 with (first
        | (go_at_call 35; ((with_reducible refine (HSU.out _ (Cell.grown_refl _)).mono ?_); rintro e w5 ⟨rfl, hg⟩; have HG5 := Lib.hid hg; clear hg))
        | (go_at_call 34; ((with_reducible refine (HHR.out _ HG5.out).mono ?_); rintro e w6 ⟨rfl, hg⟩; have HE6 := Lib.hid ((HE4.out.on HG5.out).on hg); clear hg)))
      clear HE4 HSU HHR HG5
      · obtain ⟨⟨p0, p1, p2, p3, p4⟩, p5, p6, p7, p8⟩ := cells9 (HE6.out.nth 4 rfl)
        obtain ⟨r0, r1, r2, r3, r4⟩ := box5 (HE6.out.nth 1 rfl)
        obtain ⟨f0, f1, f2, f3, f4⟩ := free5 (HE6.out.nth 1 rfl)
        obtain ⟨x0, x1, x2, x3⟩ := cells4 (HE6.out.nth 2 rfl)
        obtain ⟨e0, e1, e2, e3⟩ := frees4 (HE6.out.nth 2 rfl)
        have n14 : w.heap.size + 1 ≠ B := HE6.out.boxNe 1 4 (by decide) rfl rfl
        have n24 : w.heap.size + 1 + 1 ≠ B := HE6.out.boxNe 2 4 (by decide) rfl rfl
        go_region
        all_goals
          go_wp2_with fail
          have he := ((HE6.out.put5 1 rfl (.int .i64 R) (.slice q1 n d1) (.slice (some ⟨k2, 0, none⟩) n d2) (.slice (some ⟨k3, 0, none⟩) n d3) (.slice q4 n4 d4)).put4 2 rfl (.int .i64 0) (.int .i64 0) (.int .i64 0) (.int .i64 0)).on (Mesh.gr_drew (Cell.grown_refl _))
          exact bodyPost_ret_by (results_two_rows (fn := Try.f11) rfl _ _ (w.heap.size + 1) (w.heap.size + 2) _ _ _ _ (0, 0) (0, 0) _ _ rfl rfl (he.nth 1 rfl) (he.nth 2 rfl) Try.underlying29 rfl (by kernel_rfl) Try.underlying33 rfl (by kernel_rfl)) rfl ⟨q1, d1, some ⟨k2, 0, none⟩, d2, some ⟨k3, 0, none⟩, d3, q4, d4, by first | rfl | (simp; done), by exact Held.stateOwn he 3 rfl, he.gr⟩
    | true =>
      simp only [if_true]
      go_upto_region 6 with (first
        | (go_at_call 35; ((with_reducible refine (HSU.out _ (Cell.grown_refl _)).mono ?_); rintro e w5 ⟨rfl, hg⟩; have HG5 := Lib.hid hg; clear hg))
        | (go_at_call 34; ((with_reducible refine (HHR.out _ HG5.out).mono ?_); rintro e w6 ⟨rfl, hg⟩; have HE6 := Lib.hid ((HE4.out.on HG5.out).on hg); clear hg)))
      have HE7 : Hid (Held w w6 [boxG w.heap.size 29 #[.int .i64 R, .slice a1 n c1, .slice a2 n c2, .slice a3 n c3, .slice a4 n4 c4], boxG (w.heap.size + 1) 29 #[.int .i64 0, .slice none 0 0, .slice none 0 0, .slice none 0 0, .slice none 0 0], boxG (w.heap.size + 2) 33 #[.int .i64 0, .int .i64 0, .int .i64 0, .int .i64 0], stateG (.slice q1 n d1) (.slice (some ⟨k2, 0, none⟩) n d2) (.slice (some ⟨k3, 0, none⟩) n d3) (.slice q4 n4 d4) n n n n4 xs (gen n (upto 0 (wetAt a xs ms) (msAt ms))) ts bs, boxG B 63 #[.int .i64 R, .slice q1 n d1, .slice (some ⟨k2, 0, none⟩) n d2, .slice (some ⟨k3, 0, none⟩) n d3, .slice q4 n4 d4, .int .i64 (rainN a xs 0), .int .i64 0, .int .i64 0, .int .i64 0], rowG 3 1 (.slice (some ⟨gp, 0, none⟩) n n) n (vals (gen n (partN a xs)))]) := by
        have q := HE6.out
        rw [upto_zero, ← HMS.out]
        exact Lib.hid q
      clear HE4 HSU HHR HG5 HE6
      go_wp2_with fail
      go_loopw [31] (fun i wr => ∃ j : Nat, (j : Int) ≤ n ∧ i = .int .i64 j ∧ Hid (Held w wr [boxG w.heap.size 29 #[.int .i64 R, .slice a1 n c1, .slice a2 n c2, .slice a3 n c3, .slice a4 n4 c4], boxG (w.heap.size + 1) 29 #[.int .i64 0, .slice none 0 0, .slice none 0 0, .slice none 0 0, .slice none 0 0], boxG (w.heap.size + 2) 33 #[.int .i64 0, .int .i64 0, .int .i64 0, .int .i64 0], stateG (.slice q1 n d1) (.slice (some ⟨k2, 0, none⟩) n d2) (.slice (some ⟨k3, 0, none⟩) n d3) (.slice q4 n4 d4) n n n n4 xs (gen n (upto j (wetAt a xs ms) (msAt ms))) ts bs, boxG B 63 #[.int .i64 R, .slice q1 n d1, .slice (some ⟨k2, 0, none⟩) n d2, .slice (some ⟨k3, 0, none⟩) n d3, .slice q4 n4 d4, .int .i64 (rainN a xs j), .int .i64 0, .int .i64 0, .int .i64 0], rowG 3 1 (.slice (some ⟨gp, 0, none⟩) n n) n (vals (gen n (partN a xs)))])) (fun i _ => n - (intOf i).toNat)
      case atStart => exact ⟨0, by omega, rfl, HE7⟩
      case round =>
        clear HE7
        obtain ⟨j, hj, rfl, HF⟩ := hrel
        by_cases hlt : (j : Int) < n
        · have HK := Lib.hid (show j < n by omega)
          have HGV := Lib.hid (show ∀ u, Held w u (gsOf HF.out) → Calls Try.prog 36 #[.pointer (some ⟨B, 0, none⟩), .int .i64 (j : Int), .int .i64 (partN a xs j), .int .i64 0] u fun e u' => e = .returned (.tuple #[]) ∧ Held w u' [boxG w.heap.size 29 #[.int .i64 R, .slice a1 n c1, .slice a2 n c2, .slice a3 n c3, .slice a4 n4 c4], boxG (w.heap.size + 1) 29 #[.int .i64 0, .slice none 0 0, .slice none 0 0, .slice none 0 0, .slice none 0 0], boxG (w.heap.size + 2) 33 #[.int .i64 0, .int .i64 0, .int .i64 0, .int .i64 0], stateG (.slice q1 n d1) (.slice (some ⟨k2, 0, none⟩) n d2) (.slice (some ⟨k3, 0, none⟩) n d3) (.slice q4 n4 d4) n n n n4 xs (gen n (upto (j + 1) (wetAt a xs ms) (msAt ms))) ts bs, boxG B 63 #[.int .i64 R, .slice q1 n d1, .slice (some ⟨k2, 0, none⟩) n d2, .slice (some ⟨k3, 0, none⟩) n d3, .slice q4 n4 d4, .int .i64 (rainN a xs (j + 1)), .int .i64 0, .int .i64 0, .int .i64 0], rowG 3 1 (.slice (some ⟨gp, 0, none⟩) n n) n (vals (gen n (partN a xs)))] from fun u hu => by
            have l1 := HLF.out j
            have l2 := HPF.out j
            have l3 := HRS.out j
            have gm : (gen n (upto j (wetAt a xs ms) (msAt ms)))[j]? = some (msAt ms j) := by rw [gen_at _ HK.out, upto_here]
            have gt : ts[j]? = some (tsAt ts j) := at_get (xs := ts) (by rw [HT0.out]; exact HK.out)
            have q := give_is R q1 q4 k2 k3 n n n n4 d1 d2 d3 d4 B 4 3 j xs (gen n (upto j (wetAt a xs ms) (msAt ms))) ts bs (partN a xs j) 0 (msAt ms j) (tsAt ts j) (rainN a xs j) 0 0 0 hu rfl rfl (by decide) gm gt (by omega) (by decide) (by omega) (by omega) (by omega) (by decide)
            rw [Int.add_zero, set_same gt, show msAt ms j + partN a xs j = wetAt a xs ms j from rfl, upto_set, show rainN a xs j + partN a xs j = rainN a xs (j + 1) from sum_next j _, Int.add_zero] at q
            exact q)
          obtain ⟨gp', z, e, gz, m2, -⟩ := own_cellI (HF.out.nth 5 rfl) HK.out
          cases e
          rw [gen_at _ HK.out] at gz
          cases gz
          go_wp2_with (go_at_call 36; ((with_reducible refine (HGV.out _ HF.out).mono ?_); rintro e w8 ⟨rfl, hh⟩; have HF2 := Lib.hid hh; clear hh))
          go_roundw
          case rel => exact ⟨j + 1, by omega, by go_num, HF2⟩
          case measure => simp [intOf]; omega
        · obtain rfl : n = j := by omega
          have HE8 := Lib.hid HF.out
          rw [upto_all] at HE8
          clear HF
          go_upto_region 11 with fail
          obtain ⟨⟨p0, p1, p2, p3, p4⟩, p5, p6, p7, p8⟩ := cells9 (HE8.out.nth 4 rfl)
          obtain ⟨r0, r1, r2, r3, r4⟩ := box5 (HE8.out.nth 1 rfl)
          obtain ⟨f0, f1, f2, f3, f4⟩ := free5 (HE8.out.nth 1 rfl)
          obtain ⟨x0, x1, x2, x3⟩ := cells4 (HE8.out.nth 2 rfl)
          obtain ⟨e0, e1, e2, e3⟩ := frees4 (HE8.out.nth 2 rfl)
          have n14 : w.heap.size + 1 ≠ B := HE8.out.boxNe 1 4 (by decide) rfl rfl
          have n24 : w.heap.size + 1 + 1 ≠ B := HE8.out.boxNe 2 4 (by decide) rfl rfl
          go_region
          all_goals
            go_wp2_with fail
            have he := ((HE8.out.put5 1 rfl (.int .i64 R) (.slice q1 n d1) (.slice (some ⟨k2, 0, none⟩) n d2) (.slice (some ⟨k3, 0, none⟩) n d3) (.slice q4 n4 d4)).put4 2 rfl (.int .i64 (rainN a xs n)) (.int .i64 0) (.int .i64 0) (.int .i64 0)).on (Mesh.gr_drew (Cell.grown_refl _))
            exact bodyPost_ret_by (results_two_rows (fn := Try.f11) rfl _ _ (w.heap.size + 1) (w.heap.size + 2) _ _ _ _ (0, 0) (0, 0) _ _ rfl rfl (he.nth 1 rfl) (he.nth 2 rfl) Try.underlying29 rfl (by kernel_rfl) Try.underlying33 rfl (by kernel_rfl)) rfl ⟨q1, d1, some ⟨k2, 0, none⟩, d2, some ⟨k3, 0, none⟩, d3, q4, d4, by first | rfl | (simp; done), by exact Held.stateOwn he 3 rfl, he.gr⟩

set_option maxHeartbeats 16000000 in
theorem soak_is (R : Int) (a1 a2 a3 a4 : Option Addr) (n1 n2 n3 n4 c1 c2 c3 c4 : Nat) (xs : List C3) (ms ts bs : List Int) (a : Int) (w : World) (h : ReadsS w a1 a2 a3 a4 n1 n2 n3 n4 xs ms ts bs) (h1 : n1 ≤ 1048576) (h2 : n2 ≤ 1048576) (h3 : n3 ≤ 1048576) (h4 : n4 ≤ 1048576) :
    Calls Try.prog 12 #[.agg #[.int .i64 R, .slice a1 n1 c1, .slice a2 n2 c2, .slice a3 n3 c3, .slice a4 n4 c4], .int .i64 a] w (GivesSL R n1 n2 n3 n4 xs (skM R xs ms ts bs a) (skT R xs ms ts bs a) bs 0 (skL1 R xs ms ts bs a) 0 (skL3 R xs ms ts bs a) w) := by
  have HOK := Lib.hid (show ∀ u, w.grownBy u none → Calls Try.prog 29 #[.agg #[.int .i64 R, .slice a1 n1 c1, .slice a2 n2 c2, .slice a3 n3 c3, .slice a4 n4 c4]] u fun e w' => e = .returned (.bool (stOk R xs ms ts bs)) ∧ u.grownBy w' none from fun u hu => stateOk_is R a1 a2 a3 a4 n1 n2 n3 n4 c1 c2 c3 c4 xs ms ts bs u (h.on hu) h1 h2 h3 h4)
  have HIS := Lib.hid (show ∀ u, Calls Try.prog 30 #[.int .i64 a] u fun e w' => e = .returned (.bool (amtB a)) ∧ u.grownBy w' none from fun u => isSource_is a u)
  have HCP := Lib.hid (show ∀ u, w.grownBy u none → Calls Try.prog 31 #[.agg #[.int .i64 R, .slice a1 n1 c1, .slice a2 n2 c2, .slice a3 n3 c3, .slice a4 n4 c4]] u (GivesS R n1 n2 n3 n4 xs ms ts bs u) from fun u hu => stClone_is R a1 a2 a3 a4 n1 n2 n3 n4 c1 c2 c3 c4 xs ms ts bs u (h.on hu) h1 h2 h3 h4)
  have he := (((Held.nil w).box 29 #[.int .i64 R, .slice a1 n1 c1, .slice a2 n2 c2, .slice a3 n3 c3, .slice a4 n4 c4]).box 29 #[.int .i64 0, .slice none 0 0, .slice none 0 0, .slice none 0 0, .slice none 0 0]).box 33 #[.int .i64 0, .int .i64 0, .int .i64 0, .int .i64 0]
  simp only [World.size_alloc] at he
  have HE := Lib.hid he; clear he
  cases hs : stOk R xs ms ts bs with
  | false =>
    have hp : srcB R xs ms ts bs a = false := by unfold srcB; rw [hs]; rfl
    unfold skM skT skL1 skL3
    rw [hp]
    rw [hs] at HOK
    simp only [Bool.false_eq_true, if_false]
    clear h h1 h2 h3 h4 hs hp
    go_enter Try.func12, Try.ntmps12
    go_upto_region 1 with fail
    generalize ((w.alloc (.cells #[.int .i64 R, .slice a1 n1 c1, .slice a2 n2 c2, .slice a3 n3 c3, .slice a4 n4 c4] 29)).alloc (.cells #[.int .i64 0, .slice none 0 0, .slice none 0 0, .slice none 0 0, .slice none 0 0] 29)).alloc (.cells #[.int .i64 0, .int .i64 0, .int .i64 0, .int .i64 0] 33) = W0 at *
    obtain ⟨p0, p1, p2, p3, p4⟩ := box5 (HE.out.nth 0 rfl)
    go_wp2_with (first
      | (go_at_call 29; ((with_reducible refine (HOK.out _ HE.out.gr).mono ?_); rintro e w1 ⟨rfl, hg⟩; have HE1 := Lib.hid (HE.out.on hg); obtain ⟨z0, z1, z2, z3, z4⟩ := box5 (HE1.out.nth 0 rfl); clear hg))
      | (go_at_call 30; ((with_reducible refine (HIS.out _).mono ?_); rintro e w2 ⟨rfl, hg⟩; have HE1 := Lib.hid (HE1.out.on hg); obtain ⟨z0, z1, z2, z3, z4⟩ := box5 (HE1.out.nth 0 rfl); clear hg))
      | (go_at_call 31; ((with_reducible refine (HCP.out _ HE1.out.gr).mono ?_); rintro e w2 ⟨q1, d1, q2, d2, q3, d3, q4, d4, rfl, ho, hg⟩; have HE2 := Lib.hid (State.Held.state HE1.out hg ho); obtain ⟨r0, r1, r2, r3, r4⟩ := box5 (HE2.out.nth 1 rfl); obtain ⟨f0, f1, f2, f3, f4⟩ := free5 (HE2.out.nth 1 rfl); obtain ⟨x0, x1, x2, x3⟩ := cells4 (HE2.out.nth 2 rfl); obtain ⟨e0, e1, e2, e3⟩ := frees4 (HE2.out.nth 2 rfl); clear ho hg)))
    have he := (HE2.out.put5 1 rfl (.int .i64 R) (.slice q1 n1 d1) (.slice q2 n2 d2) (.slice q3 n3 d3) (.slice q4 n4 d4)).put4 2 rfl (.int .i64 0) (.int .i64 0) (.int .i64 0) (.int .i64 0)
    exact bodyPost_ret_by (results_two_rows (fn := Try.f12) rfl _ _ (w.heap.size + 1) (w.heap.size + 2) _ _ _ _ (0, 0) (0, 0) _ _ rfl rfl (he.nth 1 rfl) (he.nth 2 rfl) Try.underlying29 rfl (by kernel_rfl) Try.underlying33 rfl (by kernel_rfl)) rfl ⟨q1, d1, q2, d2, q3, d3, q4, d4, rfl, Held.stateOwn he 3 rfl, he.gr⟩
  | true =>
  cases hb : amtB a with
  | false =>
    have hp : srcB R xs ms ts bs a = false := by unfold srcB; rw [hs, hb]; rfl
    unfold skM skT skL1 skL3
    rw [hp]
    rw [hs] at HOK
    rw [hb] at HIS
    simp only [Bool.false_eq_true, if_false]
    clear h h1 h2 h3 h4 hs hp hb
    go_enter Try.func12, Try.ntmps12
    go_upto_region 1 with fail
    generalize ((w.alloc (.cells #[.int .i64 R, .slice a1 n1 c1, .slice a2 n2 c2, .slice a3 n3 c3, .slice a4 n4 c4] 29)).alloc (.cells #[.int .i64 0, .slice none 0 0, .slice none 0 0, .slice none 0 0, .slice none 0 0] 29)).alloc (.cells #[.int .i64 0, .int .i64 0, .int .i64 0, .int .i64 0] 33) = W0 at *
    obtain ⟨p0, p1, p2, p3, p4⟩ := box5 (HE.out.nth 0 rfl)
    go_wp2_with (first
      | (go_at_call 29; ((with_reducible refine (HOK.out _ HE.out.gr).mono ?_); rintro e w1 ⟨rfl, hg⟩; have HE1 := Lib.hid (HE.out.on hg); obtain ⟨z0, z1, z2, z3, z4⟩ := box5 (HE1.out.nth 0 rfl); clear hg))
      | (go_at_call 30; ((with_reducible refine (HIS.out _).mono ?_); rintro e w2 ⟨rfl, hg⟩; have HE1 := Lib.hid (HE1.out.on hg); obtain ⟨z0, z1, z2, z3, z4⟩ := box5 (HE1.out.nth 0 rfl); clear hg))
      | (go_at_call 31; ((with_reducible refine (HCP.out _ HE1.out.gr).mono ?_); rintro e w2 ⟨q1, d1, q2, d2, q3, d3, q4, d4, rfl, ho, hg⟩; have HE2 := Lib.hid (State.Held.state HE1.out hg ho); obtain ⟨r0, r1, r2, r3, r4⟩ := box5 (HE2.out.nth 1 rfl); obtain ⟨f0, f1, f2, f3, f4⟩ := free5 (HE2.out.nth 1 rfl); obtain ⟨x0, x1, x2, x3⟩ := cells4 (HE2.out.nth 2 rfl); obtain ⟨e0, e1, e2, e3⟩ := frees4 (HE2.out.nth 2 rfl); clear ho hg)))
    have he := (HE2.out.put5 1 rfl (.int .i64 R) (.slice q1 n1 d1) (.slice q2 n2 d2) (.slice q3 n3 d3) (.slice q4 n4 d4)).put4 2 rfl (.int .i64 0) (.int .i64 0) (.int .i64 0) (.int .i64 0)
    exact bodyPost_ret_by (results_two_rows (fn := Try.f12) rfl _ _ (w.heap.size + 1) (w.heap.size + 2) _ _ _ _ (0, 0) (0, 0) _ _ rfl rfl (he.nth 1 rfl) (he.nth 2 rfl) Try.underlying29 rfl (by kernel_rfl) Try.underlying33 rfl (by kernel_rfl)) rfl ⟨q1, d1, q2, d2, q3, d3, q4, d4, rfl, Held.stateOwn he 3 rfl, he.gr⟩
  | true =>
    unfold skM skT skL1 skL3
    rw [hs] at HOK
    rw [hb] at HIS
    have hp : srcB R xs ms ts bs a = true := by unfold srcB; rw [hs, hb]; rfl
    simp only [hp, if_true]
    obtain ⟨z1, z2, z3, z4⟩ := st_sizes hs
    have hn1 := h.l.len; have hn2 := h.m.len; have hn3 := h.t.len
    obtain rfl : n2 = n1 := by omega
    obtain rfl : n3 = n2 := by omega
    obtain ⟨n, hn⟩ : ∃ n, n = n3 := ⟨_, rfl⟩
    subst hn
    have HGS := Lib.hid fun k => gone_small hs hb k
    have HLO := Lib.hid fun k => lost_facts hs hb k
    have HRM := Lib.hid h.m
    rw [soakM, soakT, hn2]
    have HMS := Lib.hid (show ms = gen n (msAt ms) by rw [← hn2, gen_ms])
    have HTS := Lib.hid (show ts = gen n (tsAt ts) by rw [← hn3, gen_ts])
    have HLF := Lib.hid fun k => leaf_range hs k
    have HPF := Lib.hid fun k => (part_facts hb xs k).2
    have HN := Lib.hid hn2
    have HT0 := Lib.hid hn3
    have HK0 := Lib.hid (show 0 < n by omega)
    have hni : (n : Int) ≤ 128 := by omega
    have HOB := Lib.hid (show ∀ u, w.grownBy u none → Calls Try.prog 32 #[.agg #[.int .i64 R, .slice a1 n c1, .slice a2 n c2, .slice a3 n c3, .slice a4 n4 c4]] u _ from fun u hu => openBooks_is R a1 a2 a3 a4 n n n n4 c1 c2 c3 c4 xs ms ts bs u (h.on hu) h1 h2 h3 h4)
    have HPO := Lib.hid (show ∀ u, w.grownBy u none → Calls Try.prog 33 #[.agg #[.int .i64 R, .slice a1 n c1, .slice a2 n c2, .slice a3 n c3, .slice a4 n4 c4], .int .i64 a] u _ from fun u hu => partsOf_is R a1 a2 a3 a4 n n n n4 c1 c2 c3 c4 xs ms ts bs a u (h.on hu) hb h1)
    clear h h1 h2 h3 h4 hs hp hb z1 z2 z3 z4 hn1 hn2 hn3
    go_enter Try.func12, Try.ntmps12
    go_upto_region 1 with fail
    generalize ((w.alloc (.cells #[.int .i64 R, .slice a1 n c1, .slice a2 n c2, .slice a3 n c3, .slice a4 n4 c4] 29)).alloc (.cells #[.int .i64 0, .slice none 0 0, .slice none 0 0, .slice none 0 0, .slice none 0 0] 29)).alloc (.cells #[.int .i64 0, .int .i64 0, .int .i64 0, .int .i64 0] 33) = W0 at *
    obtain ⟨p0, p1, p2, p3, p4⟩ := box5 (HE.out.nth 0 rfl)
    go_upto_region 3 with (first
      | (go_at_call 29; ((with_reducible refine (HOK.out _ HE.out.gr).mono ?_); rintro e w1 ⟨rfl, hg⟩; have HE1 := Lib.hid (HE.out.on hg); clear hg))
      | (go_at_call 30; ((with_reducible refine (HIS.out _).mono ?_); rintro e w2 ⟨rfl, hg⟩; have HE2 := Lib.hid (HE1.out.on hg); clear hg)))
    clear p0 p1 p2 p3 p4 HE HE1 HOK HIS HCP
    obtain ⟨p0, p1, p2, p3, p4⟩ := box5 (HE2.out.nth 0 rfl)
    go_upto_region 4 with (go_at_call 32; ((with_reducible refine (HOB.out _ HE2.out.gr).mono ?_); rintro e w3 ⟨B, q1, d1, q2, d2, q3, d3, q4, d4, rfl, hh⟩; have HE3 := Lib.hid (HE2.out.app hh); clear hh))
    obtain ⟨k2, y2, rfl, -, -, -⟩ := own_cellI (OwnS.m (HE3.out.nth 3 rfl)) HK0.out
    obtain ⟨k3, y3, rfl, -, -, -⟩ := own_cellI (OwnS.t (HE3.out.nth 3 rfl)) HK0.out
    clear p0 p1 p2 p3 p4 HE2 HOB
    obtain ⟨p0, p1, p2, p3, p4⟩ := box5 (HE3.out.nth 0 rfl)
    go_upto_region 5 with (go_at_call 33; ((with_reducible refine (HPO.out _ HE3.out.gr).mono ?_); rintro e w4 ⟨gp, rfl, ho, hg⟩; have HE4 := Lib.hid (HE3.out.row hg ho); clear ho hg))
    clear p0 p1 p2 p3 p4 HE3 HPO
    have HE7 : Hid (Held w w4 [boxG w.heap.size 29 #[.int .i64 R, .slice a1 n c1, .slice a2 n c2, .slice a3 n c3, .slice a4 n4 c4], boxG (w.heap.size + 1) 29 #[.int .i64 0, .slice none 0 0, .slice none 0 0, .slice none 0 0, .slice none 0 0], boxG (w.heap.size + 2) 33 #[.int .i64 0, .int .i64 0, .int .i64 0, .int .i64 0], stateG (.slice q1 n d1) (.slice (some ⟨k2, 0, none⟩) n d2) (.slice (some ⟨k3, 0, none⟩) n d3) (.slice q4 n4 d4) n n n n4 xs (gen n (upto 0 (keptM a xs ms) (msAt ms))) (gen n (upto 0 (keptT a xs ms ts) (tsAt ts))) bs, boxG B 63 #[.int .i64 R, .slice q1 n d1, .slice (some ⟨k2, 0, none⟩) n d2, .slice (some ⟨k3, 0, none⟩) n d3, .slice q4 n4 d4, .int .i64 0, .int .i64 (goneM a xs ms 0), .int .i64 0, .int .i64 (goneT a xs ms ts 0)], rowG 3 1 (.slice (some ⟨gp, 0, none⟩) n n) n (vals (gen n (partN a xs)))]) := by
      have q := HE4.out
      rw [upto_zero, upto_zero, ← HMS.out, ← HTS.out]
      exact Lib.hid q
    clear HE4
    go_wp2_with fail
    go_loopw [27] (fun i wr => ∃ j : Nat, (j : Int) ≤ n ∧ i = .int .i64 j ∧ Hid (Held w wr [boxG w.heap.size 29 #[.int .i64 R, .slice a1 n c1, .slice a2 n c2, .slice a3 n c3, .slice a4 n4 c4], boxG (w.heap.size + 1) 29 #[.int .i64 0, .slice none 0 0, .slice none 0 0, .slice none 0 0, .slice none 0 0], boxG (w.heap.size + 2) 33 #[.int .i64 0, .int .i64 0, .int .i64 0, .int .i64 0], stateG (.slice q1 n d1) (.slice (some ⟨k2, 0, none⟩) n d2) (.slice (some ⟨k3, 0, none⟩) n d3) (.slice q4 n4 d4) n n n n4 xs (gen n (upto j (keptM a xs ms) (msAt ms))) (gen n (upto j (keptT a xs ms ts) (tsAt ts))) bs, boxG B 63 #[.int .i64 R, .slice q1 n d1, .slice (some ⟨k2, 0, none⟩) n d2, .slice (some ⟨k3, 0, none⟩) n d3, .slice q4 n4 d4, .int .i64 0, .int .i64 (goneM a xs ms j), .int .i64 0, .int .i64 (goneT a xs ms ts j)], rowG 3 1 (.slice (some ⟨gp, 0, none⟩) n n) n (vals (gen n (partN a xs)))])) (fun i _ => n - (intOf i).toNat)
    case atStart => exact ⟨0, by omega, rfl, HE7⟩
    case round =>
      clear HE7
      obtain ⟨j, hj, rfl, HF⟩ := hrel
      by_cases hlt : (j : Int) < n
      · have HK := Lib.hid (show j < n by omega)
        have HTK := Lib.hid (show ∀ u, Held w u (gsOf HF.out) → Calls Try.prog 37 #[.pointer (some ⟨B, 0, none⟩), .int .i64 (j : Int), .int .i64 (lostM a xs ms j)] u fun e u' => e = .returned (.tuple #[]) ∧ Held w u' [boxG w.heap.size 29 #[.int .i64 R, .slice a1 n c1, .slice a2 n c2, .slice a3 n c3, .slice a4 n4 c4], boxG (w.heap.size + 1) 29 #[.int .i64 0, .slice none 0 0, .slice none 0 0, .slice none 0 0, .slice none 0 0], boxG (w.heap.size + 2) 33 #[.int .i64 0, .int .i64 0, .int .i64 0, .int .i64 0], stateG (.slice q1 n d1) (.slice (some ⟨k2, 0, none⟩) n d2) (.slice (some ⟨k3, 0, none⟩) n d3) (.slice q4 n4 d4) n n n n4 xs (gen n (upto (j + 1) (keptM a xs ms) (msAt ms))) (gen n (upto (j + 1) (keptT a xs ms ts) (tsAt ts))) bs, boxG B 63 #[.int .i64 R, .slice q1 n d1, .slice (some ⟨k2, 0, none⟩) n d2, .slice (some ⟨k3, 0, none⟩) n d3, .slice q4 n4 d4, .int .i64 0, .int .i64 (goneM a xs ms (j + 1)), .int .i64 0, .int .i64 (goneT a xs ms ts (j + 1))], rowG 3 1 (.slice (some ⟨gp, 0, none⟩) n n) n (vals (gen n (partN a xs)))] from fun u hu => by
          have l1 := HLF.out j
          have l2 := HLO.out j
          have l3 := HGS.out j
          have gm : (gen n (upto j (keptM a xs ms) (msAt ms)))[j]? = some (msAt ms j) := by rw [gen_at _ HK.out, upto_here]
          have gt : (gen n (upto j (keptT a xs ms ts) (tsAt ts)))[j]? = some (tsAt ts j) := by rw [gen_at _ HK.out, upto_here]
          have q := take_is R q1 q4 k2 k3 n n n n4 d1 d2 d3 d4 B 4 3 j xs (gen n (upto j (keptM a xs ms) (msAt ms))) (gen n (upto j (keptT a xs ms ts) (tsAt ts))) bs (lostM a xs ms j) (lostT a xs ms ts j) (msAt ms j) (tsAt ts j) 0 (goneM a xs ms j) 0 (goneT a xs ms ts j) hu rfl rfl (by decide) gm gt rfl (by omega) (by omega) (by omega) (by omega) (by omega) (by omega)
          rw [← Int.sub_eq_add_neg, ← Int.sub_eq_add_neg, show msAt ms j - lostM a xs ms j = keptM a xs ms j from rfl, show tsAt ts j - lostT a xs ms ts j = keptT a xs ms ts j from rfl, upto_set, upto_set, show goneM a xs ms j + lostM a xs ms j = goneM a xs ms (j + 1) from sum_next j _, show goneT a xs ms ts j + lostT a xs ms ts j = goneT a xs ms ts (j + 1) from sum_next j _] at q
          exact q)
        obtain ⟨gp', z, e, gz, m2, -⟩ := own_cellI (HF.out.nth 5 rfl) HK.out
        cases e
        rw [gen_at _ HK.out] at gz
        cases gz
        have gm := at_get (xs := ms) (k := j) (by rw [HN.out]; exact HK.out)
        obtain ⟨g2, o2, rfl, d0⟩ := (HRM.out.on HF.out.gr).at_ j _ gm
        obtain ⟨p0, p1, p2, p3, p4⟩ := box5 (HF.out.nth 0 rfl)
        have hXm : lostM a xs ms j = min (partN a xs j) (atI ms j) := rfl
        clear gm
        rcases Int.lt_trichotomy (partN a xs j) (atI ms j) with hq | hq | hq
        · rw [show lostM a xs ms j = partN a xs j by omega] at HTK
          clear hXm
          generalize partN a xs j = P at *
          generalize atI ms j = Y at *
          go_upto_region 8 with fail
          go_region_with (first
            | (go_at_call 37; ((with_reducible refine (HTK.out _ (HF.out.on (Mesh.gr_drew (Cell.grown_refl _)))).mono ?_); rintro e w8 ⟨rfl, hh⟩; have HF2 := Lib.hid hh; clear hh)))
          all_goals
            go_wp2_with fail
            go_roundw
            case rel => exact ⟨j + 1, by omega, by go_num, HF2⟩
            case measure => simp [intOf]; omega
        · rw [show lostM a xs ms j = atI ms j by omega] at HTK
          clear hXm
          generalize partN a xs j = P at *
          generalize atI ms j = Y at *
          subst hq
          go_upto_region 8 with fail
          go_region_with (first
            | (go_at_call 37; ((with_reducible refine (HTK.out _ (HF.out.on (Mesh.gr_drew (Cell.grown_refl _)))).mono ?_); rintro e w8 ⟨rfl, hh⟩; have HF2 := Lib.hid hh; clear hh)))
          all_goals
            go_wp2_with fail
            go_roundw
            case rel => exact ⟨j + 1, by omega, by go_num, HF2⟩
            case measure => simp [intOf]; omega
        · rw [show lostM a xs ms j = atI ms j by omega] at HTK
          clear hXm
          generalize partN a xs j = P at *
          generalize atI ms j = Y at *
          go_upto_region 8 with fail
          go_region_with (first
            | (go_at_call 37; ((with_reducible refine (HTK.out _ (HF.out.on (Mesh.gr_drew (Cell.grown_refl _)))).mono ?_); rintro e w8 ⟨rfl, hh⟩; have HF2 := Lib.hid hh; clear hh)))
          all_goals
            go_wp2_with fail
            go_roundw
            case rel => exact ⟨j + 1, by omega, by go_num, HF2⟩
            case measure => simp [intOf]; omega
      · obtain rfl : n = j := by omega
        have HE8 := Lib.hid HF.out
        rw [upto_all, upto_all] at HE8
        clear HF
        go_upto_region 10 with fail
        obtain ⟨⟨p0, p1, p2, p3, p4⟩, p5, p6, p7, p8⟩ := cells9 (HE8.out.nth 4 rfl)
        obtain ⟨r0, r1, r2, r3, r4⟩ := box5 (HE8.out.nth 1 rfl)
        obtain ⟨f0, f1, f2, f3, f4⟩ := free5 (HE8.out.nth 1 rfl)
        obtain ⟨x0, x1, x2, x3⟩ := cells4 (HE8.out.nth 2 rfl)
        obtain ⟨e0, e1, e2, e3⟩ := frees4 (HE8.out.nth 2 rfl)
        have n14 : w.heap.size + 1 ≠ B := HE8.out.boxNe 1 4 (by decide) rfl rfl
        have n24 : w.heap.size + 1 + 1 ≠ B := HE8.out.boxNe 2 4 (by decide) rfl rfl
        go_region
        all_goals
          go_wp2_with fail
          have he := ((HE8.out.put5 1 rfl (.int .i64 R) (.slice q1 n d1) (.slice (some ⟨k2, 0, none⟩) n d2) (.slice (some ⟨k3, 0, none⟩) n d3) (.slice q4 n4 d4)).put4 2 rfl (.int .i64 0) (.int .i64 (goneM a xs ms n)) (.int .i64 0) (.int .i64 (goneT a xs ms ts n))).on (Mesh.gr_drew (Cell.grown_refl _))
          exact bodyPost_ret_by (results_two_rows (fn := Try.f12) rfl _ _ (w.heap.size + 1) (w.heap.size + 2) _ _ _ _ (0, 0) (0, 0) _ _ rfl rfl (he.nth 1 rfl) (he.nth 2 rfl) Try.underlying29 rfl (by kernel_rfl) Try.underlying33 rfl (by kernel_rfl)) rfl ⟨q1, d1, some ⟨k2, 0, none⟩, d2, some ⟨k3, 0, none⟩, d3, q4, d4, by first | rfl | (simp; done), by exact Held.stateOwn he 3 rfl, he.gr⟩

set_option maxHeartbeats 8000000 in
theorem dryOut_is (R : Int) (a1 a2 a3 a4 : Option Addr) (n1 n2 n3 n4 c1 c2 c3 c4 : Nat) (xs : List C3) (ms ts bs : List Int) (a : Int) (w : World) (h : ReadsS w a1 a2 a3 a4 n1 n2 n3 n4 xs ms ts bs) (h1 : n1 ≤ 1048576) (h2 : n2 ≤ 1048576) (h3 : n3 ≤ 1048576) (h4 : n4 ≤ 1048576) :
    Calls Try.prog 16 #[.agg #[.int .i64 R, .slice a1 n1 c1, .slice a2 n2 c2, .slice a3 n3 c3, .slice a4 n4 c4], .int .i64 a] w fun e w' => e = .returned (.int .i64 (drG R xs ms ts bs a)) ∧ w.grownBy w' none := by
  have HSK := Lib.hid (show ∀ u, w.grownBy u none → Calls Try.prog 12 #[.agg #[.int .i64 R, .slice a1 n1 c1, .slice a2 n2 c2, .slice a3 n3 c3, .slice a4 n4 c4], .int .i64 a] u (GivesSL R n1 n2 n3 n4 xs (skM R xs ms ts bs a) (skT R xs ms ts bs a) bs 0 (skL1 R xs ms ts bs a) 0 (skL3 R xs ms ts bs a) u) from fun u hu => soak_is R a1 a2 a3 a4 n1 n2 n3 n4 c1 c2 c3 c4 xs ms ts bs a u (h.on hu) h1 h2 h3 h4)
  have HDA := Lib.hid (show ∀ u, w.grownBy u none → Calls Try.prog 41 #[.agg #[.int .i64 R, .slice a1 n1 c1, .slice a2 n2 c2, .slice a3 n3 c3, .slice a4 n4 c4]] u (GivesI (dryG R xs ms ts bs) u) from fun u hu => dryLeaves_is R a1 a2 a3 a4 n1 n2 n3 n4 c1 c2 c3 c4 xs ms ts bs u (h.on hu) h1 h2 h3 h4)
  have HDB := Lib.hid (show ∀ (b1 b2 b3 b4 : Option Addr) (d1 d2 d3 d4 : Nat) u, ReadsS u b1 b2 b3 b4 n1 n2 n3 n4 xs (skM R xs ms ts bs a) (skT R xs ms ts bs a) bs → Calls Try.prog 41 #[.agg #[.int .i64 R, .slice b1 n1 d1, .slice b2 n2 d2, .slice b3 n3 d3, .slice b4 n4 d4]] u (GivesI (dryG R xs (skM R xs ms ts bs a) (skT R xs ms ts bs a) bs) u) from fun b1 b2 b3 b4 d1 d2 d3 d4 u hu => dryLeaves_is R b1 b2 b3 b4 n1 n2 n3 n4 d1 d2 d3 d4 xs _ _ bs u hu h1 h2 h3 h4)
  have HE := Lib.hid ((Held.nil w).box 29 #[.int .i64 R, .slice a1 n1 c1, .slice a2 n2 c2, .slice a3 n3 c3, .slice a4 n4 c4])
  have hl1 : (dryG R xs ms ts bs).length ≤ 1048576 := by have := dryG_len (R := R) (xs := xs) (ms := ms) (ts := ts) (bs := bs); have := h.m.len; omega
  have hl2 : (dryG R xs (skM R xs ms ts bs a) (skT R xs ms ts bs a) bs).length ≤ 1048576 := by have := dryG_len (R := R) (xs := xs) (ms := skM R xs ms ts bs a) (ts := skT R xs ms ts bs a) (bs := bs); have := h.m.len; have := (sk_lens' (R := R) (xs := xs) (ms := ms) (ts := ts) (bs := bs) (a := a)).1; omega
  have hdr := dr_lens (R := R) (xs := xs) (ms := ms) (ts := ts) (bs := bs) (a := a)
  rw [← hdr]
  clear h h1 h2 h3 h4 hdr
  generalize skM R xs ms ts bs a = mr at *
  generalize skT R xs ms ts bs a = tr at *
  generalize dryG R xs mr tr bs = ys at *
  generalize dryG R xs ms ts bs = zs at *
  generalize skL1 R xs ms ts bs a = l1 at *
  generalize skL3 R xs ms ts bs a = l3 at *
  have e1 : IntKind.i64.wrap ((ys.length : Int) - (zs.length : Int)) = (ys.length : Int) - (zs.length : Int) := IntWalk.i64_in _ (by omega)
  go_enter Try.func16, Try.ntmps16
  go_upto_region 1 with fail
  generalize w.alloc (.cells #[.int .i64 R, .slice a1 n1 c1, .slice a2 n2 c2, .slice a3 n3 c3, .slice a4 n4 c4] 29) = W0 at *
  obtain ⟨p0, p1, p2, p3, p4⟩ := box5 (HE.out.nth 0 rfl)
  go_upto_region 2 with (go_at_call 12; ((with_reducible refine (HSK.out _ HE.out.gr).mono ?_); rintro e w2 ⟨q1, d1, q2, d2, q3, d3, q4, d4, rfl, ho, hg⟩; have HE2 := Lib.hid (State.Held.state HE.out hg ho); clear ho hg))
  have he := (HE2.out.box 29 #[.int .i64 R, .slice q1 n1 d1, .slice q2 n2 d2, .slice q3 n3 d3, .slice q4 n4 d4]).box 33 #[.int .i64 0, .int .i64 l1, .int .i64 0, .int .i64 l3]
  simp only [World.size_alloc] at he
  have HE3 := Lib.hid he
  clear he
  obtain ⟨B, hB⟩ : ∃ B, B = w2.heap.size := ⟨_, rfl⟩
  rw [← hB] at HE3 ⊢
  clear hB HE2 HE HSK p0 p1 p2 p3 p4
  generalize (w2.alloc (.cells #[.int .i64 R, .slice q1 n1 d1, .slice q2 n2 d2, .slice q3 n3 d3, .slice q4 n4 d4] 29)).alloc (.cells #[.int .i64 0, .int .i64 l1, .int .i64 0, .int .i64 l3] 33) = W3 at *
  obtain ⟨p0, p1, p2, p3, p4⟩ := box5 (HE3.out.nth 0 rfl)
  obtain ⟨t0, t1, t2, t3, t4⟩ := box5 (HE3.out.nth 2 rfl)
  go_region_with (first
    | (go_at_call 41; (with_reducible refine (HDB.out _ _ _ _ _ _ _ _ _ (OwnS.reads ((HE3.out.on (Mesh.gr_drew (Cell.grown_refl _))).nth 1 rfl))).mono ?_); rintro e w4 ⟨b9, c9, rfl, ho, hg⟩; have HE4 := Lib.hid ((HE3.out.on (Mesh.gr_drew (Cell.grown_refl _))).on hg); obtain ⟨y0, y1, y2, y3, y4⟩ := box5 (HE4.out.nth 0 rfl); clear ho hg)
    | (go_at_call 41; (with_reducible refine (HDA.out _ (HE3.out.on (Mesh.gr_drew (Cell.grown_refl _))).gr).mono ?_); rintro e w4 ⟨b9, c9, rfl, ho, hg⟩; have HE4 := Lib.hid ((HE3.out.on (Mesh.gr_drew (Cell.grown_refl _))).on hg); obtain ⟨y0, y1, y2, y3, y4⟩ := box5 (HE4.out.nth 2 rfl); clear ho hg)
    | (go_at_call 41; (with_reducible refine (HDA.out _ HE4.out.gr).mono ?_); rintro e w5 ⟨b8, c8, rfl, ho, hg⟩; have HE5 := Lib.hid (HE4.out.on hg); clear ho hg)
    | (go_at_call 41; (with_reducible refine (HDB.out _ _ _ _ _ _ _ _ _ (OwnS.reads (HE4.out.nth 1 rfl))).mono ?_); rintro e w5 ⟨b8, c8, rfl, ho, hg⟩; have HE5 := Lib.hid (HE4.out.on hg); clear ho hg))
  all_goals
    go_wp2_with fail
    go_ret
    exact ⟨rfl, HE5.out.gr⟩
end Go.Proofs.Ytmbmeajneankpaa.State
