/- Steps: the program's fluxesThrough and stepThrough, as contracts: what each answers, in memory of its own; nothing that was there is written.
   Conditions: at most 2^20 leaves and numbers. -/
import Derived.Test.YtnaofcbbdlhjpaaStLeave
import Derived.Test.YtnaofcbbdlhjpaaStMove
import Derived.Test.YtnaofcbbdlhjpaaStFluxA
import Derived.Deep.OwnRows
set_option maxRecDepth 100000
namespace Go.Proofs.Ytnaofcbbdlhjpaa.State
open Go.ChangeShapes Go.WideShapes Go.ChangeAt Go.RowKit Go.Joins Go.Proofs.Ytnaofcbbdlhjpaa.Cell Go.Proofs.Ytnaofcbbdlhjpaa.Mesh Go.Proofs.Ytnaofcbbdlhjpaa.Law Go.Proofs.Ytnaofcbbdlhjpaa.Ints Go.Proofs.Ytnaofcbbdlhjpaa.Draws Go.Deep

theorem makeZS_is (w : World) (n : Nat) (hn : n ≤ 1048576) : (Instr.makeSlice 27 (.int .i64 (n : Int)) (.int .i64 (n : Int))).run Try.prog w = .ok (.slice (some ⟨w.heap.size, 0, none⟩) n n) (w.alloc (.cells (madeCells #[.int .i64 0] n) 3)) := by
  obtain ⟨i0, hi, hz0, hz1, hz2⟩ := info_parts infoInt
  have h := run_make (P := Try.prog) (w := w) 27 3 i0 _ Try.underlying27 hi hz0 .i64 .i64 (n : Int) (n : Int) (by omega) (by omega) (by rw [hz2]; omega) (by omega)
  simpa [hz1, Value.cells] using h
theorem ownZS (w : World) (n : Nat) (hn : n ≤ 1048576) (base : Nat) (hb : base ≤ w.heap.size) : (w.alloc (.cells (madeCells #[.int .i64 0] n) 3)).ownsRow base 3 1 (.slice (some ⟨w.heap.size, 0, none⟩) n n) n (vals (List.replicate n 0)) := by
  refine ⟨by rw [vals_len, List.length_replicate, Nat.mul_one], .inr ⟨w.heap.size, n, _, rfl, hb, heap_alloc_new w _, Nat.le_refl _, by unfold maxLen; omega, by rw [size_madeCells, Nat.mul_one], ?_⟩⟩
  rw [Nat.mul_one, List.take_of_length_le (by simp [size_madeCells])]
  refine List.ext_getElem? fun j => ?_
  by_cases hj : j < n
  · rw [vals_at (List.getElem?_replicate_of_lt hj)]
    simp [madeCells, hj, Nat.mod_one]
  · rw [List.getElem?_eq_none (by simp [size_madeCells]; omega), List.getElem?_eq_none (by rw [vals_len, List.length_replicate]; omega)]
/-- A number stored into a row of the call's own. -/
theorem Held.setRowS {w W : World} {gs : List Grp} {g n c : Nat} {xs : List Int} (h : Held w W gs) (k : Nat) (hk : gs[k]? = some (rowG 3 1 (.slice (some ⟨g, 0, none⟩) n c) n (vals xs))) (j : Nat) (x : Int) :
    Held w (W.setCell ⟨g, j, none⟩ (.int .i64 x)) (gs.set k (rowG 3 1 (.slice (some ⟨g, 0, none⟩) n c) n (vals (xs.set j x)))) := by
  have ho : W.ownsRow 0 3 1 (.slice (some ⟨g, 0, none⟩) n c) n (vals xs) := h.nth k hk
  have hs := ho.stored j (.int .i64 x)
  rw [← vals_set] at hs
  exact h.turn k hk (Turned.of hs.2) rfl hs.1
theorem prev_next {n i : Nat} {F : List Nat} {D : Nat → Int} : (gen n (prev (onl F D))).set (i + 1) (D i) = gen n (prev (onl (F ++ [i]) D)) := by
  rw [gen_set]
  refine gen_congr fun k _ => ?_
  cases k with
  | zero => rw [if_neg (by omega), prev_nil, prev_nil]
  | succ k =>
    rw [show prev (onl F D) (k + 1) = onl F D k from rfl, show prev (onl (F ++ [i]) D) (k + 1) = onl (F ++ [i]) D k from rfl]
    unfold onl
    by_cases e : k = i
    · subst e; simp
    · rw [if_neg (by omega)]; simp [e]
theorem prev_start (n : Nat) (D : Nat → Int) : List.replicate n (0 : Int) = gen n (prev (onl [] D)) := by
  refine List.ext_getElem? fun j => ?_
  by_cases hj : j < n
  · rw [List.getElem?_replicate_of_lt hj, gen_at _ hj, prev_zero (onl_nil D)]
  · rw [List.getElem?_eq_none (by rw [List.length_replicate]; omega), List.getElem?_eq_none (by rw [gen_len]; omega)]

set_option maxHeartbeats 8000000 in
theorem fluxesThrough_is (R : Int) (a1 a2 a3 a4 af : Option Addr) (n1 n2 n3 n4 c1 c2 c3 c4 nf cf : Nat) (xs : List C3) (ms ts bs : List Int) (F : List Nat) (w : World) (h : ReadsS w a1 a2 a3 a4 n1 n2 n3 n4 xs ms ts bs) (hf : ReadsI w af nf (toI F)) (hF : ∀ k, k ∈ F → k + 1 < n1) (hs : stOk R xs ms ts bs = true) (h1 : n1 ≤ 1048576) (h2 : nf ≤ 1048576) :
    Calls Try.prog 84 #[.agg #[.int .i64 R, .slice a1 n1 c1, .slice a2 n2 c2, .slice a3 n3 c3, .slice a4 n4 c4], .slice af nf cf] w fun e w' =>
      ∃ g, e = .returned (.slice (some ⟨g, 0, none⟩) (n2 + 1) (n2 + 1)) ∧ w'.ownsRow w.heap.size 3 1 (.slice (some ⟨g, 0, none⟩) (n2 + 1) (n2 + 1)) (n2 + 1) (vals (gen (n2 + 1) (prev (onl F (fluxAt xs ms bs))))) ∧ w.grownBy w' none := by
  have HE := Lib.hid ((Held.nil w).box 29 #[.int .i64 R, .slice a1 n1 c1, .slice a2 n2 c2, .slice a3 n3 c3, .slice a4 n4 c4])
  have HFX := Lib.hid (show ∀ k : Nat, k + 1 < n1 → ∀ u, w.grownBy u none → Calls Try.prog 91 #[.iface 95 (.agg #[.int .i64 R, .slice a1 n1 c1, .slice a2 n2 c2, .slice a3 n3 c3, .slice a4 n4 c4, .int .i64 k])] u fun e w' => e = .returned (.int .i64 (fluxAt xs ms bs k)) ∧ u.grownBy w' none from fun k hk u hu => flux_is R a1 a2 a3 a4 n1 n2 n3 n4 c1 c2 c3 c4 k xs ms ts bs u (h.on hu) h1 hs hk)
  have hn : n2 = n1 := by rw [← h.m.len, (stOk_parts hs).2.1.1, h.l.len]
  subst hn
  have HFA := Lib.hid hf; have HFF := Lib.hid hF
  have hfl : F.length = nf := by rw [← toI_len]; exact hf.len
  have HFL := Lib.hid hfl
  have HFB := Lib.hid fun (k : Nat) (hk : k + 1 < n2) => (flow_bounds hs 0 k)
  have hni : (n2 : Int) ≤ 128 := by
    have := (mesh_parts (show meshOk R xs = true by
      obtain ⟨p1, -⟩ := stOk_parts hs
      unfold balanced at p1; simp only [Bool.and_eq_true] at p1; exact p1.1)).2.2
    have := h.l.len
    omega
  have hnf : (nf : Int) ≤ 1048576 := by omega
  obtain ⟨N, hN⟩ : ∃ N, N = n2 + 1 := ⟨_, rfl⟩
  rw [← hN]
  have hadd : (n2 : Int) + 1 = N := by omega
  have HN := Lib.hid hN
  clear hf hF hs h h1 h2 hfl hN
  go_enter Try.func84, Try.ntmps84
  go_upto_region 1 with fail
  generalize w.alloc (.cells #[.int .i64 R, .slice a1 n2 c1, .slice a2 n2 c2, .slice a3 n3 c3, .slice a4 n4 c4] 29) = W0 at *
  obtain ⟨p0, p1, p2, p3, p4⟩ := box5 (HE.out.nth 0 rfl)
  have hmk := makeZS_is W0 N (by omega)
  go_wp2_with fail
  have HL := Lib.hid (HE.out.row (World.grownBy_alloc W0 (.cells (madeCells #[.int .i64 0] N) 3) none) (ownZS W0 N (by omega) W0.heap.size (Nat.le_refl _)))
  rw [prev_start N (fluxAt xs ms bs)] at HL
  obtain ⟨g, hg⟩ : ∃ g, g = W0.heap.size := ⟨_, rfl⟩
  rw [← hg] at HL ⊢
  clear hg hmk p0 p1 p2 p3 p4 HE
  generalize W0.alloc (.cells (madeCells #[.int .i64 0] N) 3) = W1 at *
  go_loopw [15] (fun i wr => ∃ j : Nat, (j : Int) ≤ nf ∧ i = .int .i64 j ∧ Hid (Held w wr [boxG w.heap.size 29 #[.int .i64 R, .slice a1 n2 c1, .slice a2 n2 c2, .slice a3 n3 c3, .slice a4 n4 c4], rowG 3 1 (.slice (some ⟨g, 0, none⟩) N N) N (vals (gen N (prev (onl (F.take j) (fluxAt xs ms bs)))))])) (fun i _ => nf - (intOf i).toNat)
  case atStart => exact ⟨0, by omega, rfl, HL⟩
  case round =>
    clear HL
    obtain ⟨j, hj, rfl, HF⟩ := hrel
    obtain ⟨p0, p1, p2, p3, p4⟩ := box5 (HF.out.nth 0 rfl)
    by_cases hlt : (j : Int) < nf
    · obtain ⟨k, hk⟩ : ∃ k, F[j]? = some k := ⟨_, List.getElem?_eq_getElem (by have := HFL.out; omega)⟩
      obtain ⟨gf, of, rfl, d0⟩ := (HFA.out.on HF.out.gr).at_ j _ (toI_at hk)
      have hk1 := HFF.out k (List.mem_of_getElem? hk)
      have HC := Lib.hid (HFX.out k hk1)
      have HST := Lib.hid (show ∀ u, Held w u _ → (∃ z, u.cell? ⟨g, k + 1, none⟩ = some z) ∧ u.frozen? ⟨g, k + 1, none⟩ = false from fun u (hu : Held w u (gsOf HF.out)) => by
        obtain ⟨g', z, e, -, m2, u2⟩ := own_cellI (hu.nth 1 rfl) (show k + 1 < N by have := HN.out; omega)
        cases e
        exact ⟨⟨_, m2⟩, u2⟩)
      have hkN : (k : Int) + 1 < N := by omega
      have HT := Lib.hid (show (gen N (prev (onl (F.take j) (fluxAt xs ms bs)))).set (k + 1) (fluxAt xs ms bs k) = gen N (prev (onl (F.take (j + 1)) (fluxAt xs ms bs))) by rw [prev_next, take_snocN hk])
      clear hk1 hk
      generalize fluxAt xs ms bs k = V at HC HT
      go_wp2_with (go_at_call 91; ((with_reducible refine (HC.out _ HF.out.gr).mono ?_); rintro e w4 ⟨rfl, hg⟩; have HF2 := Lib.hid (HF.out.on hg); obtain ⟨⟨z, m2⟩, u2⟩ := HST.out _ HF2.out; clear hg))
      go_roundw
      case rel => exact ⟨j + 1, by omega, by go_num, by have q := State.Held.setRowS HF2.out 1 rfl (k + 1) V; rw [HT.out] at q; exact Lib.hid q⟩
      case measure => simp [intOf]; omega
    · obtain rfl : nf = j := by omega
      go_wp2_with fail
      go_ret
      have hr := HF.out.own 1 rfl
      rw [List.take_of_length_le (by have := HFL.out; omega)] at hr
      exact ⟨g, rfl, hr, HF.out.gr⟩

theorem onl_flow (xs : List C3) (ms bs : List Int) (t : Int) : onl (actF xs t (xs.length - 1)) (fluxAt xs ms bs) = flowAt xs ms bs t := funext fun k => by
  by_cases h : k ∈ actF xs t (xs.length - 1)
  · rw [flow_act h]; exact if_pos h
  · rw [flow_idle h]; exact if_neg h

theorem mov_start {n : Nat} {D : Nat → Int} {ms : List Int} (hl : ms.length = n) : ms = gen n (movF (onl [] D) (msAt ms)) := by
  rw [gen_congr fun k _ => mov_zero (onl_nil D) k, ← hl, gen_ms]
theorem mov_back {n i : Nat} {F : List Nat} {D x : Nat → Int} (hi : i ∉ F) :
    ((gen n (movF (onl F D) x)).set (i + 1) (movF (onl F D) x (i + 1) + D i)).set i (movF (onl F D) x i - D i) = gen n (movF (onl (F ++ [i]) D) x) := by
  rw [List.set_comm _ _ (by omega)]; exact mov_next hi
theorem mov_small {F : List Nat} {D x : Nat → Int} {B C : Int} (hx : ∀ j, -C ≤ x j ∧ x j ≤ C) (hD : ∀ j, -B ≤ D j ∧ D j ≤ B) (hB : 0 ≤ B) (k : Nat) : -(C + 2 * B) ≤ movF (onl F D) x k ∧ movF (onl F D) x k ≤ C + 2 * B := by
  have h1 : ∀ j, -B ≤ onl F D j ∧ onl F D j ≤ B := fun j => by
    unfold onl; split
    · exact hD j
    · omega
  have h2 : -B ≤ prev (onl F D) k ∧ prev (onl F D) k ≤ B := by
    cases k with
    | zero => rw [prev_nil]; omega
    | succ k => exact h1 k
  have := h1 k
  have := hx k
  unfold movF
  omega
theorem ms_small {R : Int} {xs : List C3} {ms ts bs : List Int} (h : stOk R xs ms ts bs = true) (j : Nat) : (-10000000 ≤ msAt ms j ∧ msAt ms j ≤ 10000000) ∧ (-10000000000 ≤ tsAt ts j ∧ tsAt ts j ≤ 10000000000) := by
  obtain ⟨-, ⟨-, p3, -⟩, -⟩ := stOk_parts h
  by_cases hj : j < ms.length
  · obtain ⟨m, t, -, -, em, et, m0, m1, t0, t1⟩ := pair_at h hj
    rw [em, et]; omega
  · rw [ms_out (by omega), ts_out (by omega)]; omega
theorem out_small (f : Nat → Int) (ms ts : List Int) (k : Nat) : (-10000000000 ≤ outA f ms ts k ∧ outA f ms ts k ≤ 10000000000) ∧ (-10000000000 ≤ outC f ms ts k ∧ outC f ms ts k ≤ 10000000000) := by
  unfold outA outC outR outL
  have h1 := share_range (tsAt ts k) (flowR f k) (msAt ms k)
  have h2 := share_range (tsAt ts k) (flowR f k + flowL f k) (msAt ms k)
  split <;> omega
theorem trc_small (f : Nat → Int) (ms ts : List Int) (k : Nat) : -20000000000 ≤ trcF f ms ts k ∧ trcF f ms ts k ≤ 20000000000 := by
  have h1 := (out_small f ms ts k).1
  have h2 := (out_small f ms ts (k + 1)).2
  unfold trcF
  omega
theorem onl_is {F : List Nat} {D : Nat → Int} (h : ∀ k, k ∉ F → D k = 0) : onl F D = D := funext fun k => onl_all h k

set_option maxHeartbeats 16000000 in
theorem stepThrough_is (R t : Int) (a1 a2 a3 a4 af : Option Addr) (n1 n2 n3 n4 c1 c2 c3 c4 nf cf : Nat) (xs : List C3) (ms ts bs : List Int) (w : World) (h : ReadsS w a1 a2 a3 a4 n1 n2 n3 n4 xs ms ts bs) (hf : ReadsI w af nf (toI (actF xs t (xs.length - 1)))) (hs : stOk R xs ms ts bs = true) (h1 : n1 ≤ 1048576) (h4 : n4 ≤ 1048576) :
    Calls Try.prog 52 #[.agg #[.int .i64 R, .slice a1 n1 c1, .slice a2 n2 c2, .slice a3 n3 c3, .slice a4 n4 c4], .slice af nf cf] w (GivesS R n1 n2 n3 n4 xs (stepM xs ms bs t) (stepT xs ms ts bs t) bs w) := by
  have hx := h.l.len; have hm := h.m.len; have ht := h.t.len
  obtain ⟨-, ⟨q1, q2, -⟩, -⟩ := stOk_parts hs
  obtain rfl : n2 = n1 := by omega
  obtain rfl : n3 = n2 := by omega
  have hn0 := (mesh_parts (show meshOk R xs = true by
    obtain ⟨p1, -⟩ := stOk_parts hs
    unfold balanced at p1; simp only [Bool.and_eq_true] at p1; exact p1.1)).2
  obtain ⟨g2, o2, g3, o3, rfl, rfl, -, hcel⟩ := pair_cells h hs (by omega)
  have hfl : (actF xs t (xs.length - 1)).length = nf := by rw [← toI_len]; exact hf.len
  have HFB := Lib.hid (flow_bounds hs t)
  have hnf : nf ≤ 128 := by have := actF_len xs t (xs.length - 1); omega
  have HCP := Lib.hid (show ∀ u, w.grownBy u none → Calls Try.prog 51 #[.agg #[.int .i64 R, .slice a1 n3 c1, .slice (some ⟨g2, o2, none⟩) n3 c2, .slice (some ⟨g3, o3, none⟩) n3 c3, .slice a4 n4 c4]] u (GivesS R n3 n3 n3 n4 xs ms ts bs u) from fun u hu => stClone_is R _ _ _ _ n3 n3 n3 n4 c1 c2 c3 c4 xs ms ts bs u (h.on hu) h1 h1 h1 h4)
  have HFT := Lib.hid (show ∀ u, w.grownBy u none → Calls Try.prog 84 #[.agg #[.int .i64 R, .slice a1 n3 c1, .slice (some ⟨g2, o2, none⟩) n3 c2, .slice (some ⟨g3, o3, none⟩) n3 c3, .slice a4 n4 c4], .slice af nf cf] u fun e w' =>
      ∃ g, e = .returned (.slice (some ⟨g, 0, none⟩) (n3 + 1) (n3 + 1)) ∧ w'.ownsRow u.heap.size 3 1 (.slice (some ⟨g, 0, none⟩) (n3 + 1) (n3 + 1)) (n3 + 1) (vals (gen (n3 + 1) (prev (flowAt xs ms bs t)))) ∧ u.grownBy w' none from fun u hu => by
    have q := fluxesThrough_is R a1 (some ⟨g2, o2, none⟩) (some ⟨g3, o3, none⟩) a4 af n3 n3 n3 n4 c1 c2 c3 c4 nf cf xs ms ts bs (actF xs t (xs.length - 1)) u (h.on hu) (hf.on hu) (fun k hk => by have := (actF_mem.1 hk).1; omega) hs h1 (by omega)
    rw [onl_flow] at q
    exact q)
  have he := ((Held.nil w).box 29 #[.int .i64 R, .slice a1 n3 c1, .slice (some ⟨g2, o2, none⟩) n3 c2, .slice (some ⟨g3, o3, none⟩) n3 c3, .slice a4 n4 c4]).box 29 #[.int .i64 0, .slice none 0 0, .slice none 0 0, .slice none 0 0, .slice none 0 0]
  simp only [World.size_alloc] at he
  have HE := Lib.hid he
  have HX := Lib.hid hx; have HM := Lib.hid hm; have HT := Lib.hid ht; have HS := Lib.hid hs; have HCel := Lib.hid hcel; have HFA := Lib.hid hf; have HFL := Lib.hid hfl
  have hni : (n3 : Int) ≤ 128 := by omega
  have HN0 := Lib.hid (show 0 < n3 by omega)
  have hnfi : (nf : Int) ≤ 128 := by omega
  have hmf : ∀ (fn : Fn) (first cap : Array Value) (w : World), (Instr.makeFunc fn first cap).run Try.prog w = .ok (.func fn first cap) w := fun _ _ _ _ => rfl
  clear hf hs h h1 h4 he hx hm ht q1 q2 hn0 hcel hfl hnf
  go_enter Try.func52, Try.ntmps52
  go_upto_region 1 with fail
  generalize (w.alloc (.cells #[.int .i64 R, .slice a1 n3 c1, .slice (some ⟨g2, o2, none⟩) n3 c2, .slice (some ⟨g3, o3, none⟩) n3 c3, .slice a4 n4 c4] 29)).alloc (.cells #[.int .i64 0, .slice none 0 0, .slice none 0 0, .slice none 0 0, .slice none 0 0] 29) = W0 at *
  obtain ⟨p0, p1, p2, p3, p4⟩ := box5 (HE.out.nth 0 rfl)
  go_upto_region 2 with (go_at_call 51; ((with_reducible refine (HCP.out _ HE.out.gr).mono ?_); rintro e w2 ⟨q1, d1, q2, d2, q3, d3, q4, d4, rfl, ho, hg⟩; have HE2 := Lib.hid (State.Held.state HE.out hg ho); clear ho hg))
  obtain ⟨k2, y2, rfl, -, -, -⟩ := own_cellI (OwnS.m (HE2.out.nth 2 rfl)) (show 0 < n3 from HN0.out)
  obtain ⟨k3, y3, rfl, -, -, -⟩ := own_cellI (OwnS.t (HE2.out.nth 2 rfl)) (show 0 < n3 from HN0.out)
  have HE3 := Lib.hid (HE2.out.box 29 #[.int .i64 R, .slice q1 n3 d1, .slice (some ⟨k2, 0, none⟩) n3 d2, .slice (some ⟨k3, 0, none⟩) n3 d3, .slice q4 n4 d4])
  clear p0 p1 p2 p3 p4 HE HE2 HCP
  obtain ⟨B2, hB⟩ : ∃ B, B = w2.heap.size := ⟨_, rfl⟩
  rw [← hB] at HE3 ⊢
  clear hB
  generalize w2.alloc (.cells #[.int .i64 R, .slice q1 n3 d1, .slice (some ⟨k2, 0, none⟩) n3 d2, .slice (some ⟨k3, 0, none⟩) n3 d3, .slice q4 n4 d4] 29) = W3 at *
  obtain ⟨p0, p1, p2, p3, p4⟩ := box5 (HE3.out.nth 0 rfl)
  go_upto_region 3 with (go_at_call 84; ((with_reducible refine (HFT.out _ HE3.out.gr).mono ?_); rintro e w4 ⟨g, rfl, ho, hg⟩; have HE4 := Lib.hid (HE3.out.row hg ho); clear ho hg))
  have HE5 := Lib.hid (HE4.out.box 27 #[.slice (some ⟨g, 0, none⟩) (n3 + 1) (n3 + 1)])
  clear p0 p1 p2 p3 p4 HE3 HE4 HFT
  obtain ⟨B3, hB⟩ : ∃ B, B = w4.heap.size := ⟨_, rfl⟩
  rw [← hB] at HE5 ⊢
  clear hB
  generalize w4.alloc (.cells #[.slice (some ⟨g, 0, none⟩) (n3 + 1) (n3 + 1)] 27) = W5 at *
  have HE6 := Lib.hid (show Held w W5 [boxG w.heap.size 29 #[.int .i64 R, .slice a1 n3 c1, .slice (some ⟨g2, o2, none⟩) n3 c2, .slice (some ⟨g3, o3, none⟩) n3 c3, .slice a4 n4 c4], boxG (w.heap.size + 1) 29 #[.int .i64 0, .slice none 0 0, .slice none 0 0, .slice none 0 0, .slice none 0 0], stateG (.slice q1 n3 d1) (.slice (some ⟨k2, 0, none⟩) n3 d2) (.slice (some ⟨k3, 0, none⟩) n3 d3) (.slice q4 n4 d4) n3 n3 n3 n4 xs (gen n3 (movF (onl ([]) (flowAt xs ms bs t)) (msAt ms))) (gen n3 (movF (onl ([]) (trcF (flowAt xs ms bs t) ms ts)) (tsAt ts))) bs, boxG B2 29 #[.int .i64 R, .slice q1 n3 d1, .slice (some ⟨k2, 0, none⟩) n3 d2, .slice (some ⟨k3, 0, none⟩) n3 d3, .slice q4 n4 d4], rowG 3 1 (.slice (some ⟨g, 0, none⟩) (n3 + 1) (n3 + 1)) (n3 + 1) (vals (gen (n3 + 1) (prev (flowAt xs ms bs t)))), boxG B3 27 #[.slice (some ⟨g, 0, none⟩) (n3 + 1) (n3 + 1)]] by
    have q := HE5.out
    rw [show stateG (.slice q1 n3 d1) (.slice (some ⟨k2, 0, none⟩) n3 d2) (.slice (some ⟨k3, 0, none⟩) n3 d3) (.slice q4 n4 d4) n3 n3 n3 n4 xs ms ts bs = stateG (.slice q1 n3 d1) (.slice (some ⟨k2, 0, none⟩) n3 d2) (.slice (some ⟨k3, 0, none⟩) n3 d3) (.slice q4 n4 d4) n3 n3 n3 n4 xs (gen n3 (movF (onl ([]) (flowAt xs ms bs t)) (msAt ms))) (gen n3 (movF (onl ([]) (trcF (flowAt xs ms bs t) ms ts)) (tsAt ts))) bs from by rw [← mov_start HM.out, ← show ts = gen n3 (movF (onl [] (trcF (flowAt xs ms bs t) ms ts)) (tsAt ts)) from mov_start HT.out]] at q
    exact q)
  clear HE5
  go_wp2_with fail
  go_loopw [25] (fun i wr => ∃ j : Nat, (j : Int) ≤ nf ∧ i = .int .i64 j ∧ Hid (Held w wr [boxG w.heap.size 29 #[.int .i64 R, .slice a1 n3 c1, .slice (some ⟨g2, o2, none⟩) n3 c2, .slice (some ⟨g3, o3, none⟩) n3 c3, .slice a4 n4 c4], boxG (w.heap.size + 1) 29 #[.int .i64 0, .slice none 0 0, .slice none 0 0, .slice none 0 0, .slice none 0 0], stateG (.slice q1 n3 d1) (.slice (some ⟨k2, 0, none⟩) n3 d2) (.slice (some ⟨k3, 0, none⟩) n3 d3) (.slice q4 n4 d4) n3 n3 n3 n4 xs (gen n3 (movF (onl ((actF xs t (xs.length - 1)).take j) (flowAt xs ms bs t)) (msAt ms))) (gen n3 (movF (onl ((actF xs t (xs.length - 1)).take j) (trcF (flowAt xs ms bs t) ms ts)) (tsAt ts))) bs, boxG B2 29 #[.int .i64 R, .slice q1 n3 d1, .slice (some ⟨k2, 0, none⟩) n3 d2, .slice (some ⟨k3, 0, none⟩) n3 d3, .slice q4 n4 d4], rowG 3 1 (.slice (some ⟨g, 0, none⟩) (n3 + 1) (n3 + 1)) (n3 + 1) (vals (gen (n3 + 1) (prev (flowAt xs ms bs t)))), boxG B3 27 #[.slice (some ⟨g, 0, none⟩) (n3 + 1) (n3 + 1)]])) (fun i _ => nf - (intOf i).toNat)
  case atStart => exact ⟨0, by omega, rfl, HE6⟩
  case round =>
    clear HE6
    obtain ⟨j, hj, rfl, HF⟩ := hrel
    by_cases hlt : (j : Int) < nf
    · obtain ⟨k, hk⟩ : ∃ k, (actF xs t (xs.length - 1))[j]? = some k := ⟨_, List.getElem?_eq_getElem (by have := HFL.out; omega)⟩
      obtain ⟨gf, of, rfl, d0⟩ := (HFA.out.on HF.out.gr).at_ j _ (toI_at hk)
      have hk1 : k + 1 < n3 := by have := (actF_mem.1 (List.mem_of_getElem? hk)).1; have := HX.out; omega
      have hni2 := take_notin (actF_nodup xs t (xs.length - 1)) hk
      have hfc := boxG.cell (HF.out.nth 5 rfl) 0
      obtain ⟨g', y1, e1, r1, dd1, -⟩ := own_cellI (HF.out.nth 4 rfl) (show k + 1 < n3 + 1 by omega)
      cases e1
      rw [gen_at _ (by omega), show prev (flowAt xs ms bs t) (k + 1) = flowAt xs ms bs t k from rfl] at r1
      cases r1
      have HLV := Lib.hid (show ∀ (i : Nat), i < n3 → ∀ u, Held w u (gsOf HF.out) → Calls Try.prog 85 #[.int .i64 (i : Int), .pointer (some ⟨w.heap.size, 0, none⟩), .pointer (some ⟨B3, 0, none⟩)] u fun e w' => e = .returned (.tuple #[.int .i64 (outA (flowAt xs ms bs t) ms ts i), .int .i64 (outC (flowAt xs ms bs t) ms ts i)]) ∧ u.grownBy w' none from fun i hi u hu => by
        obtain ⟨z0, z1, z2, z3, z4⟩ := box5 (hu.nth 0 rfl)
        have zf := boxG.cell (hu.nth 5 rfl) 0
        obtain ⟨g', y0, e0, r0, m0, -⟩ := own_cellI (hu.nth 4 rfl) (show i < n3 + 1 by omega)
        cases e0
        rw [gen_at _ (by omega)] at r0
        cases r0
        obtain ⟨g', y1, e1, r1, m1, -⟩ := own_cellI (hu.nth 4 rfl) (show i + 1 < n3 + 1 by omega)
        cases e1
        rw [gen_at _ (by omega)] at r1
        cases r1
        obtain ⟨x0, x1⟩ := HCel.out i hi u hu.gr
        have hp : -2500000 ≤ prev (flowAt xs ms bs t) i ∧ prev (flowAt xs ms bs t) i ≤ 2500000 := by
          cases i with
          | zero => rw [prev_nil]; omega
          | succ i => exact HFB.out i
        exact leaving_is w.heap.size B3 g2 o2 g3 o3 g n3 c2 c3 (n3 + 1) (n3 + 1) i (msAt ms i) (tsAt ts i) (prev (flowAt xs ms bs t) i) (flowAt xs ms bs t i) (flowR (flowAt xs ms bs t) i) (flowL (flowAt xs ms bs t) i) u hi (by omega) rfl ⟨z2, z3, zf, x0, x1, m0, m1⟩ hp (HFB.out i) rfl rfl)
      have hbm := mov_small (F := (actF xs t (xs.length - 1)).take j) (D := flowAt xs ms bs t) (x := msAt ms) (B := 2500000) (C := 10000000) (fun j => (ms_small HS.out j).1) HFB.out (by omega)
      have hbt := mov_small (F := (actF xs t (xs.length - 1)).take j) (D := trcF (flowAt xs ms bs t) ms ts) (x := tsAt ts) (B := 20000000000) (C := 10000000000) (fun j => (ms_small HS.out j).2) (trc_small _ _ _) (by omega)
      have m1 := hbm k; have m2 := hbm (k + 1); have t1 := hbt k; have t2 := hbt (k + 1)
      have hfk := HFB.out k
      by_cases hp : 0 < flowAt xs ms bs t k
      · have HLV1 := Lib.hid (HLV.out k (by omega))
        have ob := (out_small (flowAt xs ms bs t) ms ts k).1
        have HT1 := Lib.hid (And.intro (mov_next (n := n3) (D := flowAt xs ms bs t) (x := msAt ms) hni2) (mov_next (n := n3) (D := trcF (flowAt xs ms bs t) ms ts) (x := tsAt ts) hni2))
        rw [trc_pos (ms := ms) (ts := ts) (show 0 ≤ flowAt xs ms bs t k by omega), ← take_snocN hk] at HT1
        have HMV := Lib.hid (show ∀ u, Held w u (gsOf HF.out) → Calls Try.prog 87 #[.int .i64 (k : Int), .int .i64 ((k : Int) + 1), .int .i64 (flowAt xs ms bs t k), .int .i64 (outA (flowAt xs ms bs t) ms ts k), .pointer (some ⟨B2, 0, none⟩)] u fun e u' => e = .returned (.tuple #[]) ∧ Held w u' [boxG w.heap.size 29 #[.int .i64 R, .slice a1 n3 c1, .slice (some ⟨g2, o2, none⟩) n3 c2, .slice (some ⟨g3, o3, none⟩) n3 c3, .slice a4 n4 c4], boxG (w.heap.size + 1) 29 #[.int .i64 0, .slice none 0 0, .slice none 0 0, .slice none 0 0, .slice none 0 0], stateG (.slice q1 n3 d1) (.slice (some ⟨k2, 0, none⟩) n3 d2) (.slice (some ⟨k3, 0, none⟩) n3 d3) (.slice q4 n4 d4) n3 n3 n3 n4 xs (gen n3 (movF (onl ((actF xs t (xs.length - 1)).take (j + 1)) (flowAt xs ms bs t)) (msAt ms))) (gen n3 (movF (onl ((actF xs t (xs.length - 1)).take (j + 1)) (trcF (flowAt xs ms bs t) ms ts)) (tsAt ts))) bs, boxG B2 29 #[.int .i64 R, .slice q1 n3 d1, .slice (some ⟨k2, 0, none⟩) n3 d2, .slice (some ⟨k3, 0, none⟩) n3 d3, .slice q4 n4 d4], rowG 3 1 (.slice (some ⟨g, 0, none⟩) (n3 + 1) (n3 + 1)) (n3 + 1) (vals (gen (n3 + 1) (prev (flowAt xs ms bs t)))), boxG B3 27 #[.slice (some ⟨g, 0, none⟩) (n3 + 1) (n3 + 1)]] from fun u hu => by
          have q := move_is R q1 q4 k2 k3 n3 n3 n3 n4 _ _ _ _ B2 3 2 k (k + 1) xs _ _ bs (flowAt xs ms bs t k) (outA (flowAt xs ms bs t) ms ts k) _ _ _ _ hu rfl rfl (by omega) (by omega) (gen_at _ (by omega)) (gen_at _ (by omega)) (gen_at _ hk1) (gen_at _ hk1) (by omega) (by omega) (by omega) (by omega) (by omega) (by omega)
          rw [show ∀ a b : Int, a + -b = a - b from fun _ _ => rfl, show ∀ a b : Int, a + -b = a - b from fun _ _ => rfl, HT1.out.1, HT1.out.2] at q
          exact q)
        clear HLV HT1 hbm hbt m1 m2 t1 t2 ob hni2 hk
        generalize outC (flowAt xs ms bs t) ms ts k = C at *
        go_wp2_with (first
          | (go_at_call 85; ((with_reducible refine (HLV1.out _ HF.out).mono ?_); rintro e w5 ⟨rfl, hg⟩; have HF2 := Lib.hid (HF.out.on hg); clear hg))
          | (go_at_call 87; ((with_reducible refine (HMV.out _ HF2.out).mono ?_); rintro e w6 ⟨rfl, hg⟩; have HF3 := Lib.hid hg; clear hg)))
        go_roundw
        case rel => exact ⟨j + 1, by omega, by go_num, HF3⟩
        case measure => simp [intOf]; omega
      · have HLV1 := Lib.hid (show ∀ u, Held w u (gsOf HF.out) → Calls Try.prog 85 #[.int .i64 ((k : Int) + 1), .pointer (some ⟨w.heap.size, 0, none⟩), .pointer (some ⟨B3, 0, none⟩)] u fun e w' => e = .returned (.tuple #[.int .i64 (outA (flowAt xs ms bs t) ms ts (k + 1)), .int .i64 (outC (flowAt xs ms bs t) ms ts (k + 1))]) ∧ u.grownBy w' none from HLV.out (k + 1) hk1)
        have ob := (out_small (flowAt xs ms bs t) ms ts (k + 1)).2
        have HT1 := Lib.hid (And.intro (mov_back (n := n3) (D := flowAt xs ms bs t) (x := msAt ms) hni2) (mov_back (n := n3) (D := trcF (flowAt xs ms bs t) ms ts) (x := tsAt ts) hni2))
        rw [trc_neg (ms := ms) (ts := ts) (show flowAt xs ms bs t k ≤ 0 by omega), ← take_snocN hk] at HT1
        have HMV := Lib.hid (show ∀ u, Held w u (gsOf HF.out) → Calls Try.prog 87 #[.int .i64 ((k : Int) + 1), .int .i64 (k : Int), .int .i64 (-(flowAt xs ms bs t k)), .int .i64 (outC (flowAt xs ms bs t) ms ts (k + 1)), .pointer (some ⟨B2, 0, none⟩)] u fun e u' => e = .returned (.tuple #[]) ∧ Held w u' [boxG w.heap.size 29 #[.int .i64 R, .slice a1 n3 c1, .slice (some ⟨g2, o2, none⟩) n3 c2, .slice (some ⟨g3, o3, none⟩) n3 c3, .slice a4 n4 c4], boxG (w.heap.size + 1) 29 #[.int .i64 0, .slice none 0 0, .slice none 0 0, .slice none 0 0, .slice none 0 0], stateG (.slice q1 n3 d1) (.slice (some ⟨k2, 0, none⟩) n3 d2) (.slice (some ⟨k3, 0, none⟩) n3 d3) (.slice q4 n4 d4) n3 n3 n3 n4 xs (gen n3 (movF (onl ((actF xs t (xs.length - 1)).take (j + 1)) (flowAt xs ms bs t)) (msAt ms))) (gen n3 (movF (onl ((actF xs t (xs.length - 1)).take (j + 1)) (trcF (flowAt xs ms bs t) ms ts)) (tsAt ts))) bs, boxG B2 29 #[.int .i64 R, .slice q1 n3 d1, .slice (some ⟨k2, 0, none⟩) n3 d2, .slice (some ⟨k3, 0, none⟩) n3 d3, .slice q4 n4 d4], rowG 3 1 (.slice (some ⟨g, 0, none⟩) (n3 + 1) (n3 + 1)) (n3 + 1) (vals (gen (n3 + 1) (prev (flowAt xs ms bs t)))), boxG B3 27 #[.slice (some ⟨g, 0, none⟩) (n3 + 1) (n3 + 1)]] from fun u hu => by
          have q := move_is R q1 q4 k2 k3 n3 n3 n3 n4 _ _ _ _ B2 3 2 (k + 1) k xs _ _ bs (-(flowAt xs ms bs t k)) (outC (flowAt xs ms bs t) ms ts (k + 1)) _ _ _ _ hu rfl rfl (by omega) (by omega) (gen_at _ hk1) (gen_at _ hk1) (gen_at _ (by omega)) (gen_at _ (by omega)) (by omega) (by omega) (by omega) (by omega) (by omega) (by omega)
          rw [show - -(flowAt xs ms bs t k) = flowAt xs ms bs t k by omega, show ∀ a b : Int, a + -b = a - b from fun _ _ => rfl, HT1.out.1] at q
          have h2 := HT1.out.2
          rw [show ∀ a b : Int, a - -b = a + b from fun a b => by omega] at h2
          rw [h2] at q
          exact q)
        have e3 : IntKind.i64.wrap (-(flowAt xs ms bs t k)) = -(flowAt xs ms bs t k) := IntWalk.i64_in _ (by omega)
        clear HLV HT1 hbm hbt m1 m2 t1 t2 ob hni2 hk
        generalize outA (flowAt xs ms bs t) ms ts (k + 1) = A at *
        go_wp2_with (first
          | (go_at_call 85; ((with_reducible refine (HLV1.out _ HF.out).mono ?_); rintro e w5 ⟨rfl, hg⟩; have HF2 := Lib.hid (HF.out.on hg); clear hg))
          | (go_at_call 87; ((with_reducible refine (HMV.out _ HF2.out).mono ?_); rintro e w6 ⟨rfl, hg⟩; have HF3 := Lib.hid hg; clear hg)))
        go_roundw
        case rel => exact ⟨j + 1, by omega, by go_num, HF3⟩
        case measure => simp [intOf]; omega
    · obtain rfl : nf = j := by omega
      obtain ⟨p0, p1, p2, p3, p4⟩ := box5 (HF.out.nth 3 rfl)
      obtain ⟨r0, r1, r2, r3, r4⟩ := box5 (HF.out.nth 1 rfl)
      obtain ⟨f0, f1, f2, f3, f4⟩ := free5 (HF.out.nth 1 rfl)
      go_wp2_with fail
      have he := HF.out.put5 1 rfl (.int .i64 R) (.slice q1 n3 d1) (.slice (some ⟨k2, 0, none⟩) n3 d2) (.slice (some ⟨k3, 0, none⟩) n3 d3) (.slice q4 n4 d4)
      refine bodyPost_ret_by (results_cell_row (fn := Try.f52) rfl _ _ (w.heap.size + 1) _ _ (0, 0) _ rfl (he.nth 1 rfl) Try.underlying29 rfl (by kernel_rfl)) rfl ⟨q1, d1, some ⟨k2, 0, none⟩, d2, some ⟨k3, 0, none⟩, d3, q4, d4, rfl, ?_, he.gr⟩
      have hr := Held.stateOwn he 2 rfl
      rw [List.take_of_length_le (by have := HFL.out; omega), onl_is (fun k hk => flow_idle hk), onl_is (fun k hk => trc_zero (flow_idle hk)), ← HM.out] at hr
      rw [HM.out] at hr
      unfold stepM stepT
      rw [HM.out]
      exact hr
end Go.Proofs.Ytnaofcbbdlhjpaa.State
