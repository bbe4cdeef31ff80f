/- Steps: the reference model's l11Step, as a contract: a state in memory of the call's own; nothing that was there is written. Steps: the program's StepState, MacroStep, FluxSum, as contracts: what each answers; a state in memory of the call's own. Steps: the reference model's StepState, MacroStep, FluxSum, as contracts: what each answers; a state in memory of the call's own.
   Conditions: as each says. -/
import Derived.Test.YtnelgnfahkljmaaPkFlow
import Derived.Test.YtnelgnfahkljmaaStAct
import Derived.Test.YtnelgnfahkljmaaStFluxU
import Derived.Test.YtnelgnfahkljmaaStTrcS
import Derived.BigRegion
import Derived.BigQuiet
import Derived.Test.YtnelgnfahkljmaaMFaceIF
set_option maxRecDepth 100000
namespace Go.Proofs.Ytnelgnfahkljmaa.State
open Go.ChangeShapes Go.WideShapes Go.ChangeAt Go.RowKit Go.Joins Go.Proofs.Ytnelgnfahkljmaa.Cell Go.Proofs.Ytnelgnfahkljmaa.Mesh Go.Proofs.Ytnelgnfahkljmaa.Law Go.Proofs.Ytnelgnfahkljmaa.Ints Go.Proofs.Ytnelgnfahkljmaa.Draws Go.Deep

theorem onl_range (k : Nat) : List.range (k + 1) = List.range k ++ [k] := List.range_succ
theorem onl_skip {D : Nat → Int} {k : Nat} (h : D k = 0) : onl (List.range (k + 1)) D = onl (List.range k) D := funext fun j => by
  unfold onl
  by_cases e : j = k
  · subst e; simp [h]
  · by_cases q : j < k
    · rw [if_pos (by simp; omega), if_pos (by simp; omega)]
    · rw [if_neg (by simp; omega), if_neg (by simp; omega)]
theorem onl_set {n k : Nat} {D : Nat → Int} : (gen n (onl (List.range k) D)).set k (D k) = gen n (onl (List.range (k + 1)) D) := by
  rw [gen_set]
  refine gen_congr fun j _ => ?_
  unfold onl
  by_cases e : j = k
  · subst e; simp
  · rw [if_neg e]
    by_cases q : j < k
    · rw [if_pos (by simp; omega), if_pos (by simp; omega)]
    · rw [if_neg (by simp; omega), if_neg (by simp; omega)]
theorem onl_start (n : Nat) (D : Nat → Int) : List.replicate n (0 : Int) = gen n (onl (List.range 0) D) := by
  refine List.ext_getElem? fun j => ?_
  by_cases hj : j < n
  · rw [List.getElem?_replicate_of_lt hj, gen_at _ hj]; exact congrArg some (onl_nil D j).symm
  · rw [List.getElem?_eq_none (by rw [List.length_replicate]; omega), List.getElem?_eq_none (by rw [gen_len]; omega)]

/-- A round of the model's second loop: the leaf itself, then its right neighbour. -/
def spr1 (A C x : Nat → Int) (f k : Nat) : Int := if k = f then sprF A C x f f - A f - C f else sprF A C x f k
def spr2 (A C x : Nat → Int) (f k : Nat) : Int := if k = f then sprF A C x f f - A f - C f else if k = f + 1 then sprF A C x f (f + 1) + A f else sprF A C x f k
theorem spr1_is {n f : Nat} {A C x : Nat → Int} : (gen n (sprF A C x f)).set f (sprF A C x f f - A f - C f) = gen n (spr1 A C x f) := gen_set ..
theorem spr2_is {n f : Nat} {A C x : Nat → Int} : (gen n (spr1 A C x f)).set (f + 1) (sprF A C x f (f + 1) + A f) = gen n (spr2 A C x f) := by
  rw [gen_set]
  refine gen_congr fun k _ => ?_
  unfold spr1 spr2
  by_cases e : k = f
  · rw [if_neg (by omega), if_pos e, if_pos e]
  · by_cases e1 : k = f + 1
    · rw [if_pos e1, if_neg e, if_pos e1]
    · rw [if_neg e1, if_neg e, if_neg e, if_neg e1]
theorem spr2_same {n f : Nat} {A C x : Nat → Int} (h : A f = 0) : gen n (spr1 A C x f) = gen n (spr2 A C x f) := by
  refine gen_congr fun k _ => ?_
  unfold spr1 spr2
  by_cases e : k = f
  · rw [if_pos e, if_pos e]
  · rw [if_neg e, if_neg e]
    by_cases e1 : k = f + 1
    · rw [if_pos e1, h, e1]; omega
    · rw [if_neg e1]
theorem spr3_is {n f : Nat} {A C x : Nat → Int} : (gen n (spr2 A C x (f + 1))).set f (sprF A C x (f + 1) f + C (f + 1)) = gen n (sprF A C x (f + 1 + 1)) := by
  rw [← spr_next (fun e => absurd e (by omega)), gen_set]
  refine gen_congr fun k _ => ?_
  unfold spr2
  by_cases e : k = f
  · subst e; rw [if_pos rfl, if_neg (by omega), if_neg (by omega), if_pos rfl]
  · rw [if_neg e]
    by_cases e1 : k = f + 1
    · rw [if_pos e1, if_pos e1]
    · rw [if_neg e1, if_neg e1]
      by_cases e2 : k = f + 1 + 1
      · rw [if_pos e2, if_pos e2]
      · rw [if_neg e2, if_neg e2, if_neg (by omega)]
theorem spr3_same {n f : Nat} {A C x : Nat → Int} (h : C f = 0) : gen n (spr2 A C x f) = gen n (sprF A C x (f + 1)) := by
  rw [← spr_next (fun e => by rw [← e]; exact h)]
  refine gen_congr fun k _ => ?_
  unfold spr2
  by_cases e : k = f
  · rw [if_pos e, if_pos e]
  · rw [if_neg e, if_neg e]
    by_cases e1 : k = f + 1
    · rw [if_pos e1, if_pos e1]
    · rw [if_neg e1, if_neg e1]
      split <;> omega
theorem spr_small {A C x : Nat → Int} {B D : Int} (hx : ∀ j, -D ≤ x j ∧ x j ≤ D) (hA : ∀ j, -B ≤ A j ∧ A j ≤ B) (hC : ∀ j, -B ≤ C j ∧ C j ≤ B) (hB : 0 ≤ B) (f k : Nat) : -(D + 4 * B) ≤ sprF A C x f k ∧ sprF A C x f k ≤ D + 4 * B := by
  have h2 : -B ≤ prev (fun j => if j < f then A j else 0) k ∧ prev (fun j => if j < f then A j else 0) k ≤ B := by
    cases k with
    | zero => rw [prev_nil]; omega
    | succ k =>
      show -B ≤ (if k < f then A k else 0) ∧ (if k < f then A k else 0) ≤ B
      have := hA k
      split <;> omega
  have h1 := hA k; have h3 := hC k; have h4 := hC (k + 1); have h5 := hx k
  unfold sprF
  generalize prev (fun j => if j < f then A j else 0) k = p at *
  split <;> split <;> omega
theorem spr_start {n : Nat} {A C : Nat → Int} {ts : List Int} (h : ts.length = n) : ts = gen n (sprF A C (tsAt ts) 0) := by
  rw [gen_congr fun k _ => spr_zero A C _ k, ← h, gen_ts]
theorem onl_end {n : Nat} {D : Nat → Int} (h : ∀ k, n ≤ k → D k = 0) : onl (List.range n) D = D := funext fun k => onl_all (fun j hj => h j (by simpa using hj)) k

set_option maxHeartbeats 32000000 in
theorem specStep_is (R t : Int) (g1 g2 g3 g4 n1 n2 n3 n4 c1 c2 c3 c4 : Nat) (xs : List C3) (ms ts bs : List Int) (w : World) (h : ReadsS w (some ⟨g1, 0, none⟩) (some ⟨g2, 0, none⟩) (some ⟨g3, 0, none⟩) (some ⟨g4, 0, none⟩) n1 n2 n3 n4 xs ms ts bs) (hs : stOk R xs ms ts bs = true) (h1 : n1 ≤ 1048576) (h4 : n4 ≤ 1048576) :
    Calls Try.prog 40 #[.agg #[.int .i64 R, .slice (some ⟨g1, 0, none⟩) n1 c1, .slice (some ⟨g2, 0, none⟩) n2 c2, .slice (some ⟨g3, 0, none⟩) n3 c3, .slice (some ⟨g4, 0, none⟩) n4 c4], .int .i64 t] w (GivesS R n1 n2 n3 n4 xs (stepM xs ms bs t) (stepT xs ms ts bs t) bs w) := by
  have hx := h.l.len; have hm := h.m.len; have ht := h.t.len
  obtain ⟨-, ⟨q1, q2, -⟩, -⟩ := stOk_parts hs
  obtain rfl : n2 = n1 := by omega
  obtain rfl : n3 = n2 := by omega
  have hn0 := (mesh_parts (show meshOk R xs = true by
    obtain ⟨p1, -⟩ := stOk_parts hs
    unfold balanced at p1; simp only [Bool.and_eq_true] at p1; exact p1.1)).2
  have hcel : ∀ k, k < n3 → ∀ u, w.grownBy u none → u.cell? ⟨g2, 0 + k, none⟩ = some (.int .i64 (msAt ms k)) ∧ u.cell? ⟨g3, 0 + k, none⟩ = some (.int .i64 (tsAt ts k)) := by
    obtain ⟨g2', o2, g3', o3, e2, e3, -, hcel⟩ := pair_cells h hs (by omega)
    cases e2; cases e3
    exact hcel
  have HFB := Lib.hid (flow_bounds hs t)
  have HCP := Lib.hid (show ∀ u, w.grownBy u none → Calls Try.prog 39 #[.agg #[.int .i64 R, .slice (some ⟨g1, 0, none⟩) n3 c1, .slice (some ⟨g2, 0, none⟩) n3 c2, .slice (some ⟨g3, 0, none⟩) n3 c3, .slice (some ⟨g4, 0, none⟩) n4 c4]] u (GivesS R n3 n3 n3 n4 xs ms ts bs u) from fun u hu => specStCopy_is R g1 g2 g3 g4 n3 n3 n3 n4 c1 c2 c3 c4 xs ms ts bs u (h.on hu) h1 h1 h1 h4)
  have HLV := Lib.hid fun (k : Nat) (hk : k + 1 < n3) (u : World) (hu : w.grownBy u none) => specFace_is R k (some ⟨g1, 0, none⟩) n3 c1 xs (xs[k]'(by omega)) (xs[k + 1]'(by omega)) u (h.l.on hu) h1 (List.getElem?_eq_getElem (by omega)) (List.getElem?_eq_getElem (by omega))
  have HFX := Lib.hid fun (k : Nat) (hk : k + 1 < n3) (u : World) (hu : w.grownBy u none) => specFlux_is R (some ⟨g1, 0, none⟩) (some ⟨g2, 0, none⟩) (some ⟨g3, 0, none⟩) (some ⟨g4, 0, none⟩) n3 n3 n3 n4 c1 c2 c3 c4 k xs ms ts bs u (h.on hu) h1 hs hk
  have he := ((Held.nil w).box 31 #[.int .i64 R, .slice (some ⟨g1, 0, none⟩) n3 c1, .slice (some ⟨g2, 0, none⟩) n3 c2, .slice (some ⟨g3, 0, none⟩) n3 c3, .slice (some ⟨g4, 0, none⟩) n4 c4]).box 31 #[.int .i64 0, .slice none 0 0, .slice none 0 0, .slice none 0 0, .slice none 0 0]
  simp only [World.size_alloc] at he
  have HE := Lib.hid he
  have HX := Lib.hid hx; have HM := Lib.hid hm; have HT := Lib.hid ht; have HS := Lib.hid hs; have HCel := Lib.hid hcel
  have hni : (n3 : Int) ≤ 128 := by omega
  have HN0 := Lib.hid (show 0 < n3 by omega)
  clear hs h h1 h4 he hx hm ht q1 q2 hn0 hcel
  go_enter Try.func40, Try.ntmps40
  go_upto_region 1 with fail
  generalize (w.alloc (.cells #[.int .i64 R, .slice (some ⟨g1, 0, none⟩) n3 c1, .slice (some ⟨g2, 0, none⟩) n3 c2, .slice (some ⟨g3, 0, none⟩) n3 c3, .slice (some ⟨g4, 0, none⟩) n4 c4] 31)).alloc (.cells #[.int .i64 0, .slice none 0 0, .slice none 0 0, .slice none 0 0, .slice none 0 0] 31) = W0 at *
  obtain ⟨p0, p1, p2, p3, p4⟩ := box5 (HE.out.nth 0 rfl)
  go_upto_region 2 with (go_at_call 39; ((with_reducible refine (HCP.out _ HE.out.gr).mono ?_); rintro e w2 ⟨q1, d1, q2, d2, q3, d3, q4, d4, rfl, ho, hg⟩; have HE2 := Lib.hid (State.Held.state HE.out hg ho); clear ho hg))
  obtain ⟨k2, y2, rfl, -, -, -⟩ := own_cellI (OwnS.m (HE2.out.nth 2 rfl)) (show 0 < n3 from HN0.out)
  obtain ⟨k3, y3, rfl, -, -, -⟩ := own_cellI (OwnS.t (HE2.out.nth 2 rfl)) (show 0 < n3 from HN0.out)
  have HE3 := Lib.hid (HE2.out.box 31 #[.int .i64 R, .slice q1 n3 d1, .slice (some ⟨k2, 0, none⟩) n3 d2, .slice (some ⟨k3, 0, none⟩) n3 d3, .slice q4 n4 d4])
  clear p0 p1 p2 p3 p4 HE HE2 HCP
  obtain ⟨B2, hB⟩ : ∃ B, B = w2.heap.size := ⟨_, rfl⟩
  rw [← hB] at HE3 ⊢
  clear hB
  generalize w2.alloc (.cells #[.int .i64 R, .slice q1 n3 d1, .slice (some ⟨k2, 0, none⟩) n3 d2, .slice (some ⟨k3, 0, none⟩) n3 d3, .slice q4 n4 d4] 31) = W3 at *
  obtain ⟨p0, p1, p2, p3, p4⟩ := box5 (HE3.out.nth 0 rfl)
  have hmk := makeZS_is W3 n3 (by omega)
  go_upto_region 3 with fail
  have HL := Lib.hid (HE3.out.row (World.grownBy_alloc W3 (.cells (madeCells #[.int .i64 0] n3) 3) none) (ownZS W3 n3 (by omega) W3.heap.size (Nat.le_refl _)))
  rw [onl_start n3 (flowAt xs ms bs t)] at HL
  obtain ⟨g, hg⟩ : ∃ g, g = W3.heap.size := ⟨_, rfl⟩
  rw [← hg] at HL ⊢
  clear hg hmk p0 p1 p2 p3 p4 HE3
  generalize W3.alloc (.cells (madeCells #[.int .i64 0] n3) 3) = W4 at *
  have HL2 := Lib.hid (show Held w W4 [boxG w.heap.size 31 #[.int .i64 R, .slice (some ⟨g1, 0, none⟩) n3 c1, .slice (some ⟨g2, 0, none⟩) n3 c2, .slice (some ⟨g3, 0, none⟩) n3 c3, .slice (some ⟨g4, 0, none⟩) n4 c4], boxG (w.heap.size + 1) 31 #[.int .i64 0, .slice none 0 0, .slice none 0 0, .slice none 0 0, .slice none 0 0], stateG (.slice q1 n3 d1) (.slice (some ⟨k2, 0, none⟩) n3 d2) (.slice (some ⟨k3, 0, none⟩) n3 d3) (.slice q4 n4 d4) n3 n3 n3 n4 xs (gen n3 (movF (onl (List.range (0)) (flowAt xs ms bs t)) (msAt ms))) (ts) bs, boxG B2 31 #[.int .i64 R, .slice q1 n3 d1, .slice (some ⟨k2, 0, none⟩) n3 d2, .slice (some ⟨k3, 0, none⟩) n3 d3, .slice q4 n4 d4], rowG 3 1 (.slice (some ⟨g, 0, none⟩) n3 n3) n3 (vals (gen n3 (onl (List.range (0)) (flowAt xs ms bs t))))] by
    have q := HL.out
    rw [show stateG (.slice q1 n3 d1) (.slice (some ⟨k2, 0, none⟩) n3 d2) (.slice (some ⟨k3, 0, none⟩) n3 d3) (.slice q4 n4 d4) n3 n3 n3 n4 xs (ms) (ts) bs = stateG (.slice q1 n3 d1) (.slice (some ⟨k2, 0, none⟩) n3 d2) (.slice (some ⟨k3, 0, none⟩) n3 d3) (.slice q4 n4 d4) n3 n3 n3 n4 xs (gen n3 (movF (onl (List.range (0)) (flowAt xs ms bs t)) (msAt ms))) (ts) bs from by rw [← show ms = gen n3 (movF (onl (List.range (0)) (flowAt xs ms bs t)) (msAt ms)) from mov_start HM.out]] at q
    exact q)
  clear HL
  go_wp2_with fail
  go_loopw [7] (fun i wr => ∃ k : Nat, (k : Int) + 1 ≤ n3 ∧ i = .int .i64 k ∧ Hid (Held w wr [boxG w.heap.size 31 #[.int .i64 R, .slice (some ⟨g1, 0, none⟩) n3 c1, .slice (some ⟨g2, 0, none⟩) n3 c2, .slice (some ⟨g3, 0, none⟩) n3 c3, .slice (some ⟨g4, 0, none⟩) n4 c4], boxG (w.heap.size + 1) 31 #[.int .i64 0, .slice none 0 0, .slice none 0 0, .slice none 0 0, .slice none 0 0], stateG (.slice q1 n3 d1) (.slice (some ⟨k2, 0, none⟩) n3 d2) (.slice (some ⟨k3, 0, none⟩) n3 d3) (.slice q4 n4 d4) n3 n3 n3 n4 xs (gen n3 (movF (onl (List.range (k)) (flowAt xs ms bs t)) (msAt ms))) (ts) bs, boxG B2 31 #[.int .i64 R, .slice q1 n3 d1, .slice (some ⟨k2, 0, none⟩) n3 d2, .slice (some ⟨k3, 0, none⟩) n3 d3, .slice q4 n4 d4], rowG 3 1 (.slice (some ⟨g, 0, none⟩) n3 n3) n3 (vals (gen n3 (onl (List.range (k)) (flowAt xs ms bs t))))])) (fun i _ => n3 - (intOf i).toNat)
  case atStart => exact ⟨0, by have := HN0.out; omega, rfl, HL2⟩
  case round =>
    clear HL2
    obtain ⟨k, hk, rfl, HF⟩ := hrel
    obtain ⟨p0, p1, p2, p3, p4⟩ := box5 (HF.out.nth 0 rfl)
    by_cases hlt : (k : Int) + 1 < n3
    · have hk1 : k + 1 < n3 := by omega
      have HK1 := Lib.hid hk1
      have HC := Lib.hid (HLV.out k hk1)
      have HX1 := Lib.hid (HFX.out k hk1)
      have HA := Lib.hid fun u => specIsActive_is t (faceAt xs k) u
      cases ha : actN t (faceAt xs k) with
      | false =>
        have HSK := Lib.hid (onl_skip (D := flowAt xs ms bs t) (k := k) (if_neg (by rw [ha]; simp)))
        rw [ha] at HA
        clear ha hk1
        go_wp2_with (first
          | (go_at_call 68; ((with_reducible refine (HC.out _ HF.out.gr).mono ?_); rintro e w4 ⟨rfl, hg⟩; have HF2 := Lib.hid (HF.out.on hg); clear hg))
          | (go_at_call 67; ((with_reducible refine (HA.out _).mono ?_); rintro e w5 ⟨rfl, rfl⟩)))
        go_roundw
        case rel => exact ⟨k + 1, by omega, by go_num, by rw [HSK.out]; exact HF2⟩
        case measure => simp [intOf]; omega
      | true =>
        have HFE := Lib.hid (show fluxAt xs ms bs k = flowAt xs ms bs t k from (if_pos ⟨by have := HX.out; omega, ha⟩).symm)
        rw [ha] at HA
        rw [HFE.out] at HX1
        have HST := Lib.hid (show ∀ u, Held w u (gsOf HF.out) → (∃ z, u.cell? ⟨g, k, none⟩ = some z) ∧ u.frozen? ⟨g, k, none⟩ = false from fun u hu => by
          obtain ⟨g', z, e, -, m2, u2⟩ := own_cellI (hu.nth 4 rfl) (show k < n3 by omega)
          cases e
          exact ⟨⟨_, m2⟩, u2⟩)
        clear ha HFE
        have hb := HFB.out k
        generalize hV : flowAt xs ms bs t k = V at HX1 hb
        go_upto_region 8 with (first
          | (go_at_call 68; ((with_reducible refine (HC.out _ HF.out.gr).mono ?_); rintro e w4 ⟨rfl, hg⟩; have HF2 := Lib.hid (HF.out.on hg); obtain ⟨z0, z1, z2, z3, z4⟩ := box5 (HF2.out.nth 0 rfl); clear hg))
          | (go_at_call 67; ((with_reducible refine (HA.out _).mono ?_); rintro e w5 ⟨rfl, rfl⟩))
          | (go_at_call 69; ((with_reducible refine (HX1.out _ HF2.out.gr).mono ?_); rintro e w6 ⟨rfl, hg⟩; have HF3 := Lib.hid (HF2.out.on hg); obtain ⟨⟨z, zc⟩, zf⟩ := HST.out _ HF3.out; clear hg)))
        have HF4 := Lib.hid (State.Held.setRowS HF3.out 4 rfl k V)
        rw [← hV, onl_set, hV] at HF4
        have hnot : k ∉ List.range k := by simp
        have HMV := Lib.hid (mov_next (n := n3) (D := flowAt xs ms bs t) (x := msAt ms) hnot)
        rw [← onl_range, hV] at HMV
        have hbm := mov_small (F := List.range k) (D := flowAt xs ms bs t) (x := msAt ms) (B := 2500000) (C := 10000000) (fun j => (ms_small HS.out j).1) HFB.out (by omega)
        have bx := hbm k; have bx' := hbm (k + 1)
        obtain ⟨X, hX⟩ : ∃ X, movF (onl (List.range k) (flowAt xs ms bs t)) (msAt ms) k = X := ⟨_, rfl⟩
        obtain ⟨X', hX'⟩ : ∃ X, movF (onl (List.range k) (flowAt xs ms bs t)) (msAt ms) (k + 1) = X := ⟨_, rfl⟩
        rw [hX] at bx; rw [hX'] at bx'
        rw [hX, hX'] at HMV
        clear hbm hnot z0 z1 z2 z3 z4 zc zf HF2 HF3 HC HA HX1 HST p0 p1 p2 p3 p4
        generalize w6.setCell ⟨g, k, none⟩ (.int .i64 V) = Wa at *
        have e1 : IntKind.i64.wrap ((k : Int) + 1) = (k : Int) + 1 := IntWalk.i64_in _ (by omega)
        have e2 : IntKind.i64.wrap (X - V) = X - V := IntWalk.i64_in _ (by omega)
        have e3 : IntKind.i64.wrap (X' + V) = X' + V := IntWalk.i64_in _ (by omega)
        go_cut [] from 19 to 69 (fun wx => Hid (Held w wx [boxG w.heap.size 31 #[.int .i64 R, .slice (some ⟨g1, 0, none⟩) n3 c1, .slice (some ⟨g2, 0, none⟩) n3 c2, .slice (some ⟨g3, 0, none⟩) n3 c3, .slice (some ⟨g4, 0, none⟩) n4 c4], boxG (w.heap.size + 1) 31 #[.int .i64 0, .slice none 0 0, .slice none 0 0, .slice none 0 0, .slice none 0 0], stateG (.slice q1 n3 d1) (.slice (some ⟨k2, 0, none⟩) n3 d2) (.slice (some ⟨k3, 0, none⟩) n3 d3) (.slice q4 n4 d4) n3 n3 n3 n4 xs ((gen n3 (movF (onl (List.range (k)) (flowAt xs ms bs t)) (msAt ms))).set k (X - V)) (ts) bs, boxG B2 31 #[.int .i64 R, .slice q1 n3 d1, .slice (some ⟨k2, 0, none⟩) n3 d2, .slice (some ⟨k3, 0, none⟩) n3 d3, .slice q4 n4 d4], rowG 3 1 (.slice (some ⟨g, 0, none⟩) n3 n3) n3 (vals (gen n3 (onl (List.range (k + 1)) (flowAt xs ms bs t))))]))
        case first =>
          obtain ⟨p0, p1, p2, p3, p4⟩ := box5 (HF4.out.nth 3 rfl)
          obtain ⟨g', y, e, r, mc, mf⟩ := own_cellI (OwnS.m (HF4.out.nth 2 rfl)) (show k < n3 by omega)
          cases e
          rw [gen_at _ (by omega), hX] at r
          cases r
          obtain ⟨g', y, e, r, fc, -⟩ := own_cellI (HF4.out.nth 4 rfl) (show k < n3 by omega)
          cases e
          rw [gen_at _ (by omega), show onl (List.range (k + 1)) (flowAt xs ms bs t) k = V from (if_pos (by simp)).trans hV] at r
          cases r
          have hki : (k : Int) < n3 := by omega
          clear e1 e3
          go_region
          all_goals
            go_wp2_with fail
            go_meet
            exact Lib.hid (State.Held.setMass (HF4.out.on (Mesh.gr_drew (grown_refl _))) 2 rfl k (X - V))
        case rest =>
          have HF5 := Lib.hid hcut.out
          clear hcut
          go_upto_region 9 with fail
          obtain ⟨p0, p1, p2, p3, p4⟩ := box5 (HF5.out.nth 3 rfl)
          obtain ⟨g', y, e, r, mc, mf⟩ := own_cellI (OwnS.m (HF5.out.nth 2 rfl)) HK1.out
          cases e
          rw [List.getElem?_set_ne (by omega), gen_at _ HK1.out, hX'] at r
          cases r
          obtain ⟨g', y, e, r, fc, -⟩ := own_cellI (HF5.out.nth 4 rfl) (show k < n3 by omega)
          cases e
          rw [gen_at _ (by omega), show onl (List.range (k + 1)) (flowAt xs ms bs t) k = V from (if_pos (by simp)).trans hV] at r
          cases r
          have hki : (k : Int) < n3 := by omega
          clear e2 HF4
          go_region
          all_goals
            go_wp2_with fail
            go_roundw
            case rel =>
              have q := State.Held.setMass (HF5.out.on (Mesh.gr_drew (grown_refl _))) 2 rfl (k + 1) (X' + V)
              rw [HMV.out] at q
              exact ⟨k + 1, by omega, by go_num, Lib.hid q⟩
            case measure => simp [intOf]; omega
    · have HF1 := Lib.hid (show Held w wr [boxG w.heap.size 31 #[.int .i64 R, .slice (some ⟨g1, 0, none⟩) n3 c1, .slice (some ⟨g2, 0, none⟩) n3 c2, .slice (some ⟨g3, 0, none⟩) n3 c3, .slice (some ⟨g4, 0, none⟩) n4 c4], boxG (w.heap.size + 1) 31 #[.int .i64 0, .slice none 0 0, .slice none 0 0, .slice none 0 0, .slice none 0 0], stateG (.slice q1 n3 d1) (.slice (some ⟨k2, 0, none⟩) n3 d2) (.slice (some ⟨k3, 0, none⟩) n3 d3) (.slice q4 n4 d4) n3 n3 n3 n4 xs (gen n3 (movF (flowAt xs ms bs t) (msAt ms))) (gen n3 (sprF (outA (flowAt xs ms bs t) ms ts) (outC (flowAt xs ms bs t) ms ts) (tsAt ts) 0)) bs, boxG B2 31 #[.int .i64 R, .slice q1 n3 d1, .slice (some ⟨k2, 0, none⟩) n3 d2, .slice (some ⟨k3, 0, none⟩) n3 d3, .slice q4 n4 d4], rowG 3 1 (.slice (some ⟨g, 0, none⟩) n3 n3) n3 (vals (gen n3 (flowAt xs ms bs t)))] by
        have q := HF.out
        rw [onl_end (D := flowAt xs ms bs t) (n := k) (fun j hj => flow_out (by have := HX.out; omega))] at q
        rw [show stateG (.slice q1 n3 d1) (.slice (some ⟨k2, 0, none⟩) n3 d2) (.slice (some ⟨k3, 0, none⟩) n3 d3) (.slice q4 n4 d4) n3 n3 n3 n4 xs (gen n3 (movF (flowAt xs ms bs t) (msAt ms))) (ts) bs = stateG (.slice q1 n3 d1) (.slice (some ⟨k2, 0, none⟩) n3 d2) (.slice (some ⟨k3, 0, none⟩) n3 d3) (.slice q4 n4 d4) n3 n3 n3 n4 xs (gen n3 (movF (flowAt xs ms bs t) (msAt ms))) (gen n3 (sprF (outA (flowAt xs ms bs t) ms ts) (outC (flowAt xs ms bs t) ms ts) (tsAt ts) 0)) bs from by rw [← show ts = gen n3 (sprF (outA (flowAt xs ms bs t) ms ts) (outC (flowAt xs ms bs t) ms ts) (tsAt ts) 0) from spr_start HT.out]] at q
        exact q)
      have HFO := Lib.hid (show ∀ j, n3 ≤ j + 1 → flowAt xs ms bs t j = 0 from fun j hj => flow_out (by have := HX.out; omega))
      have HEND := Lib.hid (show stepM xs ms bs t = gen n3 (movF (flowAt xs ms bs t) (msAt ms)) ∧ stepT xs ms ts bs t = gen n3 (sprF (outA (flowAt xs ms bs t) ms ts) (outC (flowAt xs ms bs t) ms ts) (tsAt ts) n3) from by
        rw [spr_end (n := n3) (by have := HM.out; omega)]
        unfold stepM stepT
        rw [HM.out]
        exact ⟨rfl, rfl⟩)
      clear HF HLV HFX
      generalize flowAt xs ms bs t = f at HF1 HFB HFO HEND
      obtain ⟨A, hA⟩ : ∃ A, A = outA f ms ts := ⟨_, rfl⟩
      obtain ⟨C, hC⟩ : ∃ C, C = outC f ms ts := ⟨_, rfl⟩
      have HA := Lib.hid hA; have HC := Lib.hid hC
      rw [← hA, ← hC] at HF1 HEND
      clear hA hC
      have HSM := Lib.hid (show ∀ i j, -50000000000 ≤ sprF A C (tsAt ts) i j ∧ sprF A C (tsAt ts) i j ≤ 50000000000 from fun i j => by
        have q := spr_small (A := A) (C := C) (x := tsAt ts) (B := 10000000000) (D := 10000000000) (fun j => (ms_small HS.out j).2) (fun j => by rw [HA.out]; exact (out_small f ms ts j).1) (fun j => by rw [HC.out]; exact (out_small f ms ts j).2) (by omega) i j
        omega)
      go_wp2_with fail
      go_loopw [8] (fun i wr => ∃ k : Nat, (k : Int) ≤ n3 ∧ i = .int .i64 k ∧ Hid (Held w wr [boxG w.heap.size 31 #[.int .i64 R, .slice (some ⟨g1, 0, none⟩) n3 c1, .slice (some ⟨g2, 0, none⟩) n3 c2, .slice (some ⟨g3, 0, none⟩) n3 c3, .slice (some ⟨g4, 0, none⟩) n4 c4], boxG (w.heap.size + 1) 31 #[.int .i64 0, .slice none 0 0, .slice none 0 0, .slice none 0 0, .slice none 0 0], stateG (.slice q1 n3 d1) (.slice (some ⟨k2, 0, none⟩) n3 d2) (.slice (some ⟨k3, 0, none⟩) n3 d3) (.slice q4 n4 d4) n3 n3 n3 n4 xs (gen n3 (movF f (msAt ms))) (gen n3 (sprF A C (tsAt ts) (k))) bs, boxG B2 31 #[.int .i64 R, .slice q1 n3 d1, .slice (some ⟨k2, 0, none⟩) n3 d2, .slice (some ⟨k3, 0, none⟩) n3 d3, .slice q4 n4 d4], rowG 3 1 (.slice (some ⟨g, 0, none⟩) n3 n3) n3 (vals (gen n3 f))])) (fun i _ => n3 - (intOf i).toNat)
      case atStart => exact ⟨0, by omega, rfl, HF1⟩
      case round =>
        clear HF1 p0 p1 p2 p3 p4 hlt hk
        obtain ⟨k, hk, rfl, HF⟩ := hrel
        obtain ⟨p0, p1, p2, p3, p4⟩ := box5 (HF.out.nth 0 rfl)
        by_cases hlt : (k : Int) < n3
        · have HK := Lib.hid (show k < n3 by omega)
          obtain ⟨g', y, e, r, fc, -⟩ := own_cellI (HF.out.nth 4 rfl) HK.out
          cases e
          rw [gen_at _ HK.out] at r
          cases r
          have fb := HFB.out k
          go_upto_region 14 with fail
          rw [Mesh.max_if]
          obtain ⟨r, hr⟩ : ∃ r, flowR f k = r := ⟨_, rfl⟩
          rw [show max (f k) 0 = r from hr]
          have HR := Lib.hid hr
          have rb : 0 ≤ r ∧ r ≤ 2500000 := by have : r = max (f k) 0 := hr.symm; omega
          clear hr fc fb
          go_upto_if 83 with fail
          obtain ⟨l, hl⟩ : ∃ l, flowL f k = l := ⟨_, rfl⟩
          have HL := Lib.hid hl
          have lb : 0 ≤ l ∧ l ≤ 2500000 := by
            have : l = max (-(prev f k)) 0 := hl.symm
            cases k with
            | zero => rw [prev_nil] at this; omega
            | succ k => rw [show prev f (k + 1) = f k from rfl] at this; have := HFB.out k; omega
          go_cut [10] from 70 to 149 (fun v wx => v = .int .i64 l ∧ wx = wr)
          case first =>
            cases k with
            | zero =>
              go_wp2_with fail
              go_meet
              exact ⟨congrArg (Value.int IntKind.i64) (show (0 : Int) = l by rw [← hl]; unfold flowL; rw [prev_nil]; omega), rfl⟩
            | succ k =>
              obtain ⟨g', y, e, r_, fc, -⟩ := own_cellI (HF.out.nth 4 rfl) (show k < n3 by omega)
              cases e
              rw [gen_at _ (by omega)] at r_
              cases r_
              have fb := HFB.out k
              have hsub : ((k + 1 : Nat) : Int) - 1 = k := by omega
              have hkp : (0 : Int) < ((k + 1 : Nat) : Int) := by omega
              have e4 : (if 0 < f k then (0 : Int) else -(f k)) = l := by rw [← hl, show flowL f (k + 1) = max (-(f k)) 0 from rfl]; split <;> omega
              have e5 : (if -(f k) < 0 then (0 : Int) else -(f k)) = l := by rw [← hl, show flowL f (k + 1) = max (-(f k)) 0 from rfl]; split <;> omega
              have hlx : l = max (-(f k)) 0 := hl.symm
              clear hl
              go_wp2_with fail
              all_goals
                go_meet
                exact ⟨congrArg (Value.int IntKind.i64) (by first | exact e4 | exact e5 | omega), rfl⟩
          case rest =>
            obtain ⟨rfl, rfl⟩ := hcut
            clear hl
            obtain ⟨a, ha⟩ : ∃ a, A k = a := ⟨_, rfl⟩
            obtain ⟨c, hc⟩ : ∃ c, C k = c := ⟨_, rfl⟩
            have ab : -10000000000 ≤ a ∧ a ≤ 10000000000 := by rw [← ha, HA.out]; exact (out_small f ms ts k).1
            have cb : -10000000000 ≤ c ∧ c ≤ 10000000000 := by rw [← hc, HC.out]; exact (out_small f ms ts k).2
            have HLO := Lib.hid (show ∀ u, Calls Try.prog 70 #[.int .i64 (tsAt ts k), .int .i64 (msAt ms k), .int .i64 r, .int .i64 l] u fun e w' => e = .returned (.tuple #[.int .i64 a, .int .i64 c]) ∧ w' = u from fun u => by
              have q := specLeafOut_is (tsAt ts k) (msAt ms k) r l u
              rw [← HR.out, ← HL.out] at q
              rw [← ha, ← hc, HA.out, HC.out]
              rw [← HR.out, ← HL.out]
              exact q)
            have HAK := Lib.hid ha; have HCK := Lib.hid hc
            clear ha hc
            go_upto_region 17 with fail
            go_cut [11, 12] from 70 to 149 (fun va vc wx => va = .int .i64 a ∧ vc = .int .i64 c ∧ Hid (Held w wx [boxG w.heap.size 31 #[.int .i64 R, .slice (some ⟨g1, 0, none⟩) n3 c1, .slice (some ⟨g2, 0, none⟩) n3 c2, .slice (some ⟨g3, 0, none⟩) n3 c3, .slice (some ⟨g4, 0, none⟩) n4 c4], boxG (w.heap.size + 1) 31 #[.int .i64 0, .slice none 0 0, .slice none 0 0, .slice none 0 0, .slice none 0 0], stateG (.slice q1 n3 d1) (.slice (some ⟨k2, 0, none⟩) n3 d2) (.slice (some ⟨k3, 0, none⟩) n3 d3) (.slice q4 n4 d4) n3 n3 n3 n4 xs (gen n3 (movF f (msAt ms))) (gen n3 (sprF A C (tsAt ts) (k))) bs, boxG B2 31 #[.int .i64 R, .slice q1 n3 d1, .slice (some ⟨k2, 0, none⟩) n3 d2, .slice (some ⟨k3, 0, none⟩) n3 d3, .slice q4 n4 d4], rowG 3 1 (.slice (some ⟨g, 0, none⟩) n3 n3) n3 (vals (gen n3 f))]))
            case first =>
              obtain ⟨p0, p1, p2, p3, p4⟩ := box5 (HF.out.nth 0 rfl)
              obtain ⟨x0, x1⟩ := HCel.out k HK.out _ HF.out.gr
              rw [Nat.zero_add] at x0 x1
              generalize tsAt ts k = tk at x1 HLO
              generalize msAt ms k = mk at x0 HLO
              go_quiet (first | ((with_reducible refine Calls.quiet_of_same (HLO.out _)); done))
              have HF2 := Lib.hid (HF.out.on (Cell.g_drewN (Cell.grown_refl _) nq))
              go_wp2_with fail
              go_meet
              exact ⟨rfl, rfl, HF2⟩
            case rest =>
              obtain ⟨rfl, rfl, HF2⟩ := hcut
              clear HF HLO p0 p1 p2 p3 p4
              go_upto_region 18 with fail
              have yb := HSM.out k k
              have HT1 := Lib.hid (spr1_is (n := n3) (f := k) (A := A) (C := C) (x := tsAt ts))
              rw [HAK.out, HCK.out] at HT1
              obtain ⟨Y, hY⟩ : ∃ Y, sprF A C (tsAt ts) k k = Y := ⟨_, rfl⟩
              rw [hY] at yb HT1
              go_cut [] from 70 to 149 (fun wx => Hid (Held w wx [boxG w.heap.size 31 #[.int .i64 R, .slice (some ⟨g1, 0, none⟩) n3 c1, .slice (some ⟨g2, 0, none⟩) n3 c2, .slice (some ⟨g3, 0, none⟩) n3 c3, .slice (some ⟨g4, 0, none⟩) n4 c4], boxG (w.heap.size + 1) 31 #[.int .i64 0, .slice none 0 0, .slice none 0 0, .slice none 0 0, .slice none 0 0], stateG (.slice q1 n3 d1) (.slice (some ⟨k2, 0, none⟩) n3 d2) (.slice (some ⟨k3, 0, none⟩) n3 d3) (.slice q4 n4 d4) n3 n3 n3 n4 xs (gen n3 (movF f (msAt ms))) (gen n3 (spr1 A C (tsAt ts) k)) bs, boxG B2 31 #[.int .i64 R, .slice q1 n3 d1, .slice (some ⟨k2, 0, none⟩) n3 d2, .slice (some ⟨k3, 0, none⟩) n3 d3, .slice q4 n4 d4], rowG 3 1 (.slice (some ⟨g, 0, none⟩) n3 n3) n3 (vals (gen n3 f))]))
              case first =>
                obtain ⟨p0, p1, p2, p3, p4⟩ := box5 (HF2.out.nth 3 rfl)
                obtain ⟨g', y, e, r_, mc, mf⟩ := own_cellI (OwnS.t (HF2.out.nth 2 rfl)) HK.out
                cases e
                rw [gen_at _ HK.out, hY] at r_
                cases r_
                have e2 : IntKind.i64.wrap (Y - a) = Y - a := IntWalk.i64_in _ (by omega)
                have e3 : IntKind.i64.wrap (Y - a - c) = Y - a - c := IntWalk.i64_in _ (by omega)
                go_region
                all_goals
                  go_wp2_with fail
                  go_meet
                  have q := State.Held.setTracer (HF2.out.on (Mesh.gr_drew (grown_refl _))) 2 rfl k (Y - a - c)
                  rw [HT1.out] at q
                  exact Lib.hid q
              case rest =>
                have HF3 := Lib.hid hcut.out
                clear hcut HF2 HT1 hY yb
                go_upto_if 121 with fail
                go_cut [] from 70 to 149 (fun wx => Hid (Held w wx [boxG w.heap.size 31 #[.int .i64 R, .slice (some ⟨g1, 0, none⟩) n3 c1, .slice (some ⟨g2, 0, none⟩) n3 c2, .slice (some ⟨g3, 0, none⟩) n3 c3, .slice (some ⟨g4, 0, none⟩) n4 c4], boxG (w.heap.size + 1) 31 #[.int .i64 0, .slice none 0 0, .slice none 0 0, .slice none 0 0, .slice none 0 0], stateG (.slice q1 n3 d1) (.slice (some ⟨k2, 0, none⟩) n3 d2) (.slice (some ⟨k3, 0, none⟩) n3 d3) (.slice q4 n4 d4) n3 n3 n3 n4 xs (gen n3 (movF f (msAt ms))) (gen n3 (spr2 A C (tsAt ts) k)) bs, boxG B2 31 #[.int .i64 R, .slice q1 n3 d1, .slice (some ⟨k2, 0, none⟩) n3 d2, .slice (some ⟨k3, 0, none⟩) n3 d3, .slice q4 n4 d4], rowG 3 1 (.slice (some ⟨g, 0, none⟩) n3 n3) n3 (vals (gen n3 f))]))
                case first =>
                  by_cases hr0 : 0 < r
                  · have hk1 : k + 1 < n3 := by
                      by_cases q : k + 1 < n3
                      · exact q
                      · have := HFO.out k (by omega)
                        have q2 : max (f k) 0 = r := HR.out
                        omega
                    have HT2 := Lib.hid (spr2_is (n := n3) (f := k) (A := A) (C := C) (x := tsAt ts))
                    rw [HAK.out] at HT2
                    have yb := HSM.out k (k + 1)
                    obtain ⟨p0, p1, p2, p3, p4⟩ := box5 (HF3.out.nth 3 rfl)
                    obtain ⟨g', y, e, r_, mc, mf⟩ := own_cellI (OwnS.t (HF3.out.nth 2 rfl)) hk1
                    cases e
                    rw [gen_at _ hk1, show spr1 A C (tsAt ts) k (k + 1) = sprF A C (tsAt ts) k (k + 1) from if_neg (by omega)] at r_
                    cases r_
                    generalize sprF A C (tsAt ts) k (k + 1) = Y at yb mc HT2
                    have e1 : IntKind.i64.wrap ((k : Int) + 1) = (k : Int) + 1 := IntWalk.i64_in _ (by omega)
                    have e2 : IntKind.i64.wrap (Y + a) = Y + a := IntWalk.i64_in _ (by omega)
                    have hki : (k : Int) + 1 < n3 := by omega
                    clear hk1
                    go_upto_region 20 with fail
                    go_region
                    all_goals
                      go_wp2_with fail
                      go_meet
                      have q := State.Held.setTracer (HF3.out.on (Mesh.gr_drew (grown_refl _))) 2 rfl (k + 1) (Y + a)
                      rw [HT2.out] at q
                      exact Lib.hid q
                  · go_wp2_with fail
                    go_meet
                    have q := HF3.out
                    rw [spr2_same (by rw [HA.out]; exact outA_zero (by have q2 : max (f k) 0 = r := HR.out; omega))] at q
                    exact Lib.hid q
                case rest =>
                  have HF4 := Lib.hid hcut.out
                  clear hcut HF3
                  by_cases hl0 : 0 < l
                  · cases k with
                    | zero => exact absurd hl0 (by have q2 : max (-(prev f 0)) 0 = l := HL.out; rw [prev_nil] at q2; omega)
                    | succ k =>
                      have HT3 := Lib.hid (spr3_is (n := n3) (f := k) (A := A) (C := C) (x := tsAt ts))
                      rw [HCK.out] at HT3
                      have yb := HSM.out (k + 1) k
                      obtain ⟨p0, p1, p2, p3, p4⟩ := box5 (HF4.out.nth 3 rfl)
                      obtain ⟨g', y, e, r_, mc, mf⟩ := own_cellI (OwnS.t (HF4.out.nth 2 rfl)) (show k < n3 by have := HK.out; omega)
                      cases e
                      rw [gen_at _ (by have := HK.out; omega), show spr2 A C (tsAt ts) (k + 1) k = sprF A C (tsAt ts) (k + 1) k from (if_neg (by omega)).trans (if_neg (by omega))] at r_
                      cases r_
                      generalize sprF A C (tsAt ts) (k + 1) k = Y at yb mc HT3
                      have hsub : ((k + 1 : Nat) : Int) - 1 = k := by omega
                      have e1 : IntKind.i64.wrap (((k + 1 : Nat) : Int) - 1) = (k : Int) := by rw [hsub]; exact IntWalk.i64_in _ (by omega)
                      have e2 : IntKind.i64.wrap (Y + c) = Y + c := IntWalk.i64_in _ (by omega)
                      have hki : (k : Int) < n3 := by omega
                      go_upto_region 22 with fail
                      go_region
                      all_goals
                        go_wp2_with fail
                        go_roundw
                        case rel =>
                          have q := State.Held.setTracer (HF4.out.on (Mesh.gr_drew (grown_refl _))) 2 rfl k (Y + c)
                          rw [HT3.out] at q
                          exact ⟨k + 1 + 1, by omega, by go_num, Lib.hid q⟩
                        case measure => simp [intOf]; omega
                  · go_wp2_with fail
                    go_roundw
                    case rel =>
                      have q := HF4.out
                      rw [spr3_same (by rw [HC.out]; exact outC_zero (by have q2 : max (-(prev f k)) 0 = l := HL.out; omega))] at q
                      exact ⟨k + 1, by omega, by go_num, Lib.hid q⟩
                    case measure => simp [intOf]; omega
        · obtain rfl : k = n3 := by omega
          obtain ⟨s0, s1, s2, s3, s4⟩ := box5 (HF.out.nth 3 rfl)
          obtain ⟨r0, r1, r2, r3, r4⟩ := box5 (HF.out.nth 1 rfl)
          obtain ⟨f0, f1, f2, f3, f4⟩ := free5 (HF.out.nth 1 rfl)
          go_wp2_with fail
          have he := HF.out.put5 1 rfl (.int .i64 R) (.slice q1 k d1) (.slice (some ⟨k2, 0, none⟩) k d2) (.slice (some ⟨k3, 0, none⟩) k d3) (.slice q4 n4 d4)
          refine bodyPost_ret_by (results_cell_row (fn := Try.f40) rfl _ _ (w.heap.size + 1) _ _ (0, 0) _ rfl (he.nth 1 rfl) Try.underlying31 rfl (by kernel_rfl)) rfl ⟨q1, d1, some ⟨k2, 0, none⟩, d2, some ⟨k3, 0, none⟩, d3, q4, d4, rfl, ?_, he.gr⟩
          rw [HEND.out.1, HEND.out.2]
          exact Held.stateOwn he 2 rfl
end Go.Proofs.Ytnelgnfahkljmaa.State

namespace Go.Proofs.Ytnelgnfahkljmaa.State
open Go.ChangeShapes Go.WideShapes Go.ChangeAt Go.RowKit Go.Joins Go.Proofs.Ytnelgnfahkljmaa.Cell Go.Proofs.Ytnelgnfahkljmaa.Mesh Go.Proofs.Ytnelgnfahkljmaa.Law Go.Proofs.Ytnelgnfahkljmaa.Ints Go.Proofs.Ytnelgnfahkljmaa.Draws Go.Deep

theorem Held.some {w W : World} {gs gs' : List Grp} (h : Held w W gs) (hs : gs'.Sublist gs) : Held w W gs' :=
  ⟨fun g hg => h.p g (hs.subset hg), fun g hg => h.lo g (hs.subset hg), h.dis.sublist hs, h.gr⟩

/-- What a run of ticks holds: the state in a box, in the caller's memory before the first tick, then in memory of the call's own. -/
def Cur (R : Int) (n1 n2 n3 n4 : Nat) (xs : List C3) (bs : List Int) (p : List Int × List Int) (B : Nat) (k : Nat) (w W : World) (rest : List Grp) : Prop :=
  ∃ b1 d1 b2 d2 b3 d3 b4 d4 G, Held w W ([boxG B 31 #[.int .i64 R, .slice b1 n1 d1, .slice b2 n2 d2, .slice b3 n3 d3, .slice b4 n4 d4]] ++ rest ++ [G]) ∧ ReadsS W b1 b2 b3 b4 n1 n2 n3 n4 xs (ticks R xs bs p 0 k).1 (ticks R xs bs p 0 k).2 bs
    ∧ (0 < k → G = stateG (.slice b1 n1 d1) (.slice b2 n2 d2) (.slice b3 n3 d3) (.slice b4 n4 d4) n1 n2 n3 n4 xs (ticks R xs bs p 0 k).1 (ticks R xs bs p 0 k).2 bs)
theorem ticks_succ0 (R : Int) (xs : List C3) (bs : List Int) (p : List Int × List Int) (k : Nat) : ticks R xs bs p 0 (k + 1) = tickS R xs bs (ticks R xs bs p 0 k) k := by
  rw [ticks, show (0 : Int) + (k : Int) = k by omega]

/-- The sum of the fluxes through a face in the first k ticks, whatever the state and the face. -/
def sumG (R : Int) (xs : List C3) (ms ts bs : List Int) (i : Int) (k : Nat) : Int := if stOk R xs ms ts bs = true ∧ 0 ≤ i ∧ i + 1 < xs.length then sumF R xs bs (ms, ts) i.toNat k else 0
theorem sumG_bounds (R : Int) (xs : List C3) (ms ts bs : List Int) (i : Int) (k : Nat) : -2500000 * (k : Int) ≤ sumG R xs ms ts bs i k ∧ sumG R xs ms ts bs i k ≤ 2500000 * (k : Int) := by
  unfold sumG
  split
  · rename_i h; exact sumF_bounds h.1 _ k
  · omega
theorem faceG_bounds (R : Int) (xs : List C3) (ms ts bs : List Int) (i : Int) : -2500000 ≤ faceG R xs ms ts bs i ∧ faceG R xs ms ts bs i ≤ 2500000 := by
  unfold faceG
  split
  · rename_i h
    obtain ⟨-, ⟨p2, p3, -⟩, -⟩ := stOk_parts h.1
    obtain ⟨f1, f2, -⟩ := flux_facts h.1 (k := i.toNat) (by omega)
    obtain ⟨m, tt, -, -, em, -, m0, m1, -⟩ := pair_at h.1 (show i.toNat < ms.length by omega)
    obtain ⟨m', tt', -, -, em', -, m0', m1', -⟩ := pair_at h.1 (show i.toNat + 1 < ms.length by omega)
    rw [em] at f1; rw [em'] at f2
    omega
  · omega
theorem sumG_next (R : Int) (xs : List C3) (ms ts bs : List Int) (i : Int) (k : Nat) : sumG R xs ms ts bs i (k + 1) = sumG R xs ms ts bs i k + (if actN k (faceOf R xs i) = true then faceG R xs (ticks R xs bs (ms, ts) 0 k).1 (ticks R xs bs (ms, ts) 0 k).2 bs i else 0) := by
  have hv : stOk R xs (ticks R xs bs (ms, ts) 0 k).1 (ticks R xs bs (ms, ts) 0 k).2 bs = stOk R xs ms ts bs := ticks_valid 0 k
  unfold sumG faceG
  rw [hv]
  by_cases h : stOk R xs ms ts bs = true ∧ 0 ≤ i ∧ i + 1 < xs.length
  · have hm : meshOk R xs = true := by
      obtain ⟨p1, -⟩ := stOk_parts h.1
      unfold balanced at p1; simp only [Bool.and_eq_true] at p1; exact p1.1
    rw [if_pos h, if_pos h, if_pos h, sumF, show faceOf R xs i = faceAt xs i.toNat from if_pos ⟨hm, h.2.1, h.2.2⟩]
    unfold flowAt
    by_cases ha : actN k (faceAt xs i.toNat) = true
    · rw [if_pos ⟨by omega, ha⟩, if_pos ha]
    · rw [if_neg (fun q => ha q.2), if_neg ha]
  · rw [if_neg h, if_neg h, if_neg h]
    split <;> rfl
theorem sumG_on {R : Int} {xs : List C3} {ms ts bs : List Int} {i : Int} {k : Nat} (h : actN k (faceOf R xs i) = true) : sumG R xs ms ts bs i (k + 1) = sumG R xs ms ts bs i k + faceG R xs (ticks R xs bs (ms, ts) 0 k).1 (ticks R xs bs (ms, ts) 0 k).2 bs i := by rw [sumG_next, if_pos h]
theorem sumG_off {R : Int} {xs : List C3} {ms ts bs : List Int} {i : Int} {k : Nat} (h : actN k (faceOf R xs i) = false) : sumG R xs ms ts bs i (k + 1) = sumG R xs ms ts bs i k := by rw [sumG_next, if_neg (by rw [h]; simp), Int.add_zero]

end Go.Proofs.Ytnelgnfahkljmaa.State

namespace Go.Proofs.Ytnelgnfahkljmaa.State
open Go.ChangeShapes Go.WideShapes Go.ChangeAt Go.RowKit Go.Joins Go.Proofs.Ytnelgnfahkljmaa.Cell Go.Proofs.Ytnelgnfahkljmaa.Mesh Go.Proofs.Ytnelgnfahkljmaa.Law Go.Proofs.Ytnelgnfahkljmaa.Ints Go.Proofs.Ytnelgnfahkljmaa.Draws Go.Deep

theorem addrS {w : World} {base n1 n2 n3 n4 c1 c2 c3 c4 : Nat} {a1 a2 a3 a4 : Option Addr} {xs : List C3} {ms ts bs : List Int} (h : OwnS w base (.slice a1 n1 c1) (.slice a2 n2 c2) (.slice a3 n3 c3) (.slice a4 n4 c4) n1 n2 n3 n4 xs ms ts bs) (h1 : 1 ≤ n1) (h2 : 1 ≤ n2) (h3 : 1 ≤ n3) (h4 : 1 ≤ n4) :
    ∃ g1 g2 g3 g4 : Nat, a1 = some ⟨g1, 0, none⟩ ∧ a2 = some ⟨g2, 0, none⟩ ∧ a3 = some ⟨g3, 0, none⟩ ∧ a4 = some ⟨g4, 0, none⟩ := by
  obtain ⟨g1, c, e⟩ := own_at1 h.l h1
  cases e
  obtain ⟨g2, rfl, -, -⟩ := own_atI h.m h2
  obtain ⟨g3, rfl, -, -⟩ := own_atI h.t h3
  obtain ⟨g4, rfl, -, -⟩ := own_atI h.b h4
  exact ⟨g1, g2, g3, g4, rfl, rfl, rfl, rfl⟩
theorem Held.turnLast {w W : World} {a b c d : Grp} (h : Held w W [a, b, c, d]) : Held w W [a, b, d, c] :=
  have hp : [a, b, c, d].Perm [a, b, d, c] := .cons _ (.cons _ (.swap _ _ _))
  ⟨fun g hg => h.p g (hp.mem_iff.2 hg), fun g hg => h.lo g (hp.mem_iff.2 hg), (hp.pairwise_iff (fun hxy b hb hbx => hxy b hbx hb)).1 h.dis, h.gr⟩
/-- The sizes of a valid state. -/
theorem sizes_at {R : Int} {xs : List C3} {ms ts bs : List Int} {w : World} {a1 a2 a3 a4 : Option Addr} {n1 n2 n3 n4 : Nat} (h : ReadsS w a1 a2 a3 a4 n1 n2 n3 n4 xs ms ts bs) (hs : stOk R xs ms ts bs = true) : n2 = n1 ∧ n3 = n1 ∧ 1 ≤ n1 ∧ n1 ≤ 128 ∧ 1 ≤ n4 ∧ n4 ≤ 8 := by
  have hx := h.l.len; have hm := h.m.len; have ht := h.t.len; have hb := h.b.len
  obtain ⟨p1, ⟨q1, q2, q3⟩, -⟩ := stOk_parts hs
  have hm' : meshOk R xs = true := by unfold balanced at p1; simp only [Bool.and_eq_true] at p1; exact p1.1
  have hn := (mesh_parts hm').2
  have hR := of_decide_eq_true hm'
  omega

set_option maxHeartbeats 16000000 in
theorem specStepState_is (R t : Int) (g1 g2 g3 g4 n1 n2 n3 n4 c1 c2 c3 c4 : Nat) (xs : List C3) (ms ts bs : List Int) (w : World) (h : ReadsS w (some ⟨g1, 0, none⟩) (some ⟨g2, 0, none⟩) (some ⟨g3, 0, none⟩) (some ⟨g4, 0, none⟩) n1 n2 n3 n4 xs ms ts bs) (h1 : n1 ≤ 1048576) (h2 : n2 ≤ 1048576) (h3 : n3 ≤ 1048576) (h4 : n4 ≤ 1048576) :
    Calls Try.prog 18 #[.agg #[.int .i64 R, .slice (some ⟨g1, 0, none⟩) n1 c1, .slice (some ⟨g2, 0, none⟩) n2 c2, .slice (some ⟨g3, 0, none⟩) n3 c3, .slice (some ⟨g4, 0, none⟩) n4 c4], .int .i64 t] w (GivesS R n1 n2 n3 n4 xs (tickS R xs bs (ms, ts) t).1 (tickS R xs bs (ms, ts) t).2 bs w) := by
  have HOK := Lib.hid (show ∀ u, w.grownBy u none → Calls Try.prog 38 #[.agg #[.int .i64 R, .slice (some ⟨g1, 0, none⟩) n1 c1, .slice (some ⟨g2, 0, none⟩) n2 c2, .slice (some ⟨g3, 0, none⟩) n3 c3, .slice (some ⟨g4, 0, none⟩) n4 c4]] u fun e w' => e = .returned (.bool (stOk R xs ms ts bs)) ∧ u.grownBy w' none from fun u hu => specStateOk_is R (some ⟨g1, 0, none⟩) (some ⟨g2, 0, none⟩) (some ⟨g3, 0, none⟩) (some ⟨g4, 0, none⟩) n1 n2 n3 n4 c1 c2 c3 c4 xs ms ts bs u (h.on hu) h1 h2 h3 h4)
  have he := ((Held.nil w).box 31 #[.int .i64 R, .slice (some ⟨g1, 0, none⟩) n1 c1, .slice (some ⟨g2, 0, none⟩) n2 c2, .slice (some ⟨g3, 0, none⟩) n3 c3, .slice (some ⟨g4, 0, none⟩) n4 c4]).box 31 #[.int .i64 0, .slice none 0 0, .slice none 0 0, .slice none 0 0, .slice none 0 0]
  simp only [World.size_alloc] at he
  have HE := Lib.hid he
  clear he
  cases hs : stOk R xs ms ts bs with
  | false =>
    rw [hs] at HOK
    rw [tick_bad hs]
    have HCP := Lib.hid (show ∀ u, w.grownBy u none → Calls Try.prog 39 #[.agg #[.int .i64 R, .slice (some ⟨g1, 0, none⟩) n1 c1, .slice (some ⟨g2, 0, none⟩) n2 c2, .slice (some ⟨g3, 0, none⟩) n3 c3, .slice (some ⟨g4, 0, none⟩) n4 c4]] u (GivesS R n1 n2 n3 n4 xs ms ts bs u) from fun u hu => specStCopy_is R g1 g2 g3 g4 n1 n2 n3 n4 c1 c2 c3 c4 xs ms ts bs u (h.on hu) h1 h2 h3 h4)
    clear hs h h1 h2 h3 h4
    go_enter Try.func18, Try.ntmps18
    go_upto_region 1 with fail
    generalize (w.alloc (.cells #[.int .i64 R, .slice (some ⟨g1, 0, none⟩) n1 c1, .slice (some ⟨g2, 0, none⟩) n2 c2, .slice (some ⟨g3, 0, none⟩) n3 c3, .slice (some ⟨g4, 0, none⟩) n4 c4] 31)).alloc (.cells #[.int .i64 0, .slice none 0 0, .slice none 0 0, .slice none 0 0, .slice none 0 0] 31) = W0 at *
    obtain ⟨p0, p1, p2, p3, p4⟩ := box5 (HE.out.nth 0 rfl)
    go_wp2_with (first | (go_at_call 38; ((with_reducible refine (HOK.out _ HE.out.gr).mono ?_); rintro e w1 ⟨rfl, hg⟩; have HE1 := Lib.hid (HE.out.on hg); obtain ⟨z0, z1, z2, z3, z4⟩ := box5 (HE1.out.nth 0 rfl); clear hg)) | (go_at_call 39; ((with_reducible refine (HCP.out _ HE1.out.gr).mono ?_); rintro e w2 ⟨q1, d1, q2, d2, q3, d3, q4, d4, rfl, ho, hg⟩; have HE2 := Lib.hid (State.Held.state HE1.out hg ho); obtain ⟨r0, r1, r2, r3, r4⟩ := box5 (HE2.out.nth 1 rfl); obtain ⟨f0, f1, f2, f3, f4⟩ := free5 (HE2.out.nth 1 rfl); clear ho hg)))
    have he := HE2.out.put5 1 rfl (.int .i64 R) (.slice q1 n1 d1) (.slice q2 n2 d2) (.slice q3 n3 d3) (.slice q4 n4 d4)
    exact bodyPost_ret_by (results_cell_row (fn := Try.f18) rfl _ _ (w.heap.size + 1) _ _ (0, 0) _ rfl (he.nth 1 rfl) Try.underlying31 rfl (by kernel_rfl)) rfl ⟨q1, d1, q2, d2, q3, d3, q4, d4, rfl, Held.stateOwn he 2 rfl, he.gr⟩
  | true =>
    rw [hs] at HOK
    by_cases ht : t < 0
    · rw [tick_neg ht]
      have HCP := Lib.hid (show ∀ u, w.grownBy u none → Calls Try.prog 39 #[.agg #[.int .i64 R, .slice (some ⟨g1, 0, none⟩) n1 c1, .slice (some ⟨g2, 0, none⟩) n2 c2, .slice (some ⟨g3, 0, none⟩) n3 c3, .slice (some ⟨g4, 0, none⟩) n4 c4]] u (GivesS R n1 n2 n3 n4 xs ms ts bs u) from fun u hu => specStCopy_is R g1 g2 g3 g4 n1 n2 n3 n4 c1 c2 c3 c4 xs ms ts bs u (h.on hu) h1 h2 h3 h4)
      clear hs h h1 h2 h3 h4
      go_enter Try.func18, Try.ntmps18
      go_upto_region 1 with fail
      generalize (w.alloc (.cells #[.int .i64 R, .slice (some ⟨g1, 0, none⟩) n1 c1, .slice (some ⟨g2, 0, none⟩) n2 c2, .slice (some ⟨g3, 0, none⟩) n3 c3, .slice (some ⟨g4, 0, none⟩) n4 c4] 31)).alloc (.cells #[.int .i64 0, .slice none 0 0, .slice none 0 0, .slice none 0 0, .slice none 0 0] 31) = W0 at *
      obtain ⟨p0, p1, p2, p3, p4⟩ := box5 (HE.out.nth 0 rfl)
      go_wp2_with (first | (go_at_call 38; ((with_reducible refine (HOK.out _ HE.out.gr).mono ?_); rintro e w1 ⟨rfl, hg⟩; have HE1 := Lib.hid (HE.out.on hg); obtain ⟨z0, z1, z2, z3, z4⟩ := box5 (HE1.out.nth 0 rfl); clear hg)) | (go_at_call 39; ((with_reducible refine (HCP.out _ HE1.out.gr).mono ?_); rintro e w2 ⟨q1, d1, q2, d2, q3, d3, q4, d4, rfl, ho, hg⟩; have HE2 := Lib.hid (State.Held.state HE1.out hg ho); obtain ⟨r0, r1, r2, r3, r4⟩ := box5 (HE2.out.nth 1 rfl); obtain ⟨f0, f1, f2, f3, f4⟩ := free5 (HE2.out.nth 1 rfl); clear ho hg)))
      have he := HE2.out.put5 1 rfl (.int .i64 R) (.slice q1 n1 d1) (.slice q2 n2 d2) (.slice q3 n3 d3) (.slice q4 n4 d4)
      exact bodyPost_ret_by (results_cell_row (fn := Try.f18) rfl _ _ (w.heap.size + 1) _ _ (0, 0) _ rfl (he.nth 1 rfl) Try.underlying31 rfl (by kernel_rfl)) rfl ⟨q1, d1, q2, d2, q3, d3, q4, d4, rfl, Held.stateOwn he 2 rfl, he.gr⟩
    · rw [tick_ok (p := (ms, ts)) hs]
      have HSP := Lib.hid (show ∀ u, w.grownBy u none → Calls Try.prog 40 #[.agg #[.int .i64 R, .slice (some ⟨g1, 0, none⟩) n1 c1, .slice (some ⟨g2, 0, none⟩) n2 c2, .slice (some ⟨g3, 0, none⟩) n3 c3, .slice (some ⟨g4, 0, none⟩) n4 c4], .int .i64 t] u (GivesS R n1 n2 n3 n4 xs (stepM xs ms bs t) (stepT xs ms ts bs t) bs u) from fun u hu => specStep_is R t g1 g2 g3 g4 n1 n2 n3 n4 c1 c2 c3 c4 xs ms ts bs u (h.on hu) hs h1 h4)
      clear hs h h1 h2 h3 h4
      go_enter Try.func18, Try.ntmps18
      go_upto_region 1 with fail
      generalize (w.alloc (.cells #[.int .i64 R, .slice (some ⟨g1, 0, none⟩) n1 c1, .slice (some ⟨g2, 0, none⟩) n2 c2, .slice (some ⟨g3, 0, none⟩) n3 c3, .slice (some ⟨g4, 0, none⟩) n4 c4] 31)).alloc (.cells #[.int .i64 0, .slice none 0 0, .slice none 0 0, .slice none 0 0, .slice none 0 0] 31) = W0 at *
      obtain ⟨p0, p1, p2, p3, p4⟩ := box5 (HE.out.nth 0 rfl)
      go_wp2_with (first | (go_at_call 38; ((with_reducible refine (HOK.out _ HE.out.gr).mono ?_); rintro e w1 ⟨rfl, hg⟩; have HE1 := Lib.hid (HE.out.on hg); obtain ⟨z0, z1, z2, z3, z4⟩ := box5 (HE1.out.nth 0 rfl); clear hg)) | (go_at_call 40; ((with_reducible refine (HSP.out _ HE1.out.gr).mono ?_); rintro e w2 ⟨q1, d1, q2, d2, q3, d3, q4, d4, rfl, ho, hg⟩; have HE2 := Lib.hid (State.Held.state HE1.out hg ho); obtain ⟨r0, r1, r2, r3, r4⟩ := box5 (HE2.out.nth 1 rfl); obtain ⟨f0, f1, f2, f3, f4⟩ := free5 (HE2.out.nth 1 rfl); clear ho hg)))
      have he := HE2.out.put5 1 rfl (.int .i64 R) (.slice q1 n1 d1) (.slice q2 n2 d2) (.slice q3 n3 d3) (.slice q4 n4 d4)
      exact bodyPost_ret_by (results_cell_row (fn := Try.f18) rfl _ _ (w.heap.size + 1) _ _ (0, 0) _ rfl (he.nth 1 rfl) Try.underlying31 rfl (by kernel_rfl)) rfl ⟨q1, d1, q2, d2, q3, d3, q4, d4, rfl, Held.stateOwn he 2 rfl, he.gr⟩

set_option maxHeartbeats 16000000 in
theorem specMacroStep_is (R : Int) (g1 g2 g3 g4 n1 n2 n3 n4 c1 c2 c3 c4 : Nat) (xs : List C3) (ms ts bs : List Int) (w : World) (h : ReadsS w (some ⟨g1, 0, none⟩) (some ⟨g2, 0, none⟩) (some ⟨g3, 0, none⟩) (some ⟨g4, 0, none⟩) n1 n2 n3 n4 xs ms ts bs) (h1 : n1 ≤ 1048576) (h2 : n2 ≤ 1048576) (h3 : n3 ≤ 1048576) (h4 : n4 ≤ 1048576) :
    Calls Try.prog 12 #[.agg #[.int .i64 R, .slice (some ⟨g1, 0, none⟩) n1 c1, .slice (some ⟨g2, 0, none⟩) n2 c2, .slice (some ⟨g3, 0, none⟩) n3 c3, .slice (some ⟨g4, 0, none⟩) n4 c4]] w (GivesS R n1 n2 n3 n4 xs (ticks R xs bs (ms, ts) 0 16).1 (ticks R xs bs (ms, ts) 0 16).2 bs w) := by
  have HOK := Lib.hid (show ∀ u, w.grownBy u none → Calls Try.prog 38 #[.agg #[.int .i64 R, .slice (some ⟨g1, 0, none⟩) n1 c1, .slice (some ⟨g2, 0, none⟩) n2 c2, .slice (some ⟨g3, 0, none⟩) n3 c3, .slice (some ⟨g4, 0, none⟩) n4 c4]] u fun e w' => e = .returned (.bool (stOk R xs ms ts bs)) ∧ u.grownBy w' none from fun u hu => specStateOk_is R (some ⟨g1, 0, none⟩) (some ⟨g2, 0, none⟩) (some ⟨g3, 0, none⟩) (some ⟨g4, 0, none⟩) n1 n2 n3 n4 c1 c2 c3 c4 xs ms ts bs u (h.on hu) h1 h2 h3 h4)
  have HCP := Lib.hid (show ∀ u, w.grownBy u none → Calls Try.prog 39 #[.agg #[.int .i64 R, .slice (some ⟨g1, 0, none⟩) n1 c1, .slice (some ⟨g2, 0, none⟩) n2 c2, .slice (some ⟨g3, 0, none⟩) n3 c3, .slice (some ⟨g4, 0, none⟩) n4 c4]] u (GivesS R n1 n2 n3 n4 xs ms ts bs u) from fun u hu => specStCopy_is R g1 g2 g3 g4 n1 n2 n3 n4 c1 c2 c3 c4 xs ms ts bs u (h.on hu) h1 h2 h3 h4)
  have he := ((Held.nil w).box 31 #[.int .i64 R, .slice (some ⟨g1, 0, none⟩) n1 c1, .slice (some ⟨g2, 0, none⟩) n2 c2, .slice (some ⟨g3, 0, none⟩) n3 c3, .slice (some ⟨g4, 0, none⟩) n4 c4]).box 31 #[.int .i64 0, .slice none 0 0, .slice none 0 0, .slice none 0 0, .slice none 0 0]
  simp only [World.size_alloc] at he
  have HE := Lib.hid he
  clear he
  cases hs : stOk R xs ms ts bs with
  | false =>
    rw [hs] at HOK
    rw [ticks_bad (p := (ms, ts)) hs]
    clear hs h h1 h2 h3 h4
    go_enter Try.func12, Try.ntmps12
    go_upto_region 1 with fail
    generalize (w.alloc (.cells #[.int .i64 R, .slice (some ⟨g1, 0, none⟩) n1 c1, .slice (some ⟨g2, 0, none⟩) n2 c2, .slice (some ⟨g3, 0, none⟩) n3 c3, .slice (some ⟨g4, 0, none⟩) n4 c4] 31)).alloc (.cells #[.int .i64 0, .slice none 0 0, .slice none 0 0, .slice none 0 0, .slice none 0 0] 31) = W0 at *
    obtain ⟨p0, p1, p2, p3, p4⟩ := box5 (HE.out.nth 0 rfl)
    go_upto_region 2 with (go_at_call 39; ((with_reducible refine (HCP.out _ HE.out.gr).mono ?_); rintro e w2 ⟨q1, d1, q2, d2, q3, d3, q4, d4, rfl, ho, hg⟩; have HE2 := Lib.hid (State.Held.state HE.out hg ho); clear ho hg))
    have HE3 := Lib.hid (HE2.out.box 31 #[.int .i64 R, .slice q1 n1 d1, .slice q2 n2 d2, .slice q3 n3 d3, .slice q4 n4 d4])
    clear p0 p1 p2 p3 p4 HE HE2 HCP
    obtain ⟨B3, hB⟩ : ∃ B, B = w2.heap.size := ⟨_, rfl⟩
    rw [← hB] at HE3 ⊢
    clear hB
    generalize w2.alloc (.cells #[.int .i64 R, .slice q1 n1 d1, .slice q2 n2 d2, .slice q3 n3 d3, .slice q4 n4 d4] 31) = W3 at *
    go_wp2_with fail
    go_loopw [4] (fun i wr => i = .int .i64 0 ∧ wr = W3) (fun _ _ => 0)
    case atStart => exact ⟨rfl, rfl⟩
    case round =>
      obtain ⟨rfl, rfl⟩ := hrel
      obtain ⟨p0, p1, p2, p3, p4⟩ := box5 (HE3.out.nth 0 rfl)
      go_wp2_with (go_at_call 38; ((with_reducible refine (HOK.out _ HE3.out.gr).mono ?_); rintro e w5 ⟨rfl, hg⟩; have HE4 := Lib.hid (HE3.out.on hg); obtain ⟨y0, y1, y2, y3, y4⟩ := box5 (HE4.out.nth 3 rfl); obtain ⟨r0, r1, r2, r3, r4⟩ := box5 (HE4.out.nth 1 rfl); obtain ⟨f0, f1, f2, f3, f4⟩ := free5 (HE4.out.nth 1 rfl); clear hg))
      have he := HE4.out.put5 1 rfl (.int .i64 R) (.slice q1 n1 d1) (.slice q2 n2 d2) (.slice q3 n3 d3) (.slice q4 n4 d4)
      exact bodyPost_ret_by (results_cell_row (fn := Try.f12) rfl _ _ (w.heap.size + 1) _ _ (0, 0) _ rfl (he.nth 1 rfl) Try.underlying31 rfl (by kernel_rfl)) rfl ⟨q1, d1, q2, d2, q3, d3, q4, d4, rfl, Held.stateOwn he 2 rfl, he.gr⟩
  | true =>
    rw [hs] at HOK
    obtain ⟨-, -, m1, m1', m4, m4'⟩ := sizes_at h hs
    obtain ⟨m2, m3, -⟩ := sizes_at h hs
    have HSP := Lib.hid (show ∀ (k : Nat) u (b1 b2 b3 b4 d1 d2 d3 d4 : Nat), ReadsS u (some ⟨b1, 0, none⟩) (some ⟨b2, 0, none⟩) (some ⟨b3, 0, none⟩) (some ⟨b4, 0, none⟩) n1 n2 n3 n4 xs (ticks R xs bs (ms, ts) 0 k).1 (ticks R xs bs (ms, ts) 0 k).2 bs → Calls Try.prog 40 #[.agg #[.int .i64 R, .slice (some ⟨b1, 0, none⟩) n1 d1, .slice (some ⟨b2, 0, none⟩) n2 d2, .slice (some ⟨b3, 0, none⟩) n3 d3, .slice (some ⟨b4, 0, none⟩) n4 d4], .int .i64 (k : Int)] u (fun e w' => ∃ a1 c1 a2 c2 a3 c3 a4 c4 : Nat, e = .returned (.agg #[.int .i64 R, .slice (some ⟨a1, 0, none⟩) n1 c1, .slice (some ⟨a2, 0, none⟩) n2 c2, .slice (some ⟨a3, 0, none⟩) n3 c3, .slice (some ⟨a4, 0, none⟩) n4 c4]) ∧ OwnS w' u.heap.size (.slice (some ⟨a1, 0, none⟩) n1 c1) (.slice (some ⟨a2, 0, none⟩) n2 c2) (.slice (some ⟨a3, 0, none⟩) n3 c3) (.slice (some ⟨a4, 0, none⟩) n4 c4) n1 n2 n3 n4 xs (ticks R xs bs (ms, ts) 0 (k + 1)).1 (ticks R xs bs (ms, ts) 0 (k + 1)).2 bs ∧ u.grownBy w' none) from fun k u b1 b2 b3 b4 d1 d2 d3 d4 hu => by
      have hv : stOk R xs (ticks R xs bs (ms, ts) 0 k).1 (ticks R xs bs (ms, ts) 0 k).2 bs = true := (ticks_valid (p := (ms, ts)) 0 k).trans hs
      refine (specStep_is R k b1 b2 b3 b4 n1 n2 n3 n4 d1 d2 d3 d4 xs _ _ bs u hu hv h1 h4).mono ?_
      rintro e w' ⟨q1, e1, q2, e2, q3, e3, q4, e4, rfl, ho, hg⟩
      rw [ticks_succ0, tick_ok hv]
      obtain ⟨y1, y2, y3, y4, rfl, rfl, rfl, rfl⟩ := addrS ho (by omega) (by omega) (by omega) (by omega)
      exact ⟨y1, e1, y2, e2, y3, e3, y4, e4, rfl, ho, hg⟩)
    have HMS := Lib.hid (show (1 ≤ n1 ∧ 1 ≤ n2) ∧ (1 ≤ n3 ∧ 1 ≤ n4) by omega)
    clear hs h h1 h2 h3 h4 m1 m1' m4 m4' m2 m3
    go_enter Try.func12, Try.ntmps12
    go_upto_region 1 with fail
    generalize (w.alloc (.cells #[.int .i64 R, .slice (some ⟨g1, 0, none⟩) n1 c1, .slice (some ⟨g2, 0, none⟩) n2 c2, .slice (some ⟨g3, 0, none⟩) n3 c3, .slice (some ⟨g4, 0, none⟩) n4 c4] 31)).alloc (.cells #[.int .i64 0, .slice none 0 0, .slice none 0 0, .slice none 0 0, .slice none 0 0] 31) = W0 at *
    obtain ⟨p0, p1, p2, p3, p4⟩ := box5 (HE.out.nth 0 rfl)
    go_upto_region 2 with (go_at_call 39; ((with_reducible refine (HCP.out _ HE.out.gr).mono ?_); rintro e w2 ⟨q1, d1, q2, d2, q3, d3, q4, d4, rfl, ho, hg⟩; have HE2 := Lib.hid (State.Held.state HE.out hg ho); clear ho hg))
    obtain ⟨b1, b2, b3, b4, rfl, rfl, rfl, rfl⟩ := addrS (HE2.out.nth 2 rfl) HMS.out.1.1 HMS.out.1.2 HMS.out.2.1 HMS.out.2.2
    have HE3 := Lib.hid (HE2.out.box 31 #[.int .i64 R, .slice (some ⟨b1, 0, none⟩) n1 d1, .slice (some ⟨b2, 0, none⟩) n2 d2, .slice (some ⟨b3, 0, none⟩) n3 d3, .slice (some ⟨b4, 0, none⟩) n4 d4])
    clear p0 p1 p2 p3 p4 HE HE2 HCP
    obtain ⟨B3, hB⟩ : ∃ B, B = w2.heap.size := ⟨_, rfl⟩
    rw [← hB] at HE3 ⊢
    clear hB
    generalize w2.alloc (.cells #[.int .i64 R, .slice (some ⟨b1, 0, none⟩) n1 d1, .slice (some ⟨b2, 0, none⟩) n2 d2, .slice (some ⟨b3, 0, none⟩) n3 d3, .slice (some ⟨b4, 0, none⟩) n4 d4] 31) = W3 at *
    have HE4 := Lib.hid (State.Held.turnLast HE3.out)
    clear HE3
    go_wp2_with fail
    go_loopw [4] (fun i wr => ∃ k : Nat, (k : Int) ≤ 16 ∧ i = .int .i64 k ∧ Hid (∃ b1 d1 b2 d2 b3 d3 b4 d4 : Nat, Held w wr [boxG w.heap.size 31 #[.int .i64 R, .slice (some ⟨g1, 0, none⟩) n1 c1, .slice (some ⟨g2, 0, none⟩) n2 c2, .slice (some ⟨g3, 0, none⟩) n3 c3, .slice (some ⟨g4, 0, none⟩) n4 c4], boxG (w.heap.size + 1) 31 #[.int .i64 0, .slice none 0 0, .slice none 0 0, .slice none 0 0, .slice none 0 0], boxG B3 31 #[.int .i64 R, .slice (some ⟨b1, 0, none⟩) n1 d1, .slice (some ⟨b2, 0, none⟩) n2 d2, .slice (some ⟨b3, 0, none⟩) n3 d3, .slice (some ⟨b4, 0, none⟩) n4 d4], stateG (.slice (some ⟨b1, 0, none⟩) n1 d1) (.slice (some ⟨b2, 0, none⟩) n2 d2) (.slice (some ⟨b3, 0, none⟩) n3 d3) (.slice (some ⟨b4, 0, none⟩) n4 d4) n1 n2 n3 n4 xs (ticks R xs bs (ms, ts) 0 (k)).1 (ticks R xs bs (ms, ts) 0 (k)).2 bs])) (fun i _ => 16 - (intOf i).toNat)
    case atStart => exact ⟨0, by omega, rfl, Lib.hid ⟨b1, d1, b2, d2, b3, d3, b4, d4, HE4.out⟩⟩
    case round =>
      clear HE4
      obtain ⟨k, hk, rfl, HC⟩ := hrel
      obtain ⟨b1, d1, b2, d2, b3, d3, b4, d4, hh⟩ := HC.out
      have HF := Lib.hid hh
      clear hh HC
      obtain ⟨p0, p1, p2, p3, p4⟩ := box5 (HF.out.nth 0 rfl)
      by_cases hlt : (k : Int) < 16
      · go_wp2_with (first
          | (go_at_call 38; ((with_reducible refine (HOK.out _ HF.out.gr).mono ?_); rintro e w4 ⟨rfl, hg⟩; have HF1 := Lib.hid (HF.out.on hg); obtain ⟨x0, x1, x2, x3, x4⟩ := box5 (HF1.out.nth 2 rfl); clear hg))
          | (go_at_call 40; ((with_reducible refine (HSP.out k _ b1 b2 b3 b4 d1 d2 d3 d4 (OwnS.reads (HF1.out.nth 3 rfl))).mono ?_); rintro e w5 ⟨q1, e1, q2, e2, q3, e3, q4, e4, rfl, ho, hg⟩; have HF2 := Lib.hid (State.Held.state HF1.out hg ho); obtain ⟨y0, y1, y2, y3, y4⟩ := box5 (HF2.out.nth 2 rfl); obtain ⟨g0, g1', g2', g3', g4'⟩ := free5 (HF2.out.nth 2 rfl); clear ho hg)))
        go_roundw
        case rel =>
          have he := HF2.out.put5 2 rfl (.int .i64 R) (.slice (some ⟨q1, 0, none⟩) n1 e1) (.slice (some ⟨q2, 0, none⟩) n2 e2) (.slice (some ⟨q3, 0, none⟩) n3 e3) (.slice (some ⟨q4, 0, none⟩) n4 e4)
          exact ⟨k + 1, by omega, by go_num, Lib.hid ⟨q1, e1, q2, e2, q3, e3, q4, e4, (State.Held.some he (.cons_cons _ (.cons_cons _ (.cons_cons _ (.cons _ (.refl _))))))⟩⟩
        case measure => simp [intOf]; omega
      · obtain rfl : k = 16 := by omega
        obtain ⟨y0, y1, y2, y3, y4⟩ := box5 (HF.out.nth 2 rfl)
        obtain ⟨r0, r1, r2, r3, r4⟩ := box5 (HF.out.nth 1 rfl)
        obtain ⟨f0, f1, f2, f3, f4⟩ := free5 (HF.out.nth 1 rfl)
        go_wp2_with fail
        have he := HF.out.put5 1 rfl (.int .i64 R) (.slice (some ⟨b1, 0, none⟩) n1 d1) (.slice (some ⟨b2, 0, none⟩) n2 d2) (.slice (some ⟨b3, 0, none⟩) n3 d3) (.slice (some ⟨b4, 0, none⟩) n4 d4)
        exact bodyPost_ret_by (results_cell_row (fn := Try.f12) rfl _ _ (w.heap.size + 1) _ _ (0, 0) _ rfl (he.nth 1 rfl) Try.underlying31 rfl (by kernel_rfl)) rfl ⟨_, d1, _, d2, _, d3, _, d4, rfl, Held.stateOwn he 3 rfl, he.gr⟩

end Go.Proofs.Ytnelgnfahkljmaa.State
