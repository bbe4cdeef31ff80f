/- Criteria: the reference model's l16Jump, JumpAt, l16Wishes, Wishes, CountWishes, l16Cost, CostOf, SavedBy, as contracts: what each answers, in memory of the call's own; nothing that was there is written (written by wip/tools/stcris.py).
   Conditions: at most 2^20 leaves and numbers. -/
import Derived.Test.YtaccigmkddomaaaStCriP
import Derived.Test.YtaccigmkddomaaaStSrcI
import Derived.Test.YtaccigmkddomaaaStFluxS
import Derived.Test.YtaccigmkddomaaaMFaceSF
import Derived.Test.YtaccigmkddomaaaMNewS
set_option maxRecDepth 100000
namespace Go.Proofs.Ytaccigmkddomaaa.State
open Go.ChangeShapes Go.WideShapes Go.ChangeAt Go.RowKit Go.Joins Go.Proofs.Ytaccigmkddomaaa.Cell Go.Proofs.Ytaccigmkddomaaa.Mesh Go.Proofs.Ytaccigmkddomaaa.Law Go.Proofs.Ytaccigmkddomaaa.Ints Go.Deep
set_option linter.unusedVariables false

/-- The builtin max of two ints. -/
theorem run_max_twoS {P : Program} (w : World) (ts : Array TypeId) (t : TypeId) (k k' : IntKind) (x y : Int) :
    (Builtin.max_ ts t #[.int k x, .int k' y]).run P w = .ok (.int k (max x y)) w := by
  have e : ∀ a b : Int, (if b > a then b else a) = max a b := fun a b => by
    rw [Int.max_def]
    split <;> split <;> omega
  simp [Builtin.max_, Builtin.max2, e]
attribute [local go_sem high] run_max_twoS

set_option maxHeartbeats 16000000 in
/-- The jump at a leaf of a valid state. -/
theorem specJumpK (R : Int) (a1 a2 a3 a4 : Option Addr) (n2 n3 n4 c1 c2 c3 c4 : Nat) (xs : List C3) (ms ts bs : List Int) (k : Nat) (K : Int) (w : World) (h : ReadsS w a1 a2 a3 a4 n2 n2 n3 n4 xs ms ts bs) (h1 : n2 ≤ 1048576) (hs : stOk R xs ms ts bs = true) (hk : k < n2) (hK : (k : Int) = K) :
    Calls Try.prog 53 #[.agg #[.int .i64 R, .slice a1 n2 c1, .slice a2 n2 c2, .slice a3 n3 c3, .slice a4 n4 c4], .int .i64 K] w fun e w' => e = .returned (.int .i64 (jumpN xs ms bs k)) ∧ w.grownBy w' none := by
  have hl := h.l.len
  have hni : (n2 : Int) ≤ 1048576 := by omega
  have HE := Lib.hid ((Held.nil w).box 29 #[.int .i64 R, .slice a1 n2 c1, .slice a2 n2 c2, .slice a3 n3 c3, .slice a4 n4 c4])
  have HS0 := Lib.hid (show ∀ u, w.grownBy u none → Calls Try.prog 77 #[.agg #[.int .i64 R, .slice a1 n2 c1, .slice a2 n2 c2, .slice a3 n3 c3, .slice a4 n4 c4], .int .i64 K] u fun e w' => e = .returned (.int .i64 (surf xs ms bs k)) ∧ u.grownBy w' none from fun u hu => hK ▸ specSurf_is R a1 a2 a3 a4 n2 n2 n3 n4 c1 c2 c3 c4 k xs ms ts bs u (h.on hu) h1 hs hk)
  have K1 : (k : Int) ≤ K := by omega
  have K2 : K ≤ (k : Int) := by omega
  obtain ⟨G1, hG1⟩ : ∃ z, gapN (surf xs ms bs k) (surf xs ms bs (k - 1)) = z := ⟨_, rfl⟩
  obtain ⟨G2, hG2⟩ : ∃ z, gapN (surf xs ms bs k) (surf xs ms bs (k + 1)) = z := ⟨_, rfl⟩
  have g1p := gap_nonneg (surf xs ms bs k) (surf xs ms bs (k - 1))
  have g2p := gap_nonneg (surf xs ms bs k) (surf xs ms bs (k + 1))
  rw [hG1] at g1p
  rw [hG2] at g2p
  have HB := Lib.hid fun (k : Nat) (hk : k < n2) => (show 0 ≤ surf xs ms bs k ∧ surf xs ms bs k ≤ 161000000 from ⟨(leaf_bounds hs (k := k) (by omega)).1, (leaf_bounds hs (k := k) (by omega)).2.1⟩)
  have HG1 := Lib.hid hG1; have HG2 := Lib.hid hG2
  have e0 : IntKind.i64.wrap (K - 1) = K - 1 := IntWalk.i64_in _ (by omega)
  have e3 : IntKind.i64.wrap (K + 1) = K + 1 := IntWalk.i64_in _ (by omega)
  have gap := fun (b : Nat) (hb : b < n2) (G : Int) (hG : gapN (surf xs ms bs k) (surf xs ms bs b) = G) (u : World) => (show Calls Try.prog 76 #[.int .i64 (surf xs ms bs k), .int .i64 (surf xs ms bs b)] u fun e w' => e = .returned (.int .i64 G) ∧ w' = u from hG ▸ specGap_is _ _ (HB.out k hk).1 (HB.out k hk).2 (HB.out b hb).1 (HB.out b hb).2 u)
  by_cases hp : 0 < k
  · have HP1 := Lib.hid (gap (k - 1) (by omega) G1 hG1)
    have HS1 := Lib.hid (show ∀ u, w.grownBy u none → Calls Try.prog 77 #[.agg #[.int .i64 R, .slice a1 n2 c1, .slice a2 n2 c2, .slice a3 n3 c3, .slice a4 n4 c4], .int .i64 (K - 1)] u fun e w' => e = .returned (.int .i64 (surf xs ms bs (k - 1))) ∧ u.grownBy w' none from fun u hu => by
      have q := specSurf_is R a1 a2 a3 a4 n2 n2 n3 n4 c1 c2 c3 c4 (k - 1) xs ms ts bs u (h.on hu) h1 hs (by omega)
      rw [show (((k - 1 : Nat) : Int)) = K - 1 by omega] at q
      exact q)
    have hp' : 0 < K := by omega
    by_cases hq : k + 1 < n2
    · have HP2 := Lib.hid (gap (k + 1) hq G2 hG2)
      have HS2 := Lib.hid (show ∀ u, w.grownBy u none → Calls Try.prog 77 #[.agg #[.int .i64 R, .slice a1 n2 c1, .slice a2 n2 c2, .slice a3 n3 c3, .slice a4 n4 c4], .int .i64 (K + 1)] u fun e w' => e = .returned (.int .i64 (surf xs ms bs (k + 1))) ∧ u.grownBy w' none from fun u hu => by
        have q := specSurf_is R a1 a2 a3 a4 n2 n2 n3 n4 c1 c2 c3 c4 (k + 1) xs ms ts bs u (h.on hu) h1 hs (by omega)
        rw [show (((k + 1 : Nat) : Int)) = K + 1 by omega] at q
        exact q)
      have hq' : K + 1 < n2 := by omega
      clear h hs hK hG1 hG2 gap
      have HV := Lib.hid (show jumpN xs ms bs k = max G1 G2 by
        unfold jumpN
        rw [if_pos (by omega), if_pos (by omega)]
        rw [HG1.out, HG2.out])
      rw [HV.out]
      go_enter Try.func53, Try.ntmps53
      go_upto_region 1 with fail
      generalize w.alloc (.cells #[.int .i64 R, .slice a1 n2 c1, .slice a2 n2 c2, .slice a3 n3 c3, .slice a4 n4 c4] 29) = W0 at *
      obtain ⟨p0, p1, p2, p3, p4⟩ := box5 (HE.out.nth 0 rfl)
      have hgg : W0.grownBy W0 none := grown_refl _
      have hw0 : w.grownBy W0 none := HE.out.gr
      go_upto_region 3 with fail
      go_region_held3 (fun w' => w'.cell? ⟨w.heap.size, 0, none⟩ = some (.int .i64 R) ∧ w'.cell? ⟨w.heap.size, 1, none⟩ = some (.slice a1 n2 c1) ∧ w'.cell? ⟨w.heap.size, 2, none⟩ = some (.slice a2 n2 c2) ∧ w'.cell? ⟨w.heap.size, 3, none⟩ = some (.slice a3 n3 c3) ∧ w'.cell? ⟨w.heap.size, 4, none⟩ = some (.slice a4 n4 c4) ∧ w.grownBy w' none)
        ((go_split_ands; refine ⟨?_, ?_, ?_, ?_, ?_, ?_⟩ <;> first | assumption | exact hgc.cell (by assumption) (by simp) | exact Cell.grown_trans (by assumption) hgc | exact Mesh.gr_drew (by assumption)))
        (first
          | (go_at_call 77; (first
            | ((with_reducible refine (HS0.out _ (by first | assumption | exact Mesh.gr_drew (by assumption) | (go_split_ands; assumption))).mono ?_); rintro e w'' ⟨rfl, hgc⟩)
            | ((with_reducible refine (HS1.out _ (by first | assumption | exact Mesh.gr_drew (by assumption) | (go_split_ands; assumption))).mono ?_); rintro e w'' ⟨rfl, hgc⟩)))
          | (go_at_call 76; ((with_reducible refine (HP1.out _).mono ?_); rintro e w'' ⟨rfl, hw⟩; have hgc := grown_refl w''; subst hw)))
      go_split_ands
      go_upto_region 5 with fail
      go_region_held3 (fun w' => w'.cell? ⟨w.heap.size, 0, none⟩ = some (.int .i64 R) ∧ w'.cell? ⟨w.heap.size, 1, none⟩ = some (.slice a1 n2 c1) ∧ w'.cell? ⟨w.heap.size, 2, none⟩ = some (.slice a2 n2 c2) ∧ w'.cell? ⟨w.heap.size, 3, none⟩ = some (.slice a3 n3 c3) ∧ w'.cell? ⟨w.heap.size, 4, none⟩ = some (.slice a4 n4 c4) ∧ w.grownBy w' none)
        ((go_split_ands; refine ⟨?_, ?_, ?_, ?_, ?_, ?_⟩ <;> first | assumption | exact hgc.cell (by assumption) (by simp) | exact Cell.grown_trans (by assumption) hgc | exact Mesh.gr_drew (by assumption)))
        (first
          | (go_at_call 77; (first
            | ((with_reducible refine (HS0.out _ (by first | assumption | exact Mesh.gr_drew (by assumption) | (go_split_ands; assumption))).mono ?_); rintro e w'' ⟨rfl, hgc⟩)
            | ((with_reducible refine (HS2.out _ (by first | assumption | exact Mesh.gr_drew (by assumption) | (go_split_ands; assumption))).mono ?_); rintro e w'' ⟨rfl, hgc⟩)))
          | (go_at_call 76; ((with_reducible refine (HP2.out _).mono ?_); rintro e w'' ⟨rfl, hw⟩; have hgc := grown_refl w''; subst hw)))
      go_split_ands
      go_wp2_with fail
      go_ret
      exact ⟨by first | rfl | (exact congrArg (fun z => Ending.returned (.int .i64 z)) (by omega)), by assumption⟩
    · have hq' : ¬ K + 1 < n2 := by omega
      have hlx : ¬ k + 1 < xs.length := by omega
      clear h hs hK hG1 hG2 gap
      have HV := Lib.hid (show jumpN xs ms bs k = G1 by
        unfold jumpN
        rw [if_pos (by omega), if_neg (by omega)]
        rw [HG1.out]; omega)
      rw [HV.out]
      go_enter Try.func53, Try.ntmps53
      go_upto_region 1 with fail
      generalize w.alloc (.cells #[.int .i64 R, .slice a1 n2 c1, .slice a2 n2 c2, .slice a3 n3 c3, .slice a4 n4 c4] 29) = W0 at *
      obtain ⟨p0, p1, p2, p3, p4⟩ := box5 (HE.out.nth 0 rfl)
      have hgg : W0.grownBy W0 none := grown_refl _
      have hw0 : w.grownBy W0 none := HE.out.gr
      go_upto_region 3 with fail
      go_region_held3 (fun w' => w'.cell? ⟨w.heap.size, 0, none⟩ = some (.int .i64 R) ∧ w'.cell? ⟨w.heap.size, 1, none⟩ = some (.slice a1 n2 c1) ∧ w'.cell? ⟨w.heap.size, 2, none⟩ = some (.slice a2 n2 c2) ∧ w'.cell? ⟨w.heap.size, 3, none⟩ = some (.slice a3 n3 c3) ∧ w'.cell? ⟨w.heap.size, 4, none⟩ = some (.slice a4 n4 c4) ∧ w.grownBy w' none)
        ((go_split_ands; refine ⟨?_, ?_, ?_, ?_, ?_, ?_⟩ <;> first | assumption | exact hgc.cell (by assumption) (by simp) | exact Cell.grown_trans (by assumption) hgc | exact Mesh.gr_drew (by assumption)))
        (first
          | (go_at_call 77; (first
            | ((with_reducible refine (HS0.out _ (by first | assumption | exact Mesh.gr_drew (by assumption) | (go_split_ands; assumption))).mono ?_); rintro e w'' ⟨rfl, hgc⟩)
            | ((with_reducible refine (HS1.out _ (by first | assumption | exact Mesh.gr_drew (by assumption) | (go_split_ands; assumption))).mono ?_); rintro e w'' ⟨rfl, hgc⟩)))
          | (go_at_call 76; ((with_reducible refine (HP1.out _).mono ?_); rintro e w'' ⟨rfl, hw⟩; have hgc := grown_refl w''; subst hw)))
      go_split_ands
      go_wp2_with fail
      go_ret
      exact ⟨by first | rfl | (exact congrArg (fun z => Ending.returned (.int .i64 z)) (by omega)), by assumption⟩
  · have hp' : ¬ 0 < K := by omega
    by_cases hq : k + 1 < n2
    · have HP2 := Lib.hid (gap (k + 1) hq G2 hG2)
      have HS2 := Lib.hid (show ∀ u, w.grownBy u none → Calls Try.prog 77 #[.agg #[.int .i64 R, .slice a1 n2 c1, .slice a2 n2 c2, .slice a3 n3 c3, .slice a4 n4 c4], .int .i64 (K + 1)] u fun e w' => e = .returned (.int .i64 (surf xs ms bs (k + 1))) ∧ u.grownBy w' none from fun u hu => by
        have q := specSurf_is R a1 a2 a3 a4 n2 n2 n3 n4 c1 c2 c3 c4 (k + 1) xs ms ts bs u (h.on hu) h1 hs (by omega)
        rw [show (((k + 1 : Nat) : Int)) = K + 1 by omega] at q
        exact q)
      have hq' : K + 1 < n2 := by omega
      clear h hs hK hG1 hG2 gap
      have HV := Lib.hid (show jumpN xs ms bs k = G2 by
        unfold jumpN
        rw [if_neg (by omega), if_pos (by omega)]
        rw [HG2.out]; omega)
      rw [HV.out]
      go_enter Try.func53, Try.ntmps53
      go_upto_region 1 with fail
      generalize w.alloc (.cells #[.int .i64 R, .slice a1 n2 c1, .slice a2 n2 c2, .slice a3 n3 c3, .slice a4 n4 c4] 29) = W0 at *
      obtain ⟨p0, p1, p2, p3, p4⟩ := box5 (HE.out.nth 0 rfl)
      have hgg : W0.grownBy W0 none := grown_refl _
      have hw0 : w.grownBy W0 none := HE.out.gr
      go_upto_region 5 with fail
      go_region_held3 (fun w' => w'.cell? ⟨w.heap.size, 0, none⟩ = some (.int .i64 R) ∧ w'.cell? ⟨w.heap.size, 1, none⟩ = some (.slice a1 n2 c1) ∧ w'.cell? ⟨w.heap.size, 2, none⟩ = some (.slice a2 n2 c2) ∧ w'.cell? ⟨w.heap.size, 3, none⟩ = some (.slice a3 n3 c3) ∧ w'.cell? ⟨w.heap.size, 4, none⟩ = some (.slice a4 n4 c4) ∧ w.grownBy w' none)
        ((go_split_ands; refine ⟨?_, ?_, ?_, ?_, ?_, ?_⟩ <;> first | assumption | exact hgc.cell (by assumption) (by simp) | exact Cell.grown_trans (by assumption) hgc | exact Mesh.gr_drew (by assumption)))
        (first
          | (go_at_call 77; (first
            | ((with_reducible refine (HS0.out _ (by first | assumption | exact Mesh.gr_drew (by assumption) | (go_split_ands; assumption))).mono ?_); rintro e w'' ⟨rfl, hgc⟩)
            | ((with_reducible refine (HS2.out _ (by first | assumption | exact Mesh.gr_drew (by assumption) | (go_split_ands; assumption))).mono ?_); rintro e w'' ⟨rfl, hgc⟩)))
          | (go_at_call 76; ((with_reducible refine (HP2.out _).mono ?_); rintro e w'' ⟨rfl, hw⟩; have hgc := grown_refl w''; subst hw)))
      go_split_ands
      go_wp2_with fail
      go_ret
      exact ⟨by first | rfl | (exact congrArg (fun z => Ending.returned (.int .i64 z)) (by omega)), by assumption⟩
    · have hq' : ¬ K + 1 < n2 := by omega
      clear h hs hK hG1 hG2 gap
      have HV := Lib.hid (show jumpN xs ms bs k = 0 by
        unfold jumpN
        rw [if_neg (by omega), if_neg (by omega)]
        rfl)
      rw [HV.out]
      go_enter Try.func53, Try.ntmps53
      go_upto_region 1 with fail
      generalize w.alloc (.cells #[.int .i64 R, .slice a1 n2 c1, .slice a2 n2 c2, .slice a3 n3 c3, .slice a4 n4 c4] 29) = W0 at *
      obtain ⟨p0, p1, p2, p3, p4⟩ := box5 (HE.out.nth 0 rfl)
      have hgg : W0.grownBy W0 none := grown_refl _
      have hw0 : w.grownBy W0 none := HE.out.gr
      go_wp2_with fail
      go_ret
      exact ⟨by first | rfl | (exact congrArg (fun z => Ending.returned (.int .i64 z)) (by omega)), by assumption⟩

theorem specJump_is (R : Int) (a1 a2 a3 a4 : Option Addr) (n1 n2 n3 n4 c1 c2 c3 c4 : Nat) (xs : List C3) (ms ts bs : List Int) (k : Nat) (w : World) (h : ReadsS w a1 a2 a3 a4 n1 n2 n3 n4 xs ms ts bs) (h1 : n1 ≤ 1048576) (hs : stOk R xs ms ts bs = true) (hk : k < n1) :
    Calls Try.prog 53 #[.agg #[.int .i64 R, .slice a1 n1 c1, .slice a2 n2 c2, .slice a3 n3 c3, .slice a4 n4 c4], .int .i64 k] w fun e w' => e = .returned (.int .i64 (jumpN xs ms bs k)) ∧ w.grownBy w' none := by
  obtain ⟨-, ⟨p2, p3, p4⟩, -⟩ := stOk_parts hs
  have hl := h.l.len
  have hn2 : n2 = n1 := by rw [← h.m.len, p2, h.l.len]
  subst hn2
  exact specJumpK R a1 a2 a3 a4 n2 n3 n4 c1 c2 c3 c4 xs ms ts bs k (k : Int) w h h1 hs hk rfl

set_option maxHeartbeats 4000000 in
theorem specJumpAt_is (R : Int) (a1 a2 a3 a4 : Option Addr) (n1 n2 n3 n4 c1 c2 c3 c4 : Nat) (xs : List C3) (ms ts bs : List Int) (i : Int) (w : World) (h : ReadsS w a1 a2 a3 a4 n1 n2 n3 n4 xs ms ts bs) (h1 : n1 ≤ 1048576) (h2 : n2 ≤ 1048576) (h3 : n3 ≤ 1048576) (h4 : n4 ≤ 1048576) (hi : -9223372036854775808 ≤ i ∧ i ≤ 9223372036854775807) :
    Calls Try.prog 22 #[.agg #[.int .i64 R, .slice a1 n1 c1, .slice a2 n2 c2, .slice a3 n3 c3, .slice a4 n4 c4], .int .i64 i] w fun e w' => e = .returned (.int .i64 (jumpG R xs ms ts bs i)) ∧ w.grownBy w' none := by
  have HOK := Lib.hid (show ∀ u, w.grownBy u none → Calls Try.prog 52 #[.agg #[.int .i64 R, .slice a1 n1 c1, .slice a2 n2 c2, .slice a3 n3 c3, .slice a4 n4 c4]] u fun e w' => e = .returned (.bool (stOk R xs ms ts bs)) ∧ u.grownBy w' none from fun u hu => specStateOk_is R a1 a2 a3 a4 n1 n2 n3 n4 c1 c2 c3 c4 xs ms ts bs u (h.on hu) h1 h2 h3 h4)
  have HC := Lib.hid (show ∀ k : Nat, stOk R xs ms ts bs = true → k < n1 → ∀ u, w.grownBy u none → Calls Try.prog 53 #[.agg #[.int .i64 R, .slice a1 n1 c1, .slice a2 n2 c2, .slice a3 n3 c3, .slice a4 n4 c4], .int .i64 k] u fun e w' => e = .returned (.int .i64 (jumpN xs ms bs k)) ∧ u.grownBy w' none from fun k hs hk u hu => specJump_is R a1 a2 a3 a4 n1 n2 n3 n4 c1 c2 c3 c4 xs ms ts bs k u (h.on hu) h1 hs hk)
  have hl := h.l.len; have hm := h.m.len
  have hni : (n2 : Int) ≤ 1048576 := by omega
  have HE := Lib.hid ((Held.nil w).box 29 #[.int .i64 R, .slice a1 n1 c1, .slice a2 n2 c2, .slice a3 n3 c3, .slice a4 n4 c4])
  clear h h1 h2 h3 h4
  unfold jumpG
  cases hs : stOk R xs ms ts bs with
  | false =>
    rw [if_neg (fun hh => nomatch hh.1)]
    rw [hs] at HOK
    clear hs HC hl hm
    go_enter Try.func22, Try.ntmps22
    go_upto_region 1 with fail
    generalize w.alloc (.cells #[.int .i64 R, .slice a1 n1 c1, .slice a2 n2 c2, .slice a3 n3 c3, .slice a4 n4 c4] 29) = W0 at *
    obtain ⟨p0, p1, p2, p3, p4⟩ := box5 (HE.out.nth 0 rfl)
    go_wp2_with (go_at_call 52; ((with_reducible refine (HOK.out _ HE.out.gr).mono ?_); rintro e w1 ⟨rfl, hg⟩; have HE1 := Lib.hid (HE.out.on hg); clear hg))
    go_ret
    exact ⟨rfl, HE1.out.gr⟩
  | true =>
    rw [hs] at HOK
    have HC2 := Lib.hid fun k => HC.out k hs
    have hn : n2 = n1 := by rw [← hm, (stOk_parts hs).2.1.1, hl]
    rw [hm]
    clear hs HC hl hm
    subst hn
    by_cases hr : 0 ≤ i ∧ i < (n2 : Int)
    · rw [if_pos ⟨rfl, hr.1, hr.2⟩]
      have hd : decide (0 ≤ i ∧ i ≤ (n2 : Int) - 1) = true := decide_eq_true (by omega)
      have HIN := Lib.hid fun u => Cell.in_is i 0 ((n2 : Int) - 1) true hd u
      clear hd
      obtain ⟨k, rfl⟩ := Int.eq_ofNat_of_zero_le hr.1
      have HC3 := Lib.hid (HC2.out k (by omega))
      clear HC2
      rw [Int.toNat_natCast]
      generalize jumpN xs ms bs k = v at *
      go_enter Try.func22, Try.ntmps22
      go_upto_region 1 with fail
      generalize w.alloc (.cells #[.int .i64 R, .slice a1 n2 c1, .slice a2 n2 c2, .slice a3 n3 c3, .slice a4 n4 c4] 29) = W0 at *
      obtain ⟨p0, p1, p2, p3, p4⟩ := box5 (HE.out.nth 0 rfl)
      go_wp2_with (first
        | (go_at_call 52; ((with_reducible refine (HOK.out _ HE.out.gr).mono ?_); rintro e w1 ⟨rfl, hg⟩; have HE1 := Lib.hid (HE.out.on hg); obtain ⟨q0, q1, q2, q3, q4⟩ := box5 (HE1.out.nth 0 rfl); clear hg))
        | (go_at_call 44; ((with_reducible refine (HIN.out _).mono ?_); rintro e w2 ⟨rfl, rfl⟩))
        | (go_at_call 53; ((with_reducible refine (HC3.out _ HE1.out.gr).mono ?_); rintro e w3 ⟨rfl, hg⟩; have HE2 := Lib.hid (HE1.out.on hg); clear hg)))
      go_ret
      exact ⟨rfl, HE2.out.gr⟩
    · rw [if_neg (fun hh => hr ⟨hh.2.1, hh.2.2⟩)]
      have hd : decide (0 ≤ i ∧ i ≤ (n2 : Int) - 1) = false := decide_eq_false (by omega)
      have HIN := Lib.hid fun u => Cell.in_is i 0 ((n2 : Int) - 1) false hd u
      clear hd
      clear HC2
      go_enter Try.func22, Try.ntmps22
      go_upto_region 1 with fail
      generalize w.alloc (.cells #[.int .i64 R, .slice a1 n2 c1, .slice a2 n2 c2, .slice a3 n3 c3, .slice a4 n4 c4] 29) = W0 at *
      obtain ⟨p0, p1, p2, p3, p4⟩ := box5 (HE.out.nth 0 rfl)
      go_wp2_with (first | (go_at_call 52; ((with_reducible refine (HOK.out _ HE.out.gr).mono ?_); rintro e w1 ⟨rfl, hg⟩; have HE1 := Lib.hid (HE.out.on hg); obtain ⟨q0, q1, q2, q3, q4⟩ := box5 (HE1.out.nth 0 rfl); clear hg)) | (go_at_call 44; ((with_reducible refine (HIN.out _).mono ?_); rintro e w2 ⟨rfl, rfl⟩)))
      go_ret
      exact ⟨rfl, HE1.out.gr⟩

set_option maxHeartbeats 16000000 in
theorem specWishesV_is (R : Int) (a1 a2 a3 a4 : Option Addr) (n1 n2 n3 n4 c1 c2 c3 c4 : Nat) (xs : List C3) (ms ts bs : List Int) (hi lo : Int) (w : World) (h : ReadsS w a1 a2 a3 a4 n1 n2 n3 n4 xs ms ts bs) (h1 : n1 ≤ 1048576) (hs : stOk R xs ms ts bs = true) :
    Calls Try.prog 54 #[.agg #[.int .i64 R, .slice a1 n1 c1, .slice a2 n2 c2, .slice a3 n3 c3, .slice a4 n4 c4], .int .i64 hi, .int .i64 lo] w (GivesI (wishes xs ms bs hi lo ms.length) w) := by
  obtain ⟨-, ⟨p2, p3, p4⟩, -⟩ := stOk_parts hs
  have hl := h.l.len; have hm := h.m.len
  have hn2 : n2 = n1 := by rw [← h.m.len, p2, h.l.len]
  subst hn2
  have HE := Lib.hid ((Held.nil w).box 29 #[.int .i64 R, .slice a1 n2 c1, .slice a2 n2 c2, .slice a3 n3 c3, .slice a4 n4 c4])
  have HC := Lib.hid fun (k : Nat) (hk : k < n2) (u : World) (hu : w.grownBy u none) => specJump_is R a1 a2 a3 a4 n2 n2 n3 n4 c1 c2 c3 c4 xs ms ts bs k u (h.on hu) h1 hs hk
  have HRL := Lib.hid h.l
  have hni : (n2 : Int) ≤ 1048576 := by omega
  have HEM := Lib.hid fun (W : World) => own_emptyI W W.heap.size (Nat.le_refl _)
  obtain ⟨i0, hi0, hz0, hz1, hz2⟩ := info_parts infoInt
  have HWW := Lib.hid (show wishes xs ms bs hi lo ms.length = gen n2 (wishAt xs ms bs hi lo) by rw [hm]; rfl)
  clear h hs p2 p3 p4 hl hm h1
  go_enter Try.func54, Try.ntmps54
  go_upto_region 1 with fail
  generalize w.alloc (.cells #[.int .i64 R, .slice a1 n2 c1, .slice a2 n2 c2, .slice a3 n3 c3, .slice a4 n4 c4] 29) = W0 at *
  obtain ⟨p0, p1, p2, p3, p4⟩ := box5 (HE.out.nth 0 rfl)
  clear p0 p1 p2 p3 p4
  go_upto_region 2 with fail
  have HE2 := Lib.hid (HE.out.row (World.grownBy_alloc W0 (.cells #[] 3) none) (HEM.out W0))
  obtain ⟨B, hB⟩ : ∃ B, B = W0.heap.size := ⟨_, rfl⟩
  rw [← hB] at HE2 ⊢
  clear hB HE HEM
  generalize W0.alloc (.cells #[] 3) = W2 at *
  go_wp2_with fail
  go_loopw [7, 8] (fun v i wr => ∃ (k : Nat) (q : Option Addr) (d : Nat), (k : Int) ≤ n2 ∧ i = .int .i64 k ∧ v = .slice q k d ∧ Hid (Held w wr [boxG w.heap.size 29 #[.int .i64 R, .slice a1 n2 c1, .slice a2 n2 c2, .slice a3 n3 c3, .slice a4 n4 c4], rowG 3 1 (.slice q k d) k (vals (gen k (wishAt xs ms bs hi lo)))])) (fun _ i _ => n2 - (intOf i).toNat)
  case atStart => exact ⟨0, _, _, by omega, rfl, rfl, HE2⟩
  case round =>
    clear HE2
    obtain ⟨k, q, d, hk, rfl, rfl, HF⟩ := hrel
    obtain ⟨p0, p1, p2, p3, p4⟩ := box5 (HF.out.nth 0 rfl)
    by_cases hlt : (k : Int) < n2
    · have HK := Lib.hid (show k < n2 by omega)
      have HD := Lib.hid (HC.out k HK.out)
      obtain ⟨r, l, i, hx⟩ := get_of_lt HRL.out.len (k := k) HK.out
      obtain ⟨g1, rfl, -, -, -, -⟩ := (HRL.out.on HF.out.gr).at_ k _ hx
      have HCL := Lib.hid (show ∀ u, w.grownBy u none → u.cell? ⟨g1, k * 3 + 1, none⟩ = some (.int .i64 l) from fun u hu => by
        obtain ⟨g1', e, -, -, hc, -⟩ := (HRL.out.on hu).at_ k _ hx
        cases e; exact hc)
      have HL := Lib.hid (show lvAt xs k = l by simp [lvAt, hx])
      clear hx
      obtain ⟨j, hj⟩ : ∃ j, jumpN xs ms bs k = j := ⟨_, rfl⟩
      have HJ := Lib.hid hj
      rw [hj] at HD
      clear hj
      by_cases d1' : hi < j
      · by_cases d2' : l < 4
        · have hA := d1'
          have hB := d2'
          have HV := Lib.hid (show wishAt xs ms bs hi lo k = 1 by unfold wishAt; rw [HJ.out, HL.out]; rw [if_pos ⟨hA, hB⟩])
          have HT := Lib.hid (show vals (gen k (wishAt xs ms bs hi lo)) ++ [Value.int .i64 (1)] = vals (gen (k + 1) (wishAt xs ms bs hi lo)) by rw [gen_succ, HV.out]; simp [vals])
          go_wp2_with (first
            | (go_at_call 53; ((with_reducible refine (HD.out _ HF.out.gr).mono ?_); rintro e w4 ⟨rfl, hg⟩; have HF2 := Lib.hid (HF.out.on hg); obtain ⟨q0, q1, q2, q3, q4⟩ := box5 (HF2.out.nth 0 rfl); have d1 := HCL.out _ HF2.out.gr; clear hg))
            | (at_builtin; refine wpList_append_own_at _ rfl _ _ 27 rfl 0 3 i0 (.int .i64 0) 1 8 Try.underlying27 hi0 hz0 hz1 hz2 rfl (by decide) _ k (vals (gen k (wishAt xs ms bs hi lo))) rfl (own_on (HF2.out.nth 1 rfl) (World.grownBy_alloc _ _ none)) ⟨_, 0, none⟩ 1 1 [.int .i64 (1)] rfl rfl (cell_one_new _ _ _) (fun x hx => by simp at hx; subst hx; rfl) (by have := HK.out; unfold maxLen; omega) (by have := HK.out; omega) (Nat.zero_le _) ?_; intro v' w6 hown hg _ hat; rw [HT.out] at hown; obtain ⟨q', d', rfl⟩ := own_shapeAny hown; have HE6 := Lib.hid ((HF2.out.on (World.grownBy_alloc _ _ none)).appended 1 rfl hown hg hat); clear hown hg hat))
          exact ⟨⟨k + 1, q', d', by omega, by go_num, rfl, HE6⟩, by simp [intOf]; omega⟩
        · by_cases d3 : j < lo
          · have d4 : 0 < l := by omega
            have HV := Lib.hid (show wishAt xs ms bs hi lo k = -1 by unfold wishAt; rw [HJ.out, HL.out]; rw [if_neg (by omega), if_pos ⟨by omega, by omega⟩])
            have HT := Lib.hid (show vals (gen k (wishAt xs ms bs hi lo)) ++ [Value.int .i64 (-1)] = vals (gen (k + 1) (wishAt xs ms bs hi lo)) by rw [gen_succ, HV.out]; simp [vals])
            go_wp2_with (first
              | (go_at_call 53; ((with_reducible refine (HD.out _ HF.out.gr).mono ?_); rintro e w4 ⟨rfl, hg⟩; have HF2 := Lib.hid (HF.out.on hg); obtain ⟨q0, q1, q2, q3, q4⟩ := box5 (HF2.out.nth 0 rfl); have d1 := HCL.out _ HF2.out.gr; clear hg))
              | (at_builtin; refine wpList_append_own_at _ rfl _ _ 27 rfl 0 3 i0 (.int .i64 0) 1 8 Try.underlying27 hi0 hz0 hz1 hz2 rfl (by decide) _ k (vals (gen k (wishAt xs ms bs hi lo))) rfl (own_on (HF2.out.nth 1 rfl) (World.grownBy_alloc _ _ none)) ⟨_, 0, none⟩ 1 1 [.int .i64 (-1)] rfl rfl (cell_one_new _ _ _) (fun x hx => by simp at hx; subst hx; rfl) (by have := HK.out; unfold maxLen; omega) (by have := HK.out; omega) (Nat.zero_le _) ?_; intro v' w6 hown hg _ hat; rw [HT.out] at hown; obtain ⟨q', d', rfl⟩ := own_shapeAny hown; have HE6 := Lib.hid ((HF2.out.on (World.grownBy_alloc _ _ none)).appended 1 rfl hown hg hat); clear hown hg hat))
            exact ⟨⟨k + 1, q', d', by omega, by go_num, rfl, HE6⟩, by simp [intOf]; omega⟩
          · have d4 : 0 < l := by omega
            have HV := Lib.hid (show wishAt xs ms bs hi lo k = 0 by unfold wishAt; rw [HJ.out, HL.out]; rw [if_neg (by omega), if_neg (by omega)])
            have HT := Lib.hid (show vals (gen k (wishAt xs ms bs hi lo)) ++ [Value.int .i64 (0)] = vals (gen (k + 1) (wishAt xs ms bs hi lo)) by rw [gen_succ, HV.out]; simp [vals])
            go_wp2_with (first
              | (go_at_call 53; ((with_reducible refine (HD.out _ HF.out.gr).mono ?_); rintro e w4 ⟨rfl, hg⟩; have HF2 := Lib.hid (HF.out.on hg); obtain ⟨q0, q1, q2, q3, q4⟩ := box5 (HF2.out.nth 0 rfl); have d1 := HCL.out _ HF2.out.gr; clear hg))
              | (at_builtin; refine wpList_append_own_at _ rfl _ _ 27 rfl 0 3 i0 (.int .i64 0) 1 8 Try.underlying27 hi0 hz0 hz1 hz2 rfl (by decide) _ k (vals (gen k (wishAt xs ms bs hi lo))) rfl (own_on (HF2.out.nth 1 rfl) (World.grownBy_alloc _ _ none)) ⟨_, 0, none⟩ 1 1 [.int .i64 (0)] rfl rfl (cell_one_new _ _ _) (fun x hx => by simp at hx; subst hx; rfl) (by have := HK.out; unfold maxLen; omega) (by have := HK.out; omega) (Nat.zero_le _) ?_; intro v' w6 hown hg _ hat; rw [HT.out] at hown; obtain ⟨q', d', rfl⟩ := own_shapeAny hown; have HE6 := Lib.hid ((HF2.out.on (World.grownBy_alloc _ _ none)).appended 1 rfl hown hg hat); clear hown hg hat))
            exact ⟨⟨k + 1, q', d', by omega, by go_num, rfl, HE6⟩, by simp [intOf]; omega⟩
      · by_cases d3 : j < lo
        · by_cases d4 : 0 < l
          · have d5 := d4
            have HV := Lib.hid (show wishAt xs ms bs hi lo k = -1 by unfold wishAt; rw [HJ.out, HL.out]; rw [if_neg (by omega), if_pos ⟨by omega, by omega⟩])
            have HT := Lib.hid (show vals (gen k (wishAt xs ms bs hi lo)) ++ [Value.int .i64 (-1)] = vals (gen (k + 1) (wishAt xs ms bs hi lo)) by rw [gen_succ, HV.out]; simp [vals])
            go_wp2_with (first
              | (go_at_call 53; ((with_reducible refine (HD.out _ HF.out.gr).mono ?_); rintro e w4 ⟨rfl, hg⟩; have HF2 := Lib.hid (HF.out.on hg); obtain ⟨q0, q1, q2, q3, q4⟩ := box5 (HF2.out.nth 0 rfl); have d1 := HCL.out _ HF2.out.gr; clear hg))
              | (at_builtin; refine wpList_append_own_at _ rfl _ _ 27 rfl 0 3 i0 (.int .i64 0) 1 8 Try.underlying27 hi0 hz0 hz1 hz2 rfl (by decide) _ k (vals (gen k (wishAt xs ms bs hi lo))) rfl (own_on (HF2.out.nth 1 rfl) (World.grownBy_alloc _ _ none)) ⟨_, 0, none⟩ 1 1 [.int .i64 (-1)] rfl rfl (cell_one_new _ _ _) (fun x hx => by simp at hx; subst hx; rfl) (by have := HK.out; unfold maxLen; omega) (by have := HK.out; omega) (Nat.zero_le _) ?_; intro v' w6 hown hg _ hat; rw [HT.out] at hown; obtain ⟨q', d', rfl⟩ := own_shapeAny hown; have HE6 := Lib.hid ((HF2.out.on (World.grownBy_alloc _ _ none)).appended 1 rfl hown hg hat); clear hown hg hat))
            exact ⟨⟨k + 1, q', d', by omega, by go_num, rfl, HE6⟩, by simp [intOf]; omega⟩
          · have d5 := d4
            have HV := Lib.hid (show wishAt xs ms bs hi lo k = 0 by unfold wishAt; rw [HJ.out, HL.out]; rw [if_neg (by omega), if_neg (by omega)])
            have HT := Lib.hid (show vals (gen k (wishAt xs ms bs hi lo)) ++ [Value.int .i64 (0)] = vals (gen (k + 1) (wishAt xs ms bs hi lo)) by rw [gen_succ, HV.out]; simp [vals])
            go_wp2_with (first
              | (go_at_call 53; ((with_reducible refine (HD.out _ HF.out.gr).mono ?_); rintro e w4 ⟨rfl, hg⟩; have HF2 := Lib.hid (HF.out.on hg); obtain ⟨q0, q1, q2, q3, q4⟩ := box5 (HF2.out.nth 0 rfl); have d1 := HCL.out _ HF2.out.gr; clear hg))
              | (at_builtin; refine wpList_append_own_at _ rfl _ _ 27 rfl 0 3 i0 (.int .i64 0) 1 8 Try.underlying27 hi0 hz0 hz1 hz2 rfl (by decide) _ k (vals (gen k (wishAt xs ms bs hi lo))) rfl (own_on (HF2.out.nth 1 rfl) (World.grownBy_alloc _ _ none)) ⟨_, 0, none⟩ 1 1 [.int .i64 (0)] rfl rfl (cell_one_new _ _ _) (fun x hx => by simp at hx; subst hx; rfl) (by have := HK.out; unfold maxLen; omega) (by have := HK.out; omega) (Nat.zero_le _) ?_; intro v' w6 hown hg _ hat; rw [HT.out] at hown; obtain ⟨q', d', rfl⟩ := own_shapeAny hown; have HE6 := Lib.hid ((HF2.out.on (World.grownBy_alloc _ _ none)).appended 1 rfl hown hg hat); clear hown hg hat))
            exact ⟨⟨k + 1, q', d', by omega, by go_num, rfl, HE6⟩, by simp [intOf]; omega⟩
        · have d5 := d3
          have HV := Lib.hid (show wishAt xs ms bs hi lo k = 0 by unfold wishAt; rw [HJ.out, HL.out]; rw [if_neg (by omega), if_neg (by omega)])
          have HT := Lib.hid (show vals (gen k (wishAt xs ms bs hi lo)) ++ [Value.int .i64 (0)] = vals (gen (k + 1) (wishAt xs ms bs hi lo)) by rw [gen_succ, HV.out]; simp [vals])
          go_wp2_with (first
            | (go_at_call 53; ((with_reducible refine (HD.out _ HF.out.gr).mono ?_); rintro e w4 ⟨rfl, hg⟩; have HF2 := Lib.hid (HF.out.on hg); obtain ⟨q0, q1, q2, q3, q4⟩ := box5 (HF2.out.nth 0 rfl); have d1 := HCL.out _ HF2.out.gr; clear hg))
            | (at_builtin; refine wpList_append_own_at _ rfl _ _ 27 rfl 0 3 i0 (.int .i64 0) 1 8 Try.underlying27 hi0 hz0 hz1 hz2 rfl (by decide) _ k (vals (gen k (wishAt xs ms bs hi lo))) rfl (own_on (HF2.out.nth 1 rfl) (World.grownBy_alloc _ _ none)) ⟨_, 0, none⟩ 1 1 [.int .i64 (0)] rfl rfl (cell_one_new _ _ _) (fun x hx => by simp at hx; subst hx; rfl) (by have := HK.out; unfold maxLen; omega) (by have := HK.out; omega) (Nat.zero_le _) ?_; intro v' w6 hown hg _ hat; rw [HT.out] at hown; obtain ⟨q', d', rfl⟩ := own_shapeAny hown; have HE6 := Lib.hid ((HF2.out.on (World.grownBy_alloc _ _ none)).appended 1 rfl hown hg hat); clear hown hg hat))
          exact ⟨⟨k + 1, q', d', by omega, by go_num, rfl, HE6⟩, by simp [intOf]; omega⟩
    · obtain rfl : n2 = k := by omega
      go_wp2_with fail
      go_ret
      have hr := HF.out.own 1 rfl
      have hlen : (gen n2 (wishAt xs ms bs hi lo)).length = n2 := gen_len _ _
      rw [HWW.out]
      refine ⟨q, d, ?_, ?_, HF.out.gr⟩
      · rw [hlen]; rfl
      · rw [hlen]; exact hr

set_option maxHeartbeats 8000000 in
theorem specWishes_is (R : Int) (a1 a2 a3 a4 : Option Addr) (n1 n2 n3 n4 c1 c2 c3 c4 : Nat) (xs : List C3) (ms ts bs : List Int) (hi lo : Int) (w : World) (h : ReadsS w a1 a2 a3 a4 n1 n2 n3 n4 xs ms ts bs) (h1 : n1 ≤ 1048576) (h2 : n2 ≤ 1048576) (h3 : n3 ≤ 1048576) (h4 : n4 ≤ 1048576) :
    Calls Try.prog 25 #[.agg #[.int .i64 R, .slice a1 n1 c1, .slice a2 n2 c2, .slice a3 n3 c3, .slice a4 n4 c4], .int .i64 hi, .int .i64 lo] w (GivesI (wishG R xs ms ts bs hi lo) w) := by
  have HOK := Lib.hid (show ∀ u, w.grownBy u none → Calls Try.prog 52 #[.agg #[.int .i64 R, .slice a1 n1 c1, .slice a2 n2 c2, .slice a3 n3 c3, .slice a4 n4 c4]] u fun e w' => e = .returned (.bool (stOk R xs ms ts bs)) ∧ u.grownBy w' none from fun u hu => specStateOk_is R a1 a2 a3 a4 n1 n2 n3 n4 c1 c2 c3 c4 xs ms ts bs u (h.on hu) h1 h2 h3 h4)
  have HE := Lib.hid ((Held.nil w).box 29 #[.int .i64 R, .slice a1 n1 c1, .slice a2 n2 c2, .slice a3 n3 c3, .slice a4 n4 c4])
  have HEM := Lib.hid fun (W : World) => own_emptyI W W.heap.size (Nat.le_refl _)
  unfold wishG
  cases hs : stOk R xs ms ts bs with
  | false =>
    rw [hs] at HOK
    clear hs h h1 h2 h3 h4
    go_enter Try.func25, Try.ntmps25
    go_upto_region 1 with fail
    generalize w.alloc (.cells #[.int .i64 R, .slice a1 n1 c1, .slice a2 n2 c2, .slice a3 n3 c3, .slice a4 n4 c4] 29) = W0 at *
    obtain ⟨p0, p1, p2, p3, p4⟩ := box5 (HE.out.nth 0 rfl)
    go_wp2_with (go_at_call 52; ((with_reducible refine (HOK.out _ HE.out.gr).mono ?_); rintro e w1 ⟨rfl, hg⟩; have HE1 := Lib.hid (HE.out.on hg); clear hg))
    go_ret
    have HE2 := HE1.out.row (World.grownBy_alloc w1 (.cells #[] 3) none) (HEM.out w1)
    exact ⟨_, _, rfl, HE2.own 1 rfl, HE2.gr⟩
  | true =>
    rw [hs] at HOK
    rw [if_pos rfl]
    have HC := Lib.hid fun (u : World) (hu : w.grownBy u none) => specWishesV_is R a1 a2 a3 a4 n1 n2 n3 n4 c1 c2 c3 c4 xs ms ts bs hi lo u (h.on hu) h1 hs
    clear hs h h1 h2 h3 h4
    go_enter Try.func25, Try.ntmps25
    go_upto_region 1 with fail
    generalize w.alloc (.cells #[.int .i64 R, .slice a1 n1 c1, .slice a2 n2 c2, .slice a3 n3 c3, .slice a4 n4 c4] 29) = W0 at *
    obtain ⟨p0, p1, p2, p3, p4⟩ := box5 (HE.out.nth 0 rfl)
    go_wp2_with (first
      | (go_at_call 52; ((with_reducible refine (HOK.out _ HE.out.gr).mono ?_); rintro e w1 ⟨rfl, hg⟩; have HE1 := Lib.hid (HE.out.on hg); obtain ⟨q0, q1, q2, q3, q4⟩ := box5 (HE1.out.nth 0 rfl); clear hg))
      | (go_at_call 54; ((with_reducible refine (HC.out _ HE1.out.gr).mono ?_); rintro e w3 ⟨q', d', rfl, ho, hg⟩; have HO := Lib.hid (HE1.out.row hg ho); clear hg ho)))
    go_ret
    exact ⟨_, _, rfl, HO.out.own 1 rfl, HO.out.gr⟩

set_option maxHeartbeats 4000000 in
theorem specCountWishes_is (a : Option Addr) (n c : Nat) (l : List Int) (v : Int) (w : World) (h : ReadsI w a n l) (hn : n ≤ 1048576) :
    Calls Try.prog 30 #[.slice a n c, .int .i64 v] w fun e w' => e = .returned (.int .i64 (cntW l v)) ∧ w.grownBy w' none := by
  have HR := Lib.hid h
  have hni : (n : Int) ≤ 1048576 := by omega
  clear h
  go_enter Try.func30, Try.ntmps30
  go_wp2_with fail
  go_loopw [5, 6] (fun x i wr => ∃ (k : Nat) (y : Int), (k : Int) ≤ n ∧ i = .int .i64 k ∧ x = .int .i64 y ∧ 0 ≤ y ∧ y ≤ k ∧ Hid (y = cntW (l.take k) v) ∧ Hid (w.grownBy wr none)) (fun _ i _ => n - (intOf i).toNat)
  case atStart => exact ⟨0, 0, by omega, rfl, rfl, by omega, by omega, Lib.hid rfl, Lib.hid (grown_refl _)⟩
  case round =>
    obtain ⟨k, y, hk, rfl, rfl, y0, y1, HY, HG⟩ := hrel
    by_cases hlt : (k : Int) < n
    · obtain ⟨x, hx⟩ := getI HR.out.len (k := k) (by omega)
      obtain ⟨g2, o2, rfl, d0⟩ := (HR.out.on HG.out).at_ k _ hx
      have HT := Lib.hid (cntW_take v hx)
      clear hx
      by_cases hz : x = v
      · subst hz
        go_wp2_with fail
        go_roundw
        case rel => exact ⟨k + 1, y + 1, by omega, by go_num, by first | rfl | go_num, by omega, by omega, Lib.hid (by rw [HT.out, if_pos rfl, HY.out]), HG⟩
        case measure => simp [intOf]; omega
      · go_wp2_with fail
        go_roundw
        case rel => exact ⟨k + 1, y, by omega, by go_num, rfl, by omega, by omega, Lib.hid (by rw [HT.out, if_neg hz, HY.out, Int.add_zero]), HG⟩
        case measure => simp [intOf]; omega
    · obtain rfl : n = k := by omega
      go_wp2_with fail
      go_ret
      exact ⟨by rw [HY.out, List.take_of_length_le (by rw [HR.out.len]; omega)]; rfl, HG.out⟩

set_option maxHeartbeats 4000000 in
theorem specCostV_is (R : Int) (a : Option Addr) (n c : Nat) (xs : List C3) (w : World) (hr : Reads w a n xs) (hn : n ≤ 1048576) (hm : meshOk R xs = true) :
    Calls Try.prog 58 #[.agg #[.int .i64 R, .slice a n c]] w fun e w' => e = .returned (.int .i64 (costK xs (xs.length - 1))) ∧ w.grownBy w' none := by
  have hl := hr.len
  obtain ⟨-, m1, m2⟩ := mesh_parts hm
  have HFI := Lib.hid (faces_in hm)
  have HC0 := Lib.hid fun (k : Nat) (hk : k + 1 < n) (u : World) (hu : w.grownBy u none) => specFace_is R k a n c xs _ _ u (hr.on hu) hn (List.getElem?_eq_getElem (show k < xs.length by omega)) (List.getElem?_eq_getElem (show k + 1 < xs.length by omega))
  have HB := Lib.hid (boxM_new w 26 R (.slice a n c))
  have HG := Lib.hid (g_alloc (grown_refl w) (.cells #[.int .i64 R, .slice a n c] 26))
  have hni : (n : Int) ≤ 128 := by omega
  have hn1 : 1 ≤ (n : Int) := by omega
  rw [hl]
  rw [hl] at HFI
  clear hr hn hm m1 m2 hl
  go_enter Try.func58, Try.ntmps58
  go_upto_region 1 with fail
  generalize w.alloc (.cells #[.int .i64 R, .slice a n c] 26) = W0 at *
  go_wp2_with fail
  go_loopw [3, 4] (fun v i wr => ∃ (k : Nat) (x : Int), (k : Int) + 1 ≤ n ∧ i = .int .i64 k ∧ v = .int .i64 x ∧ 0 ≤ x ∧ x ≤ 16 * k ∧ Hid (x = costK xs k) ∧ Hid (w.grownBy wr none) ∧ Hid (BoxM wr w.heap.size R (.slice a n c))) (fun _ i _ => n - (intOf i).toNat)
  case atStart => exact ⟨0, 0, by omega, rfl, rfl, by omega, by omega, Lib.hid rfl, HG, HB⟩
  case round =>
    clear HG HB
    obtain ⟨k, x, hk, rfl, rfl, x0, x1, HX, HG, HB⟩ := hrel
    have b0 := HB.out.c0; have b1 := HB.out.c1
    by_cases hlt : (k : Int) + 1 < n
    · obtain ⟨z0, z1⟩ := HFI.out k (by omega)
      have HC := Lib.hid (HC0.out k (by omega))
      obtain ⟨z, hz⟩ : ∃ z, faceAt xs k = z := ⟨_, rfl⟩
      have HZ := Lib.hid hz
      rw [hz] at HC z0 z1
      clear hz
      rcases Cell.lvl z0 z1 with rfl | rfl | rfl | rfl | rfl
      · have HT := Lib.hid (show costK xs (k + 1) = x + 1 by rw [costK_next, HZ.out, HX.out]; rfl)
        go_wp2_with (go_at_call 82; ((with_reducible refine (HC.out _ HG.out).mono ?_); rintro e w2 ⟨rfl, hg⟩; have HG2 := Lib.hid (grown_trans HG.out hg); have HB2 := Lib.hid (HB.out.on hg); clear hg))
        go_roundw
        case rel => exact ⟨k + 1, x + 1, by omega, by go_num, by first | rfl | go_num | (exact congrArg (fun z => Value.int .i64 z) (by omega)), by omega, by omega, Lib.hid HT.out.symm, HG2, HB2⟩
        case measure => simp [intOf]; omega
      · have HT := Lib.hid (show costK xs (k + 1) = x + 2 by rw [costK_next, HZ.out, HX.out]; rfl)
        go_wp2_with (go_at_call 82; ((with_reducible refine (HC.out _ HG.out).mono ?_); rintro e w2 ⟨rfl, hg⟩; have HG2 := Lib.hid (grown_trans HG.out hg); have HB2 := Lib.hid (HB.out.on hg); clear hg))
        go_roundw
        case rel => exact ⟨k + 1, x + 2, by omega, by go_num, by first | rfl | go_num | (exact congrArg (fun z => Value.int .i64 z) (by omega)), by omega, by omega, Lib.hid HT.out.symm, HG2, HB2⟩
        case measure => simp [intOf]; omega
      · have HT := Lib.hid (show costK xs (k + 1) = x + 4 by rw [costK_next, HZ.out, HX.out]; rfl)
        go_wp2_with (go_at_call 82; ((with_reducible refine (HC.out _ HG.out).mono ?_); rintro e w2 ⟨rfl, hg⟩; have HG2 := Lib.hid (grown_trans HG.out hg); have HB2 := Lib.hid (HB.out.on hg); clear hg))
        go_roundw
        case rel => exact ⟨k + 1, x + 4, by omega, by go_num, by first | rfl | go_num | (exact congrArg (fun z => Value.int .i64 z) (by omega)), by omega, by omega, Lib.hid HT.out.symm, HG2, HB2⟩
        case measure => simp [intOf]; omega
      · have HT := Lib.hid (show costK xs (k + 1) = x + 8 by rw [costK_next, HZ.out, HX.out]; rfl)
        go_wp2_with (go_at_call 82; ((with_reducible refine (HC.out _ HG.out).mono ?_); rintro e w2 ⟨rfl, hg⟩; have HG2 := Lib.hid (grown_trans HG.out hg); have HB2 := Lib.hid (HB.out.on hg); clear hg))
        go_roundw
        case rel => exact ⟨k + 1, x + 8, by omega, by go_num, by first | rfl | go_num | (exact congrArg (fun z => Value.int .i64 z) (by omega)), by omega, by omega, Lib.hid HT.out.symm, HG2, HB2⟩
        case measure => simp [intOf]; omega
      · have HT := Lib.hid (show costK xs (k + 1) = x + 16 by rw [costK_next, HZ.out, HX.out]; rfl)
        go_wp2_with (go_at_call 82; ((with_reducible refine (HC.out _ HG.out).mono ?_); rintro e w2 ⟨rfl, hg⟩; have HG2 := Lib.hid (grown_trans HG.out hg); have HB2 := Lib.hid (HB.out.on hg); clear hg))
        go_roundw
        case rel => exact ⟨k + 1, x + 16, by omega, by go_num, by first | rfl | go_num | (exact congrArg (fun z => Value.int .i64 z) (by omega)), by omega, by omega, Lib.hid HT.out.symm, HG2, HB2⟩
        case measure => simp [intOf]; omega
    · have hke : k = n - 1 := by omega
      go_wp2_with fail
      go_ret
      exact ⟨by rw [HX.out, hke]; rfl, HG.out⟩

set_option maxHeartbeats 4000000 in
theorem specCostOf_is (R : Int) (a : Option Addr) (n c : Nat) (xs : List C3) (w : World) (hr : Reads w a n xs) (hn : n ≤ 1048576) :
    Calls Try.prog 33 #[.agg #[.int .i64 R, .slice a n c]] w fun e w' => e = .returned (.int .i64 (costG R xs)) ∧ w.grownBy w' none := by
  have HR := Lib.hid hr; have HN := Lib.hid hn
  clear hr hn
  have HOK := Lib.hid (show ∀ u, Reads u a n xs → Calls Try.prog 57 #[.agg #[.int .i64 R, .slice a n c]] u fun e w' => e = .returned (.bool (meshOk R xs)) ∧ u.grownBy w' none from fun u hu => specMeshOk_is R a n c xs u hu HN.out)
  have HB := Lib.hid (boxM_new w 26 R (.slice a n c))
  have HG := Lib.hid (g_alloc (grown_refl w) (.cells #[.int .i64 R, .slice a n c] 26))
  unfold costG
  cases hm : meshOk R xs with
  | false =>
    rw [hm] at HOK
    clear hm
    go_enter Try.func33, Try.ntmps33
    go_upto_region 1 with fail
    generalize w.alloc (.cells #[.int .i64 R, .slice a n c] 26) = W0 at *
    have b0 := HB.out.c0; have b1 := HB.out.c1
    go_wp2_with (go_at_call 57; ((with_reducible refine (HOK.out _ (HR.out.on HG.out)).mono ?_); rintro e w1 ⟨rfl, hg⟩; have HG1 := Lib.hid (grown_trans HG.out hg); have HB1 := Lib.hid (HB.out.on hg); have k0 := HB1.out.c0; have k1 := HB1.out.c1; clear hg))
    go_ret
    exact ⟨rfl, HG1.out⟩
  | true =>
    rw [hm] at HOK
    rw [if_pos rfl]
    have HC := Lib.hid fun (u : World) (hu : Reads u a n xs) => specCostV_is R a n c xs u hu HN.out hm
    clear hm
    generalize costK xs (xs.length - 1) = V at *
    go_enter Try.func33, Try.ntmps33
    go_upto_region 1 with fail
    generalize w.alloc (.cells #[.int .i64 R, .slice a n c] 26) = W0 at *
    have b0 := HB.out.c0; have b1 := HB.out.c1
    go_wp2_with (first
      | (go_at_call 57; ((with_reducible refine (HOK.out _ (HR.out.on HG.out)).mono ?_); rintro e w1 ⟨rfl, hg⟩; have HG1 := Lib.hid (grown_trans HG.out hg); have HB1 := Lib.hid (HB.out.on hg); have k0 := HB1.out.c0; have k1 := HB1.out.c1; clear hg))
      | (go_at_call 58; ((with_reducible refine (HC.out _ (HR.out.on HG1.out)).mono ?_); rintro e w3 ⟨rfl, hg⟩; have HG3 := Lib.hid (grown_trans HG1.out hg); clear hg)))
    go_ret
    exact ⟨rfl, HG3.out⟩

set_option maxHeartbeats 4000000 in
theorem specSavedBy_is (R : Int) (a : Option Addr) (n c : Nat) (xs : List C3) (w : World) (hr : Reads w a n xs) (hn : n ≤ 1048576) :
    Calls Try.prog 36 #[.agg #[.int .i64 R, .slice a n c]] w fun e w' => e = .returned (.int .i64 (savedG R xs)) ∧ w.grownBy w' none := by
  have HR := Lib.hid hr; have HN := Lib.hid hn
  clear hr hn
  have HOK := Lib.hid (show ∀ u, Reads u a n xs → Calls Try.prog 57 #[.agg #[.int .i64 R, .slice a n c]] u fun e w' => e = .returned (.bool (meshOk R xs)) ∧ u.grownBy w' none from fun u hu => specMeshOk_is R a n c xs u hu HN.out)
  have HB := Lib.hid (boxM_new w 26 R (.slice a n c))
  have HG := Lib.hid (g_alloc (grown_refl w) (.cells #[.int .i64 R, .slice a n c] 26))
  unfold savedG
  cases hm : meshOk R xs with
  | false =>
    rw [hm] at HOK
    clear hm
    go_enter Try.func36, Try.ntmps36
    go_upto_region 1 with fail
    generalize w.alloc (.cells #[.int .i64 R, .slice a n c] 26) = W0 at *
    have b0 := HB.out.c0; have b1 := HB.out.c1
    go_wp2_with (go_at_call 57; ((with_reducible refine (HOK.out _ (HR.out.on HG.out)).mono ?_); rintro e w1 ⟨rfl, hg⟩; have HG1 := Lib.hid (grown_trans HG.out hg); have HB1 := Lib.hid (HB.out.on hg); have k0 := HB1.out.c0; have k1 := HB1.out.c1; clear hg))
    go_ret
    exact ⟨rfl, HG1.out⟩
  | true =>
    rw [hm] at HOK
    rw [if_pos rfl]
    have hn4 : newOk R 4 = true := by
      obtain ⟨r0, r1, -⟩ : 1 ≤ R ∧ R ≤ 8 ∧ run xs = some (R * 16) := of_decide_eq_true hm
      exact decide_eq_true ⟨⟨r0, r1⟩, by omega, by omega⟩
    have HM4 := Lib.hid (show meshOk (newR R 4) (newC R 4) = true by rw [(new_good hn4).1]; exact new_meshOk hn4)
    have HMM := Lib.hid hm
    have HNW := Lib.hid fun u => specNew_is R 4 u
    obtain ⟨C, hC⟩ : ∃ C, costG (newR R 4) (newC R 4) = C := ⟨_, rfl⟩
    obtain ⟨D, hD⟩ : ∃ D, costG R xs = D := ⟨_, rfl⟩
    have HC := Lib.hid (show costK (newC R 4) ((newC R 4).length - 1) = C by rw [← hC, costG, if_pos HM4.out])
    have HD := Lib.hid (show costK xs (xs.length - 1) = D by rw [← hD, costG, if_pos hm])
    have cb := costG_range (newR R 4) (newC R 4)
    have db := costG_range R xs
    rw [hC] at cb ⊢
    rw [hD] at db ⊢
    clear hC hD hm
    go_enter Try.func36, Try.ntmps36
    go_upto_region 1 with fail
    generalize w.alloc (.cells #[.int .i64 R, .slice a n c] 26) = W0 at *
    have b0 := HB.out.c0; have b1 := HB.out.c1
    go_upto_region 3 with (go_at_call 57; ((with_reducible refine (HOK.out _ (HR.out.on HG.out)).mono ?_); rintro e w1 ⟨rfl, hg⟩; have HG1 := Lib.hid (grown_trans HG.out hg); have HB1 := Lib.hid (HB.out.on hg); have k0 := HB1.out.c0; have k1 := HB1.out.c1; clear hg))
    clear b0 b1 HB HG HOK
    go_upto_region 4 with (go_at_call 17; ((with_reducible refine (HNW.out _).mono ?_); rintro e w2 ⟨v, rfl, ho, hg⟩; obtain ⟨q, d, rfl⟩ := own_form ho; have HO := Lib.hid ho; have HG2 := Lib.hid (grown_trans HG1.out hg); have HB2 := Lib.hid (HB1.out.on hg); clear hg ho))
    clear k0 k1 HB1
    have HR2 := Lib.hid (own_reads HO.out)
    have hl2 := (newC_len (R := R) (L := 4))
    have HB3 := Lib.hid (boxM_new w2 26 (newR R 4) (.slice q (newC R 4).length d))
    have HM3 := Lib.hid (HB2.out.on (World.grownBy_alloc w2 (.cells #[.int .i64 (newR R 4), .slice q (newC R 4).length d] 26) none))
    have HR3 := Lib.hid (HR2.out.past (.cells #[.int .i64 (newR R 4), .slice q (newC R 4).length d] 26))
    have HG3 := Lib.hid (g_alloc HG2.out (.cells #[.int .i64 (newR R 4), .slice q (newC R 4).length d] 26))
    generalize w2.alloc (.cells #[.int .i64 (newR R 4), .slice q (newC R 4).length d] 26) = W3 at *
    generalize w2.heap.size = B2 at *
    have b0 := HM3.out.c0; have b1 := HM3.out.c1; have f0 := HB3.out.c0; have f1 := HB3.out.c1
    have hgg : W3.grownBy W3 none := grown_refl _
    have HCF := Lib.hid (show ∀ u, W3.grownBy u none → Calls Try.prog 58 #[.agg #[.int .i64 (newR R 4), .slice q (newC R 4).length d]] u fun e w' => e = .returned (.int .i64 C) ∧ u.grownBy w' none from fun u hu => HC.out ▸ specCostV_is (newR R 4) q (newC R 4).length d (newC R 4) u (HR3.out.on hu) (by omega) HM4.out)
    have HCM := Lib.hid (show ∀ u, W3.grownBy u none → Calls Try.prog 58 #[.agg #[.int .i64 R, .slice a n c]] u fun e w' => e = .returned (.int .i64 D) ∧ u.grownBy w' none from fun u hu => HD.out ▸ specCostV_is R a n c xs u ((HR.out.on HG3.out).on hu) HN.out HMM.out)
    clear HB3 HM3 HR2 HR3 HB2 HO HC HD hl2 HNW HM4 HMM
    generalize newR R 4 = R2 at *
    generalize (newC R 4).length = m at *
    have es : IntKind.i64.wrap (C - D) = C - D := IntWalk.i64_in _ (by omega)
    go_region_held3 (fun w' => w'.cell? ⟨w.heap.size, 0, none⟩ = some (.int .i64 R) ∧ w'.cell? ⟨w.heap.size, 1, none⟩ = some (.slice a n c) ∧ w'.cell? ⟨B2, 0, none⟩ = some (.int .i64 R2) ∧ w'.cell? ⟨B2, 1, none⟩ = some (.slice q m d) ∧ W3.grownBy w' none)
      ((go_split_ands; refine ⟨?_, ?_, ?_, ?_, ?_⟩ <;> first | assumption | exact hgc.cell (by assumption) (by simp) | exact Cell.grown_trans (by assumption) hgc | exact Mesh.gr_drew (by assumption)))
      (first
        | (go_at_call 58; (first
          | ((with_reducible refine (HCF.out _ (by first | assumption | exact Mesh.gr_drew (by assumption) | (go_split_ands; assumption))).mono ?_); rintro e w'' ⟨rfl, hgc⟩)
          | ((with_reducible refine (HCM.out _ (by first | assumption | exact Mesh.gr_drew (by assumption) | (go_split_ands; assumption))).mono ?_); rintro e w'' ⟨rfl, hgc⟩))))
    go_split_ands
    go_wp2_with fail
    go_ret
    exact ⟨rfl, Cell.grown_trans HG3.out (by assumption)⟩
end Go.Proofs.Ytaccigmkddomaaa.State
