/- Criteria: the program's jumpAt, JumpAt, wishAt, Wishes, CountWishes, CostOf, SavedBy, as contracts: what each answers, in memory of the call's own; nothing that was there is written (written by wip/tools/stcri.py).
   Conditions: at most 2^20 leaves and numbers. -/
import Derived.Test.YtaccigmkddomaaaStCriP
import Derived.Test.YtaccigmkddomaaaStSrcI
import Derived.Test.YtaccigmkddomaaaMFaceIF
set_option maxRecDepth 100000
namespace Go.Proofs.Ytaccigmkddomaaa.State
open Go.ChangeShapes Go.WideShapes Go.ChangeAt Go.RowKit Go.Joins Go.Proofs.Ytaccigmkddomaaa.Cell Go.Proofs.Ytaccigmkddomaaa.Mesh Go.Proofs.Ytaccigmkddomaaa.Law Go.Proofs.Ytaccigmkddomaaa.Ints Go.Deep
set_option linter.unusedVariables false

/-- The builtin max of three ints. -/
theorem run_max_three {P : Program} (w : World) (ts : Array TypeId) (t : TypeId) (k k' k'' : IntKind) (x y z : Int) :
    (Builtin.max_ ts t #[.int k x, .int k' y, .int k'' z]).run P w = .ok (.int k (max (max x y) z)) w := by
  have e : ∀ a b : Int, (if b > a then b else a) = max a b := fun a b => by
    rw [Int.max_def]
    split <;> split <;> omega
  simp [Builtin.max_, Builtin.max2, e]
attribute [local go_sem high] run_max_three

set_option maxHeartbeats 16000000 in
theorem jumpWalk (R : Int) (a1 a2 a3 a4 : Option Addr) (n2 n3 n4 c1 c2 c3 c4 : Nat) (xs : List C3) (ms ts bs : List Int) (k b cnt : Nat) (K J : Int) (w : World) (h : ReadsS w a1 a2 a3 a4 n2 n2 n3 n4 xs ms ts bs) (h1 : n2 ≤ 1048576) (hs : stOk R xs ms ts bs = true) (hk : k < n2)
    (hK : (k : Int) = K) (hb : (b : Int) = max (K - 1) 0) (hc : (b : Int) + cnt = min (K + 1) (n2 - 1) + 1) (hT : jumpTo xs ms bs k b cnt = J) :
    Calls Try.prog 42 #[.agg #[.int .i64 R, .slice a1 n2 c1, .slice a2 n2 c2, .slice a3 n3 c3, .slice a4 n4 c4], .int .i64 K] w fun e w' => e = .returned (.int .i64 J) ∧ w.grownBy w' none := by
  have hl := h.l.len
  have HS := Lib.hid fun (k : Nat) (K : Int) (hK : (k : Int) = K) (hk : k < n2) (u : World) (hu : w.grownBy u none) => (show Calls Try.prog 67 #[.agg #[.int .i64 R, .slice a1 n2 c1, .slice a2 n2 c2, .slice a3 n3 c3, .slice a4 n4 c4], .int .i64 K] u fun e w' => e = .returned (.agg #[.int .i64 (lvAt xs k), .int .i64 (msAt ms k), .int .i64 (surf xs ms bs k)]) ∧ u.grownBy w' none from hK ▸ sideAt_is R a1 a2 a3 a4 n2 n2 n3 n4 c1 c2 c3 c4 k xs ms ts bs u (h.on hu) h1 hs hk)
  have HB := Lib.hid fun (k : Nat) (hk : k < n2) => (show 0 ≤ surf xs ms bs k ∧ surf xs ms bs k ≤ 161000000 from ⟨(leaf_bounds hs (k := k) (by omega)).1, (leaf_bounds hs (k := k) (by omega)).2.1⟩)
  have hfd : ∀ (u : World) (x y z : Int), (Instr.field 84 (.agg #[.int .i64 x, .int .i64 y, .int .i64 z]) 2).run Try.prog u = .ok (.int .i64 z) u := fun u x y z => by kernel_rfl
  have HE := Lib.hid ((Held.nil w).box 29 #[.int .i64 R, .slice a1 n2 c1, .slice a2 n2 c2, .slice a3 n3 c3, .slice a4 n4 c4])
  have HT := Lib.hid hT
  clear h hs hT hl
  have K1 : (k : Int) ≤ K := by omega
  have K2 : K ≤ (k : Int) := by omega
  clear hK
  have W1 : K - 1 ≤ (b : Int) ∧ 0 ≤ (b : Int) ∧ ((b : Int) ≤ K - 1 ∨ (b : Int) ≤ 0) := by omega
  by_cases K0 : K ≤ 0
  · have b1 : (b : Int) ≤ 0 := by omega
    rcases Int.lt_trichotomy (K + 1) ((n2 : Int) - 1) with hm | hm | hm
    · have C1 : (b : Int) + cnt ≤ K + 2 := by omega
      have C2 : K + 2 ≤ (b : Int) + cnt := by omega
      clear hb hc
      go_enter Try.func42, Try.ntmps42
      go_upto_region 1 with fail
      generalize w.alloc (.cells #[.int .i64 R, .slice a1 n2 c1, .slice a2 n2 c2, .slice a3 n3 c3, .slice a4 n4 c4] 29) = W0 at *
      obtain ⟨p0, p1, p2, p3, p4⟩ := box5 (HE.out.nth 0 rfl)
      have HSK := Lib.hid (HS.out k K (Int.le_antisymm K1 K2) (by omega))
      have HKB := Lib.hid (HB.out k (by omega))
      obtain ⟨s, hs⟩ : ∃ s, surf xs ms bs k = s := ⟨_, rfl⟩
      have HSV := Lib.hid hs
      rw [hs] at HSK HKB
      clear hs
      have e0 : IntKind.i64.wrap (K - 1) = K - 1 := IntWalk.i64_in _ (by omega)
      have e3 : IntKind.i64.wrap (K + 1) = K + 1 := IntWalk.i64_in _ (by omega)
      have e4 : IntKind.i64.wrap ((n2 : Int) - 1) = (n2 : Int) - 1 := IntWalk.i64_in _ (by omega)
      go_upto_region 3 with (go_at_call 67; ((with_reducible refine (HSK.out _ HE.out.gr).mono ?_); rintro e w1 ⟨rfl, hg⟩; have HE1 := Lib.hid (HE.out.on hg); clear hg))
      clear p0 p1 p2 p3 p4 HE HSK
      go_wp2_with fail
      go_loopw [6, 7] (fun v i wr => ∃ (d : Nat) (x N : Int), d ≤ cnt ∧ N ≤ (b : Int) + d ∧ (b : Int) + d ≤ N ∧ i = .int .i64 N ∧ v = .int .i64 x ∧ Hid (x = jumpTo xs ms bs k b d) ∧ Hid (Held w wr [boxG w.heap.size 29 #[.int .i64 R, .slice a1 n2 c1, .slice a2 n2 c2, .slice a3 n3 c3, .slice a4 n4 c4]])) (fun _ i _ => n2 + 1 - (intOf i).toNat)
      case atStart => exact ⟨0, 0, _, by omega, by first | omega | (simp; omega), by first | omega | (simp; omega), rfl, rfl, Lib.hid rfl, HE1⟩
      case round =>
        clear HE1
        obtain ⟨d, x, N, hd, N1, N2, rfl, rfl, HX, HF⟩ := hrel
        obtain ⟨p0, p1, p2, p3, p4⟩ := box5 (HF.out.nth 0 rfl)
        have hx0 : 0 ≤ x := by rw [HX.out]; exact jumpTo_nonneg xs ms bs _ _ d
        by_cases hlt : d < cnt
        · have HSN := Lib.hid (HS.out (b + d) N (Int.le_antisymm (by omega) (by omega)) (by omega))
          have HKT := Lib.hid (HB.out (b + d) (by omega))
          have HNX := Lib.hid (jumpTo_next xs ms bs k b d)
          rw [← HX.out, HSV.out] at HNX
          obtain ⟨t, ht⟩ : ∃ t, surf xs ms bs (b + d) = t := ⟨_, rfl⟩
          rw [ht] at HSN HKT HNX
          clear ht
          obtain ⟨D, hD⟩ : ∃ D, s - t = D := ⟨_, rfl⟩
          have e1 : IntKind.i64.wrap (s - t) = D := by rw [hD]; exact IntWalk.i64_in _ (by have := HKB.out; have := HKT.out; omega)
          have e2 : IntKind.i64.wrap (-D) = -D := IntWalk.i64_in _ (by have := HKB.out; have := HKT.out; omega)
          have HD := Lib.hid hD
          have HNX2 := Lib.hid (show jumpTo xs ms bs k b (d + 1) = max x (max D (-D)) by rw [HNX.out, ← HD.out]; rfl)
          clear hD HNX
          go_upto_region 7 with (go_at_call 67; ((with_reducible refine (HSN.out _ HF.out.gr).mono ?_); rintro e w3 ⟨rfl, hg⟩; have HF2 := Lib.hid (HF.out.on hg); clear hg))
          go_wp2_with fail
          go_roundw
          case rel => exact ⟨d + 1, _, N + 1, by omega, by omega, by omega, by go_num, rfl, Lib.hid (by first | (rw [HNX2.out]; done) | (rw [HNX2.out]; omega)), HF2⟩
          case measure => simp [intOf]; omega
        · obtain rfl : d = cnt := by omega
          go_wp2_with fail
          go_ret
          exact ⟨by first | (rw [HX.out, HT.out]; done) | (rw [HX.out, HT.out]; rfl), HF.out.gr⟩
    · have C1 : (b : Int) + cnt ≤ K + 2 := by omega
      have C2 : K + 2 ≤ (b : Int) + cnt := by omega
      clear hb hc
      go_enter Try.func42, Try.ntmps42
      go_upto_region 1 with fail
      generalize w.alloc (.cells #[.int .i64 R, .slice a1 n2 c1, .slice a2 n2 c2, .slice a3 n3 c3, .slice a4 n4 c4] 29) = W0 at *
      obtain ⟨p0, p1, p2, p3, p4⟩ := box5 (HE.out.nth 0 rfl)
      have HSK := Lib.hid (HS.out k K (Int.le_antisymm K1 K2) (by omega))
      have HKB := Lib.hid (HB.out k (by omega))
      obtain ⟨s, hs⟩ : ∃ s, surf xs ms bs k = s := ⟨_, rfl⟩
      have HSV := Lib.hid hs
      rw [hs] at HSK HKB
      clear hs
      have e0 : IntKind.i64.wrap (K - 1) = K - 1 := IntWalk.i64_in _ (by omega)
      have e3 : IntKind.i64.wrap (K + 1) = K + 1 := IntWalk.i64_in _ (by omega)
      have e4 : IntKind.i64.wrap ((n2 : Int) - 1) = (n2 : Int) - 1 := IntWalk.i64_in _ (by omega)
      go_upto_region 3 with (go_at_call 67; ((with_reducible refine (HSK.out _ HE.out.gr).mono ?_); rintro e w1 ⟨rfl, hg⟩; have HE1 := Lib.hid (HE.out.on hg); clear hg))
      clear p0 p1 p2 p3 p4 HE HSK
      go_wp2_with fail
      go_loopw [6, 7] (fun v i wr => ∃ (d : Nat) (x N : Int), d ≤ cnt ∧ N ≤ (b : Int) + d ∧ (b : Int) + d ≤ N ∧ i = .int .i64 N ∧ v = .int .i64 x ∧ Hid (x = jumpTo xs ms bs k b d) ∧ Hid (Held w wr [boxG w.heap.size 29 #[.int .i64 R, .slice a1 n2 c1, .slice a2 n2 c2, .slice a3 n3 c3, .slice a4 n4 c4]])) (fun _ i _ => n2 + 1 - (intOf i).toNat)
      case atStart => exact ⟨0, 0, _, by omega, by first | omega | (simp; omega), by first | omega | (simp; omega), rfl, rfl, Lib.hid rfl, HE1⟩
      case round =>
        clear HE1
        obtain ⟨d, x, N, hd, N1, N2, rfl, rfl, HX, HF⟩ := hrel
        obtain ⟨p0, p1, p2, p3, p4⟩ := box5 (HF.out.nth 0 rfl)
        have hx0 : 0 ≤ x := by rw [HX.out]; exact jumpTo_nonneg xs ms bs _ _ d
        by_cases hlt : d < cnt
        · have HSN := Lib.hid (HS.out (b + d) N (Int.le_antisymm (by omega) (by omega)) (by omega))
          have HKT := Lib.hid (HB.out (b + d) (by omega))
          have HNX := Lib.hid (jumpTo_next xs ms bs k b d)
          rw [← HX.out, HSV.out] at HNX
          obtain ⟨t, ht⟩ : ∃ t, surf xs ms bs (b + d) = t := ⟨_, rfl⟩
          rw [ht] at HSN HKT HNX
          clear ht
          obtain ⟨D, hD⟩ : ∃ D, s - t = D := ⟨_, rfl⟩
          have e1 : IntKind.i64.wrap (s - t) = D := by rw [hD]; exact IntWalk.i64_in _ (by have := HKB.out; have := HKT.out; omega)
          have e2 : IntKind.i64.wrap (-D) = -D := IntWalk.i64_in _ (by have := HKB.out; have := HKT.out; omega)
          have HD := Lib.hid hD
          have HNX2 := Lib.hid (show jumpTo xs ms bs k b (d + 1) = max x (max D (-D)) by rw [HNX.out, ← HD.out]; rfl)
          clear hD HNX
          go_upto_region 7 with (go_at_call 67; ((with_reducible refine (HSN.out _ HF.out.gr).mono ?_); rintro e w3 ⟨rfl, hg⟩; have HF2 := Lib.hid (HF.out.on hg); clear hg))
          go_wp2_with fail
          go_roundw
          case rel => exact ⟨d + 1, _, N + 1, by omega, by omega, by omega, by go_num, rfl, Lib.hid (by first | (rw [HNX2.out]; done) | (rw [HNX2.out]; omega)), HF2⟩
          case measure => simp [intOf]; omega
        · obtain rfl : d = cnt := by omega
          go_wp2_with fail
          go_ret
          exact ⟨by first | (rw [HX.out, HT.out]; done) | (rw [HX.out, HT.out]; rfl), HF.out.gr⟩
    · have C1 : (b : Int) + cnt ≤ (n2 : Int) := by omega
      have C2 : (n2 : Int) ≤ (b : Int) + cnt := by omega
      clear hb hc
      go_enter Try.func42, Try.ntmps42
      go_upto_region 1 with fail
      generalize w.alloc (.cells #[.int .i64 R, .slice a1 n2 c1, .slice a2 n2 c2, .slice a3 n3 c3, .slice a4 n4 c4] 29) = W0 at *
      obtain ⟨p0, p1, p2, p3, p4⟩ := box5 (HE.out.nth 0 rfl)
      have HSK := Lib.hid (HS.out k K (Int.le_antisymm K1 K2) (by omega))
      have HKB := Lib.hid (HB.out k (by omega))
      obtain ⟨s, hs⟩ : ∃ s, surf xs ms bs k = s := ⟨_, rfl⟩
      have HSV := Lib.hid hs
      rw [hs] at HSK HKB
      clear hs
      have e0 : IntKind.i64.wrap (K - 1) = K - 1 := IntWalk.i64_in _ (by omega)
      have e3 : IntKind.i64.wrap (K + 1) = K + 1 := IntWalk.i64_in _ (by omega)
      have e4 : IntKind.i64.wrap ((n2 : Int) - 1) = (n2 : Int) - 1 := IntWalk.i64_in _ (by omega)
      go_upto_region 3 with (go_at_call 67; ((with_reducible refine (HSK.out _ HE.out.gr).mono ?_); rintro e w1 ⟨rfl, hg⟩; have HE1 := Lib.hid (HE.out.on hg); clear hg))
      clear p0 p1 p2 p3 p4 HE HSK
      go_wp2_with fail
      go_loopw [6, 7] (fun v i wr => ∃ (d : Nat) (x N : Int), d ≤ cnt ∧ N ≤ (b : Int) + d ∧ (b : Int) + d ≤ N ∧ i = .int .i64 N ∧ v = .int .i64 x ∧ Hid (x = jumpTo xs ms bs k b d) ∧ Hid (Held w wr [boxG w.heap.size 29 #[.int .i64 R, .slice a1 n2 c1, .slice a2 n2 c2, .slice a3 n3 c3, .slice a4 n4 c4]])) (fun _ i _ => n2 + 1 - (intOf i).toNat)
      case atStart => exact ⟨0, 0, _, by omega, by first | omega | (simp; omega), by first | omega | (simp; omega), rfl, rfl, Lib.hid rfl, HE1⟩
      case round =>
        clear HE1
        obtain ⟨d, x, N, hd, N1, N2, rfl, rfl, HX, HF⟩ := hrel
        obtain ⟨p0, p1, p2, p3, p4⟩ := box5 (HF.out.nth 0 rfl)
        have hx0 : 0 ≤ x := by rw [HX.out]; exact jumpTo_nonneg xs ms bs _ _ d
        by_cases hlt : d < cnt
        · have HSN := Lib.hid (HS.out (b + d) N (Int.le_antisymm (by omega) (by omega)) (by omega))
          have HKT := Lib.hid (HB.out (b + d) (by omega))
          have HNX := Lib.hid (jumpTo_next xs ms bs k b d)
          rw [← HX.out, HSV.out] at HNX
          obtain ⟨t, ht⟩ : ∃ t, surf xs ms bs (b + d) = t := ⟨_, rfl⟩
          rw [ht] at HSN HKT HNX
          clear ht
          obtain ⟨D, hD⟩ : ∃ D, s - t = D := ⟨_, rfl⟩
          have e1 : IntKind.i64.wrap (s - t) = D := by rw [hD]; exact IntWalk.i64_in _ (by have := HKB.out; have := HKT.out; omega)
          have e2 : IntKind.i64.wrap (-D) = -D := IntWalk.i64_in _ (by have := HKB.out; have := HKT.out; omega)
          have HD := Lib.hid hD
          have HNX2 := Lib.hid (show jumpTo xs ms bs k b (d + 1) = max x (max D (-D)) by rw [HNX.out, ← HD.out]; rfl)
          clear hD HNX
          go_upto_region 7 with (go_at_call 67; ((with_reducible refine (HSN.out _ HF.out.gr).mono ?_); rintro e w3 ⟨rfl, hg⟩; have HF2 := Lib.hid (HF.out.on hg); clear hg))
          go_wp2_with fail
          go_roundw
          case rel => exact ⟨d + 1, _, N + 1, by omega, by omega, by omega, by go_num, rfl, Lib.hid (by first | (rw [HNX2.out]; done) | (rw [HNX2.out]; omega)), HF2⟩
          case measure => simp [intOf]; omega
        · obtain rfl : d = cnt := by omega
          go_wp2_with fail
          go_ret
          exact ⟨by first | (rw [HX.out, HT.out]; done) | (rw [HX.out, HT.out]; rfl), HF.out.gr⟩
  · have b1 : (b : Int) ≤ K - 1 := by omega
    have b2 : K - 1 ≤ (b : Int) := by omega
    rcases Int.lt_trichotomy (K + 1) ((n2 : Int) - 1) with hm | hm | hm
    · have C1 : (b : Int) + cnt ≤ K + 2 := by omega
      have C2 : K + 2 ≤ (b : Int) + cnt := by omega
      clear hb hc
      go_enter Try.func42, Try.ntmps42
      go_upto_region 1 with fail
      generalize w.alloc (.cells #[.int .i64 R, .slice a1 n2 c1, .slice a2 n2 c2, .slice a3 n3 c3, .slice a4 n4 c4] 29) = W0 at *
      obtain ⟨p0, p1, p2, p3, p4⟩ := box5 (HE.out.nth 0 rfl)
      have HSK := Lib.hid (HS.out k K (Int.le_antisymm K1 K2) (by omega))
      have HKB := Lib.hid (HB.out k (by omega))
      obtain ⟨s, hs⟩ : ∃ s, surf xs ms bs k = s := ⟨_, rfl⟩
      have HSV := Lib.hid hs
      rw [hs] at HSK HKB
      clear hs
      have e0 : IntKind.i64.wrap (K - 1) = K - 1 := IntWalk.i64_in _ (by omega)
      have e3 : IntKind.i64.wrap (K + 1) = K + 1 := IntWalk.i64_in _ (by omega)
      have e4 : IntKind.i64.wrap ((n2 : Int) - 1) = (n2 : Int) - 1 := IntWalk.i64_in _ (by omega)
      go_upto_region 3 with (go_at_call 67; ((with_reducible refine (HSK.out _ HE.out.gr).mono ?_); rintro e w1 ⟨rfl, hg⟩; have HE1 := Lib.hid (HE.out.on hg); clear hg))
      clear p0 p1 p2 p3 p4 HE HSK
      go_wp2_with fail
      go_loopw [6, 7] (fun v i wr => ∃ (d : Nat) (x N : Int), d ≤ cnt ∧ N ≤ (b : Int) + d ∧ (b : Int) + d ≤ N ∧ i = .int .i64 N ∧ v = .int .i64 x ∧ Hid (x = jumpTo xs ms bs k b d) ∧ Hid (Held w wr [boxG w.heap.size 29 #[.int .i64 R, .slice a1 n2 c1, .slice a2 n2 c2, .slice a3 n3 c3, .slice a4 n4 c4]])) (fun _ i _ => n2 + 1 - (intOf i).toNat)
      case atStart => exact ⟨0, 0, _, by omega, by first | omega | (simp; omega), by first | omega | (simp; omega), rfl, rfl, Lib.hid rfl, HE1⟩
      case round =>
        clear HE1
        obtain ⟨d, x, N, hd, N1, N2, rfl, rfl, HX, HF⟩ := hrel
        obtain ⟨p0, p1, p2, p3, p4⟩ := box5 (HF.out.nth 0 rfl)
        have hx0 : 0 ≤ x := by rw [HX.out]; exact jumpTo_nonneg xs ms bs _ _ d
        by_cases hlt : d < cnt
        · have HSN := Lib.hid (HS.out (b + d) N (Int.le_antisymm (by omega) (by omega)) (by omega))
          have HKT := Lib.hid (HB.out (b + d) (by omega))
          have HNX := Lib.hid (jumpTo_next xs ms bs k b d)
          rw [← HX.out, HSV.out] at HNX
          obtain ⟨t, ht⟩ : ∃ t, surf xs ms bs (b + d) = t := ⟨_, rfl⟩
          rw [ht] at HSN HKT HNX
          clear ht
          obtain ⟨D, hD⟩ : ∃ D, s - t = D := ⟨_, rfl⟩
          have e1 : IntKind.i64.wrap (s - t) = D := by rw [hD]; exact IntWalk.i64_in _ (by have := HKB.out; have := HKT.out; omega)
          have e2 : IntKind.i64.wrap (-D) = -D := IntWalk.i64_in _ (by have := HKB.out; have := HKT.out; omega)
          have HD := Lib.hid hD
          have HNX2 := Lib.hid (show jumpTo xs ms bs k b (d + 1) = max x (max D (-D)) by rw [HNX.out, ← HD.out]; rfl)
          clear hD HNX
          go_upto_region 7 with (go_at_call 67; ((with_reducible refine (HSN.out _ HF.out.gr).mono ?_); rintro e w3 ⟨rfl, hg⟩; have HF2 := Lib.hid (HF.out.on hg); clear hg))
          go_wp2_with fail
          go_roundw
          case rel => exact ⟨d + 1, _, N + 1, by omega, by omega, by omega, by go_num, rfl, Lib.hid (by first | (rw [HNX2.out]; done) | (rw [HNX2.out]; omega)), HF2⟩
          case measure => simp [intOf]; omega
        · obtain rfl : d = cnt := by omega
          go_wp2_with fail
          go_ret
          exact ⟨by first | (rw [HX.out, HT.out]; done) | (rw [HX.out, HT.out]; rfl), HF.out.gr⟩
    · have C1 : (b : Int) + cnt ≤ K + 2 := by omega
      have C2 : K + 2 ≤ (b : Int) + cnt := by omega
      clear hb hc
      go_enter Try.func42, Try.ntmps42
      go_upto_region 1 with fail
      generalize w.alloc (.cells #[.int .i64 R, .slice a1 n2 c1, .slice a2 n2 c2, .slice a3 n3 c3, .slice a4 n4 c4] 29) = W0 at *
      obtain ⟨p0, p1, p2, p3, p4⟩ := box5 (HE.out.nth 0 rfl)
      have HSK := Lib.hid (HS.out k K (Int.le_antisymm K1 K2) (by omega))
      have HKB := Lib.hid (HB.out k (by omega))
      obtain ⟨s, hs⟩ : ∃ s, surf xs ms bs k = s := ⟨_, rfl⟩
      have HSV := Lib.hid hs
      rw [hs] at HSK HKB
      clear hs
      have e0 : IntKind.i64.wrap (K - 1) = K - 1 := IntWalk.i64_in _ (by omega)
      have e3 : IntKind.i64.wrap (K + 1) = K + 1 := IntWalk.i64_in _ (by omega)
      have e4 : IntKind.i64.wrap ((n2 : Int) - 1) = (n2 : Int) - 1 := IntWalk.i64_in _ (by omega)
      go_upto_region 3 with (go_at_call 67; ((with_reducible refine (HSK.out _ HE.out.gr).mono ?_); rintro e w1 ⟨rfl, hg⟩; have HE1 := Lib.hid (HE.out.on hg); clear hg))
      clear p0 p1 p2 p3 p4 HE HSK
      go_wp2_with fail
      go_loopw [6, 7] (fun v i wr => ∃ (d : Nat) (x N : Int), d ≤ cnt ∧ N ≤ (b : Int) + d ∧ (b : Int) + d ≤ N ∧ i = .int .i64 N ∧ v = .int .i64 x ∧ Hid (x = jumpTo xs ms bs k b d) ∧ Hid (Held w wr [boxG w.heap.size 29 #[.int .i64 R, .slice a1 n2 c1, .slice a2 n2 c2, .slice a3 n3 c3, .slice a4 n4 c4]])) (fun _ i _ => n2 + 1 - (intOf i).toNat)
      case atStart => exact ⟨0, 0, _, by omega, by first | omega | (simp; omega), by first | omega | (simp; omega), rfl, rfl, Lib.hid rfl, HE1⟩
      case round =>
        clear HE1
        obtain ⟨d, x, N, hd, N1, N2, rfl, rfl, HX, HF⟩ := hrel
        obtain ⟨p0, p1, p2, p3, p4⟩ := box5 (HF.out.nth 0 rfl)
        have hx0 : 0 ≤ x := by rw [HX.out]; exact jumpTo_nonneg xs ms bs _ _ d
        by_cases hlt : d < cnt
        · have HSN := Lib.hid (HS.out (b + d) N (Int.le_antisymm (by omega) (by omega)) (by omega))
          have HKT := Lib.hid (HB.out (b + d) (by omega))
          have HNX := Lib.hid (jumpTo_next xs ms bs k b d)
          rw [← HX.out, HSV.out] at HNX
          obtain ⟨t, ht⟩ : ∃ t, surf xs ms bs (b + d) = t := ⟨_, rfl⟩
          rw [ht] at HSN HKT HNX
          clear ht
          obtain ⟨D, hD⟩ : ∃ D, s - t = D := ⟨_, rfl⟩
          have e1 : IntKind.i64.wrap (s - t) = D := by rw [hD]; exact IntWalk.i64_in _ (by have := HKB.out; have := HKT.out; omega)
          have e2 : IntKind.i64.wrap (-D) = -D := IntWalk.i64_in _ (by have := HKB.out; have := HKT.out; omega)
          have HD := Lib.hid hD
          have HNX2 := Lib.hid (show jumpTo xs ms bs k b (d + 1) = max x (max D (-D)) by rw [HNX.out, ← HD.out]; rfl)
          clear hD HNX
          go_upto_region 7 with (go_at_call 67; ((with_reducible refine (HSN.out _ HF.out.gr).mono ?_); rintro e w3 ⟨rfl, hg⟩; have HF2 := Lib.hid (HF.out.on hg); clear hg))
          go_wp2_with fail
          go_roundw
          case rel => exact ⟨d + 1, _, N + 1, by omega, by omega, by omega, by go_num, rfl, Lib.hid (by first | (rw [HNX2.out]; done) | (rw [HNX2.out]; omega)), HF2⟩
          case measure => simp [intOf]; omega
        · obtain rfl : d = cnt := by omega
          go_wp2_with fail
          go_ret
          exact ⟨by first | (rw [HX.out, HT.out]; done) | (rw [HX.out, HT.out]; rfl), HF.out.gr⟩
    · have C1 : (b : Int) + cnt ≤ (n2 : Int) := by omega
      have C2 : (n2 : Int) ≤ (b : Int) + cnt := by omega
      clear hb hc
      go_enter Try.func42, Try.ntmps42
      go_upto_region 1 with fail
      generalize w.alloc (.cells #[.int .i64 R, .slice a1 n2 c1, .slice a2 n2 c2, .slice a3 n3 c3, .slice a4 n4 c4] 29) = W0 at *
      obtain ⟨p0, p1, p2, p3, p4⟩ := box5 (HE.out.nth 0 rfl)
      have HSK := Lib.hid (HS.out k K (Int.le_antisymm K1 K2) (by omega))
      have HKB := Lib.hid (HB.out k (by omega))
      obtain ⟨s, hs⟩ : ∃ s, surf xs ms bs k = s := ⟨_, rfl⟩
      have HSV := Lib.hid hs
      rw [hs] at HSK HKB
      clear hs
      have e0 : IntKind.i64.wrap (K - 1) = K - 1 := IntWalk.i64_in _ (by omega)
      have e3 : IntKind.i64.wrap (K + 1) = K + 1 := IntWalk.i64_in _ (by omega)
      have e4 : IntKind.i64.wrap ((n2 : Int) - 1) = (n2 : Int) - 1 := IntWalk.i64_in _ (by omega)
      go_upto_region 3 with (go_at_call 67; ((with_reducible refine (HSK.out _ HE.out.gr).mono ?_); rintro e w1 ⟨rfl, hg⟩; have HE1 := Lib.hid (HE.out.on hg); clear hg))
      clear p0 p1 p2 p3 p4 HE HSK
      go_wp2_with fail
      go_loopw [6, 7] (fun v i wr => ∃ (d : Nat) (x N : Int), d ≤ cnt ∧ N ≤ (b : Int) + d ∧ (b : Int) + d ≤ N ∧ i = .int .i64 N ∧ v = .int .i64 x ∧ Hid (x = jumpTo xs ms bs k b d) ∧ Hid (Held w wr [boxG w.heap.size 29 #[.int .i64 R, .slice a1 n2 c1, .slice a2 n2 c2, .slice a3 n3 c3, .slice a4 n4 c4]])) (fun _ i _ => n2 + 1 - (intOf i).toNat)
      case atStart => exact ⟨0, 0, _, by omega, by first | omega | (simp; omega), by first | omega | (simp; omega), rfl, rfl, Lib.hid rfl, HE1⟩
      case round =>
        clear HE1
        obtain ⟨d, x, N, hd, N1, N2, rfl, rfl, HX, HF⟩ := hrel
        obtain ⟨p0, p1, p2, p3, p4⟩ := box5 (HF.out.nth 0 rfl)
        have hx0 : 0 ≤ x := by rw [HX.out]; exact jumpTo_nonneg xs ms bs _ _ d
        by_cases hlt : d < cnt
        · have HSN := Lib.hid (HS.out (b + d) N (Int.le_antisymm (by omega) (by omega)) (by omega))
          have HKT := Lib.hid (HB.out (b + d) (by omega))
          have HNX := Lib.hid (jumpTo_next xs ms bs k b d)
          rw [← HX.out, HSV.out] at HNX
          obtain ⟨t, ht⟩ : ∃ t, surf xs ms bs (b + d) = t := ⟨_, rfl⟩
          rw [ht] at HSN HKT HNX
          clear ht
          obtain ⟨D, hD⟩ : ∃ D, s - t = D := ⟨_, rfl⟩
          have e1 : IntKind.i64.wrap (s - t) = D := by rw [hD]; exact IntWalk.i64_in _ (by have := HKB.out; have := HKT.out; omega)
          have e2 : IntKind.i64.wrap (-D) = -D := IntWalk.i64_in _ (by have := HKB.out; have := HKT.out; omega)
          have HD := Lib.hid hD
          have HNX2 := Lib.hid (show jumpTo xs ms bs k b (d + 1) = max x (max D (-D)) by rw [HNX.out, ← HD.out]; rfl)
          clear hD HNX
          go_upto_region 7 with (go_at_call 67; ((with_reducible refine (HSN.out _ HF.out.gr).mono ?_); rintro e w3 ⟨rfl, hg⟩; have HF2 := Lib.hid (HF.out.on hg); clear hg))
          go_wp2_with fail
          go_roundw
          case rel => exact ⟨d + 1, _, N + 1, by omega, by omega, by omega, by go_num, rfl, Lib.hid (by first | (rw [HNX2.out]; done) | (rw [HNX2.out]; omega)), HF2⟩
          case measure => simp [intOf]; omega
        · obtain rfl : d = cnt := by omega
          go_wp2_with fail
          go_ret
          exact ⟨by first | (rw [HX.out, HT.out]; done) | (rw [HX.out, HT.out]; rfl), HF.out.gr⟩

/-- The jump at a leaf of a valid state. -/
theorem jumpAt_is (R : Int) (a1 a2 a3 a4 : Option Addr) (n1 n2 n3 n4 c1 c2 c3 c4 : Nat) (xs : List C3) (ms ts bs : List Int) (k : Nat) (w : World) (h : ReadsS w a1 a2 a3 a4 n1 n2 n3 n4 xs ms ts bs) (h1 : n1 ≤ 1048576) (hs : stOk R xs ms ts bs = true) (hk : k < n1) :
    Calls Try.prog 42 #[.agg #[.int .i64 R, .slice a1 n1 c1, .slice a2 n2 c2, .slice a3 n3 c3, .slice a4 n4 c4], .int .i64 k] w fun e w' => e = .returned (.int .i64 (jumpN xs ms bs k)) ∧ w.grownBy w' none := by
  obtain ⟨-, ⟨p2, p3, p4⟩, -⟩ := stOk_parts hs
  have hl := h.l.len
  have hn2 : n2 = n1 := by rw [← h.m.len, p2, h.l.len]
  subst hn2
  have go := fun (b cnt : Nat) hb hc hT => jumpWalk R a1 a2 a3 a4 n2 n3 n4 c1 c2 c3 c4 xs ms ts bs k b cnt (k : Int) (jumpN xs ms bs k) w h h1 hs hk rfl hb hc hT
  cases k with
  | zero =>
    by_cases h : n2 = 1
    · exact go 0 1 (by omega) (by omega) (jumpTo_only xs ms bs (by omega))
    · exact go 0 2 (by omega) (by omega) (jumpTo_first xs ms bs (by omega))
  | succ k =>
    by_cases h : k + 2 < n2
    · exact go k 3 (by omega) (by omega) (jumpTo_mid xs ms bs k (by omega))
    · exact go k 2 (by omega) (by omega) (jumpTo_last xs ms bs k (by omega))

set_option maxHeartbeats 4000000 in
theorem jumpAtG_is (R : Int) (a1 a2 a3 a4 : Option Addr) (n1 n2 n3 n4 c1 c2 c3 c4 : Nat) (xs : List C3) (ms ts bs : List Int) (i : Int) (w : World) (h : ReadsS w a1 a2 a3 a4 n1 n2 n3 n4 xs ms ts bs) (h1 : n1 ≤ 1048576) (h2 : n2 ≤ 1048576) (h3 : n3 ≤ 1048576) (h4 : n4 ≤ 1048576) (hi : -9223372036854775808 ≤ i ∧ i ≤ 9223372036854775807) :
    Calls Try.prog 14 #[.agg #[.int .i64 R, .slice a1 n1 c1, .slice a2 n2 c2, .slice a3 n3 c3, .slice a4 n4 c4], .int .i64 i] w fun e w' => e = .returned (.int .i64 (jumpG R xs ms ts bs i)) ∧ w.grownBy w' none := by
  have HOK := Lib.hid (show ∀ u, w.grownBy u none → Calls Try.prog 40 #[.agg #[.int .i64 R, .slice a1 n1 c1, .slice a2 n2 c2, .slice a3 n3 c3, .slice a4 n4 c4]] u fun e w' => e = .returned (.bool (stOk R xs ms ts bs)) ∧ u.grownBy w' none from fun u hu => stateOk_is R a1 a2 a3 a4 n1 n2 n3 n4 c1 c2 c3 c4 xs ms ts bs u (h.on hu) h1 h2 h3 h4)
  have HC := Lib.hid (show ∀ k : Nat, stOk R xs ms ts bs = true → k < n1 → ∀ u, w.grownBy u none → Calls Try.prog 42 #[.agg #[.int .i64 R, .slice a1 n1 c1, .slice a2 n2 c2, .slice a3 n3 c3, .slice a4 n4 c4], .int .i64 k] u fun e w' => e = .returned (.int .i64 (jumpN xs ms bs k)) ∧ u.grownBy w' none from fun k hs hk u hu => jumpAt_is R a1 a2 a3 a4 n1 n2 n3 n4 c1 c2 c3 c4 xs ms ts bs k u (h.on hu) h1 hs hk)
  have hl := h.l.len; have hm := h.m.len
  have hni : (n2 : Int) ≤ 1048576 := by omega
  have HE := Lib.hid ((Held.nil w).box 29 #[.int .i64 R, .slice a1 n1 c1, .slice a2 n2 c2, .slice a3 n3 c3, .slice a4 n4 c4])
  clear h h1 h2 h3 h4
  unfold jumpG
  cases hs : stOk R xs ms ts bs with
  | false =>
    rw [if_neg (fun hh => nomatch hh.1)]
    rw [hs] at HOK
    clear hs HC hl hm
    go_enter Try.func14, Try.ntmps14
    go_upto_region 1 with fail
    generalize w.alloc (.cells #[.int .i64 R, .slice a1 n1 c1, .slice a2 n2 c2, .slice a3 n3 c3, .slice a4 n4 c4] 29) = W0 at *
    obtain ⟨p0, p1, p2, p3, p4⟩ := box5 (HE.out.nth 0 rfl)
    go_wp2_with (go_at_call 40; ((with_reducible refine (HOK.out _ HE.out.gr).mono ?_); rintro e w1 ⟨rfl, hg⟩; have HE1 := Lib.hid (HE.out.on hg); clear hg))
    go_ret
    exact ⟨rfl, HE1.out.gr⟩
  | true =>
    rw [hs] at HOK
    have HC2 := Lib.hid fun k => HC.out k hs
    have hn : n2 = n1 := by rw [← hm, (stOk_parts hs).2.1.1, hl]
    rw [hm]
    clear hs HC hl hm
    subst hn
    by_cases h0 : i < 0
    · rw [if_neg (by omega)]
      go_enter Try.func14, Try.ntmps14
      go_upto_region 1 with fail
      generalize w.alloc (.cells #[.int .i64 R, .slice a1 n2 c1, .slice a2 n2 c2, .slice a3 n3 c3, .slice a4 n4 c4] 29) = W0 at *
      obtain ⟨p0, p1, p2, p3, p4⟩ := box5 (HE.out.nth 0 rfl)
      go_wp2_with (go_at_call 40; ((with_reducible refine (HOK.out _ HE.out.gr).mono ?_); rintro e w1 ⟨rfl, hg⟩; have HE1 := Lib.hid (HE.out.on hg); obtain ⟨q0, q1, q2, q3, q4⟩ := box5 (HE1.out.nth 0 rfl); clear hg))
      go_ret
      exact ⟨rfl, HE1.out.gr⟩
    · by_cases hlt : i < n2
      · rw [if_pos ⟨rfl, by omega, hlt⟩]
        obtain ⟨k, rfl⟩ := Int.eq_ofNat_of_zero_le (show 0 ≤ i by omega)
        have HC3 := Lib.hid (HC2.out k (by omega))
        clear HC2
        rw [Int.toNat_natCast]
        generalize jumpN xs ms bs k = v at *
        go_enter Try.func14, Try.ntmps14
        go_upto_region 1 with fail
        generalize w.alloc (.cells #[.int .i64 R, .slice a1 n2 c1, .slice a2 n2 c2, .slice a3 n3 c3, .slice a4 n4 c4] 29) = W0 at *
        obtain ⟨p0, p1, p2, p3, p4⟩ := box5 (HE.out.nth 0 rfl)
        go_wp2_with (first
          | (go_at_call 40; ((with_reducible refine (HOK.out _ HE.out.gr).mono ?_); rintro e w1 ⟨rfl, hg⟩; have HE1 := Lib.hid (HE.out.on hg); obtain ⟨q0, q1, q2, q3, q4⟩ := box5 (HE1.out.nth 0 rfl); clear hg))
          | (go_at_call 42; ((with_reducible refine (HC3.out _ HE1.out.gr).mono ?_); rintro e w2 ⟨rfl, hg⟩; have HE2 := Lib.hid (HE1.out.on hg); clear hg)))
        go_ret
        exact ⟨rfl, HE2.out.gr⟩
      · rw [if_neg (by omega)]
        clear HC2
        go_enter Try.func14, Try.ntmps14
        go_upto_region 1 with fail
        generalize w.alloc (.cells #[.int .i64 R, .slice a1 n2 c1, .slice a2 n2 c2, .slice a3 n3 c3, .slice a4 n4 c4] 29) = W0 at *
        obtain ⟨p0, p1, p2, p3, p4⟩ := box5 (HE.out.nth 0 rfl)
        go_wp2_with (go_at_call 40; ((with_reducible refine (HOK.out _ HE.out.gr).mono ?_); rintro e w1 ⟨rfl, hg⟩; have HE1 := Lib.hid (HE.out.on hg); obtain ⟨q0, q1, q2, q3, q4⟩ := box5 (HE1.out.nth 0 rfl); clear hg))
        go_ret
        exact ⟨rfl, HE1.out.gr⟩

set_option maxHeartbeats 8000000 in
/-- The wish of a leaf of a valid state. -/
theorem wishAt_is (R : Int) (a1 a2 a3 a4 : Option Addr) (n1 n2 n3 n4 c1 c2 c3 c4 : Nat) (xs : List C3) (ms ts bs : List Int) (k : Nat) (hi lo : Int) (w : World) (h : ReadsS w a1 a2 a3 a4 n1 n2 n3 n4 xs ms ts bs) (h1 : n1 ≤ 1048576) (hs : stOk R xs ms ts bs = true) (hk : k < n1) :
    Calls Try.prog 41 #[.agg #[.int .i64 R, .slice a1 n1 c1, .slice a2 n2 c2, .slice a3 n3 c3, .slice a4 n4 c4], .int .i64 k, .int .i64 hi, .int .i64 lo] w fun e w' => e = .returned (.int .i64 (wishAt xs ms bs hi lo k)) ∧ w.grownBy w' none := by
  obtain ⟨-, ⟨p2, p3, p4⟩, -⟩ := stOk_parts hs
  have hl := h.l.len
  have hn2 : n2 = n1 := by rw [← h.m.len, p2, h.l.len]
  subst hn2
  have hki : (k : Int) < n2 := by omega
  have hni : (n2 : Int) ≤ 1048576 := by omega
  obtain ⟨r, l, i, hx⟩ := get_of_lt hl (k := k) hk
  obtain ⟨j, hj⟩ : ∃ j, jumpN xs ms bs k = j := ⟨_, rfl⟩
  have HJ := Lib.hid hj
  have HL := Lib.hid (show lvAt xs k = l by simp [lvAt, hx])
  have HC := Lib.hid (show ∀ u, w.grownBy u none → Calls Try.prog 42 #[.agg #[.int .i64 R, .slice a1 n2 c1, .slice a2 n2 c2, .slice a3 n3 c3, .slice a4 n4 c4], .int .i64 k] u fun e w' => e = .returned (.int .i64 j) ∧ u.grownBy w' none from fun u hu => hj ▸ jumpAt_is R a1 a2 a3 a4 n2 n2 n3 n4 c1 c2 c3 c4 xs ms ts bs k u (h.on hu) h1 hs hk)
  have HRL := Lib.hid h.l
  have HX := Lib.hid hx
  have HE := Lib.hid ((Held.nil w).box 29 #[.int .i64 R, .slice a1 n2 c1, .slice a2 n2 c2, .slice a3 n3 c3, .slice a4 n4 c4])
  clear h hs p2 p3 p4 hl hj hx h1 hk
  by_cases d1' : hi < j
  · by_cases d2' : l < 4
    · have hA : hi < j := d1'
      have hB : l < 4 := d2'
      rw [show wishAt xs ms bs hi lo k = 1 by unfold wishAt; rw [HJ.out, HL.out]; rw [if_pos ⟨hA, hB⟩]]
      go_enter Try.func41, Try.ntmps41
      go_upto_region 1 with fail
      generalize w.alloc (.cells #[.int .i64 R, .slice a1 n2 c1, .slice a2 n2 c2, .slice a3 n3 c3, .slice a4 n4 c4] 29) = W0 at *
      obtain ⟨p0, p1, p2, p3, p4⟩ := box5 (HE.out.nth 0 rfl)
      obtain ⟨g1, rfl, -, -, d1, -⟩ := (HRL.out.on HE.out.gr).at_ k _ HX.out
      dsimp only at d1
      have hgg : W0.grownBy W0 none := grown_refl _
      have hw0 : w.grownBy W0 none := HE.out.gr
      have hw1 : w.grownBy W0.drew none := Cell.g_drew hw0
      go_region_held3 (fun w' => w'.cell? ⟨w.heap.size, 0, none⟩ = some (.int .i64 R) ∧ w'.cell? ⟨w.heap.size, 1, none⟩ = some (.slice (some ⟨g1, 0, none⟩) n2 c1) ∧ w'.cell? ⟨w.heap.size, 2, none⟩ = some (.slice a2 n2 c2) ∧ w'.cell? ⟨w.heap.size, 3, none⟩ = some (.slice a3 n3 c3) ∧ w'.cell? ⟨w.heap.size, 4, none⟩ = some (.slice a4 n4 c4) ∧ w'.cell? ⟨g1, k * 3 + 1, none⟩ = some (.int .i64 l) ∧ w.grownBy w' none)
        ((go_split_ands; refine ⟨?_, ?_, ?_, ?_, ?_, ?_, ?_⟩ <;> first | assumption | exact hgc.cell (by assumption) (by simp) | exact Cell.grown_trans (by assumption) hgc | exact Cell.g_drew (by assumption)))
        (first
          | (go_at_call 42; ((with_reducible refine (HC.out _ (by first | assumption | (go_split_ands; assumption))).mono ?_); rintro e w'' ⟨rfl, hgc⟩)))
      go_split_ands
      go_wp2_with fail
      go_ret
      exact ⟨rfl, by assumption⟩
    · by_cases d3 : j < lo
      · have d4 : 0 < l := by omega
        rw [show wishAt xs ms bs hi lo k = -1 by unfold wishAt; rw [HJ.out, HL.out]; rw [if_neg (by omega), if_pos ⟨by omega, by omega⟩]]
        go_enter Try.func41, Try.ntmps41
        go_upto_region 1 with fail
        generalize w.alloc (.cells #[.int .i64 R, .slice a1 n2 c1, .slice a2 n2 c2, .slice a3 n3 c3, .slice a4 n4 c4] 29) = W0 at *
        obtain ⟨p0, p1, p2, p3, p4⟩ := box5 (HE.out.nth 0 rfl)
        obtain ⟨g1, rfl, -, -, d1, -⟩ := (HRL.out.on HE.out.gr).at_ k _ HX.out
        dsimp only at d1
        have hgg : W0.grownBy W0 none := grown_refl _
        have hw0 : w.grownBy W0 none := HE.out.gr
        have hw1 : w.grownBy W0.drew none := Cell.g_drew hw0
        go_region_held3 (fun w' => w'.cell? ⟨w.heap.size, 0, none⟩ = some (.int .i64 R) ∧ w'.cell? ⟨w.heap.size, 1, none⟩ = some (.slice (some ⟨g1, 0, none⟩) n2 c1) ∧ w'.cell? ⟨w.heap.size, 2, none⟩ = some (.slice a2 n2 c2) ∧ w'.cell? ⟨w.heap.size, 3, none⟩ = some (.slice a3 n3 c3) ∧ w'.cell? ⟨w.heap.size, 4, none⟩ = some (.slice a4 n4 c4) ∧ w'.cell? ⟨g1, k * 3 + 1, none⟩ = some (.int .i64 l) ∧ w.grownBy w' none)
          ((go_split_ands; refine ⟨?_, ?_, ?_, ?_, ?_, ?_, ?_⟩ <;> first | assumption | exact hgc.cell (by assumption) (by simp) | exact Cell.grown_trans (by assumption) hgc | exact Cell.g_drew (by assumption)))
          (first
            | (go_at_call 42; ((with_reducible refine (HC.out _ (by first | assumption | (go_split_ands; assumption))).mono ?_); rintro e w'' ⟨rfl, hgc⟩)))
        go_split_ands
        go_wp2_with fail
        go_ret
        exact ⟨rfl, by assumption⟩
      · have d4 : 0 < l := by omega
        rw [show wishAt xs ms bs hi lo k = 0 by unfold wishAt; rw [HJ.out, HL.out]; rw [if_neg (by omega), if_neg (by omega)]]
        go_enter Try.func41, Try.ntmps41
        go_upto_region 1 with fail
        generalize w.alloc (.cells #[.int .i64 R, .slice a1 n2 c1, .slice a2 n2 c2, .slice a3 n3 c3, .slice a4 n4 c4] 29) = W0 at *
        obtain ⟨p0, p1, p2, p3, p4⟩ := box5 (HE.out.nth 0 rfl)
        obtain ⟨g1, rfl, -, -, d1, -⟩ := (HRL.out.on HE.out.gr).at_ k _ HX.out
        dsimp only at d1
        have hgg : W0.grownBy W0 none := grown_refl _
        have hw0 : w.grownBy W0 none := HE.out.gr
        have hw1 : w.grownBy W0.drew none := Cell.g_drew hw0
        go_region_held3 (fun w' => w'.cell? ⟨w.heap.size, 0, none⟩ = some (.int .i64 R) ∧ w'.cell? ⟨w.heap.size, 1, none⟩ = some (.slice (some ⟨g1, 0, none⟩) n2 c1) ∧ w'.cell? ⟨w.heap.size, 2, none⟩ = some (.slice a2 n2 c2) ∧ w'.cell? ⟨w.heap.size, 3, none⟩ = some (.slice a3 n3 c3) ∧ w'.cell? ⟨w.heap.size, 4, none⟩ = some (.slice a4 n4 c4) ∧ w'.cell? ⟨g1, k * 3 + 1, none⟩ = some (.int .i64 l) ∧ w.grownBy w' none)
          ((go_split_ands; refine ⟨?_, ?_, ?_, ?_, ?_, ?_, ?_⟩ <;> first | assumption | exact hgc.cell (by assumption) (by simp) | exact Cell.grown_trans (by assumption) hgc | exact Cell.g_drew (by assumption)))
          (first
            | (go_at_call 42; ((with_reducible refine (HC.out _ (by first | assumption | (go_split_ands; assumption))).mono ?_); rintro e w'' ⟨rfl, hgc⟩)))
        go_split_ands
        go_wp2_with fail
        go_ret
        exact ⟨rfl, by assumption⟩
  · by_cases d3 : j < lo
    · by_cases d4 : 0 < l
      · have d5 := d4
        rw [show wishAt xs ms bs hi lo k = -1 by unfold wishAt; rw [HJ.out, HL.out]; rw [if_neg (by omega), if_pos ⟨by omega, by omega⟩]]
        go_enter Try.func41, Try.ntmps41
        go_upto_region 1 with fail
        generalize w.alloc (.cells #[.int .i64 R, .slice a1 n2 c1, .slice a2 n2 c2, .slice a3 n3 c3, .slice a4 n4 c4] 29) = W0 at *
        obtain ⟨p0, p1, p2, p3, p4⟩ := box5 (HE.out.nth 0 rfl)
        obtain ⟨g1, rfl, -, -, d1, -⟩ := (HRL.out.on HE.out.gr).at_ k _ HX.out
        dsimp only at d1
        have hgg : W0.grownBy W0 none := grown_refl _
        have hw0 : w.grownBy W0 none := HE.out.gr
        have hw1 : w.grownBy W0.drew none := Cell.g_drew hw0
        go_region_held3 (fun w' => w'.cell? ⟨w.heap.size, 0, none⟩ = some (.int .i64 R) ∧ w'.cell? ⟨w.heap.size, 1, none⟩ = some (.slice (some ⟨g1, 0, none⟩) n2 c1) ∧ w'.cell? ⟨w.heap.size, 2, none⟩ = some (.slice a2 n2 c2) ∧ w'.cell? ⟨w.heap.size, 3, none⟩ = some (.slice a3 n3 c3) ∧ w'.cell? ⟨w.heap.size, 4, none⟩ = some (.slice a4 n4 c4) ∧ w'.cell? ⟨g1, k * 3 + 1, none⟩ = some (.int .i64 l) ∧ w.grownBy w' none)
          ((go_split_ands; refine ⟨?_, ?_, ?_, ?_, ?_, ?_, ?_⟩ <;> first | assumption | exact hgc.cell (by assumption) (by simp) | exact Cell.grown_trans (by assumption) hgc | exact Cell.g_drew (by assumption)))
          (first
            | (go_at_call 42; ((with_reducible refine (HC.out _ (by first | assumption | (go_split_ands; assumption))).mono ?_); rintro e w'' ⟨rfl, hgc⟩)))
        go_split_ands
        go_wp2_with fail
        go_ret
        exact ⟨rfl, by assumption⟩
      · have d5 := d4
        rw [show wishAt xs ms bs hi lo k = 0 by unfold wishAt; rw [HJ.out, HL.out]; rw [if_neg (by omega), if_neg (by omega)]]
        go_enter Try.func41, Try.ntmps41
        go_upto_region 1 with fail
        generalize w.alloc (.cells #[.int .i64 R, .slice a1 n2 c1, .slice a2 n2 c2, .slice a3 n3 c3, .slice a4 n4 c4] 29) = W0 at *
        obtain ⟨p0, p1, p2, p3, p4⟩ := box5 (HE.out.nth 0 rfl)
        obtain ⟨g1, rfl, -, -, d1, -⟩ := (HRL.out.on HE.out.gr).at_ k _ HX.out
        dsimp only at d1
        have hgg : W0.grownBy W0 none := grown_refl _
        have hw0 : w.grownBy W0 none := HE.out.gr
        have hw1 : w.grownBy W0.drew none := Cell.g_drew hw0
        go_region_held3 (fun w' => w'.cell? ⟨w.heap.size, 0, none⟩ = some (.int .i64 R) ∧ w'.cell? ⟨w.heap.size, 1, none⟩ = some (.slice (some ⟨g1, 0, none⟩) n2 c1) ∧ w'.cell? ⟨w.heap.size, 2, none⟩ = some (.slice a2 n2 c2) ∧ w'.cell? ⟨w.heap.size, 3, none⟩ = some (.slice a3 n3 c3) ∧ w'.cell? ⟨w.heap.size, 4, none⟩ = some (.slice a4 n4 c4) ∧ w'.cell? ⟨g1, k * 3 + 1, none⟩ = some (.int .i64 l) ∧ w.grownBy w' none)
          ((go_split_ands; refine ⟨?_, ?_, ?_, ?_, ?_, ?_, ?_⟩ <;> first | assumption | exact hgc.cell (by assumption) (by simp) | exact Cell.grown_trans (by assumption) hgc | exact Cell.g_drew (by assumption)))
          (first
            | (go_at_call 42; ((with_reducible refine (HC.out _ (by first | assumption | (go_split_ands; assumption))).mono ?_); rintro e w'' ⟨rfl, hgc⟩)))
        go_split_ands
        go_wp2_with fail
        go_ret
        exact ⟨rfl, by assumption⟩
    · have d5 := d3
      rw [show wishAt xs ms bs hi lo k = 0 by unfold wishAt; rw [HJ.out, HL.out]; rw [if_neg (by omega), if_neg (by omega)]]
      go_enter Try.func41, Try.ntmps41
      go_upto_region 1 with fail
      generalize w.alloc (.cells #[.int .i64 R, .slice a1 n2 c1, .slice a2 n2 c2, .slice a3 n3 c3, .slice a4 n4 c4] 29) = W0 at *
      obtain ⟨p0, p1, p2, p3, p4⟩ := box5 (HE.out.nth 0 rfl)
      obtain ⟨g1, rfl, -, -, d1, -⟩ := (HRL.out.on HE.out.gr).at_ k _ HX.out
      dsimp only at d1
      have hgg : W0.grownBy W0 none := grown_refl _
      have hw0 : w.grownBy W0 none := HE.out.gr
      have hw1 : w.grownBy W0.drew none := Cell.g_drew hw0
      go_region_held3 (fun w' => w'.cell? ⟨w.heap.size, 0, none⟩ = some (.int .i64 R) ∧ w'.cell? ⟨w.heap.size, 1, none⟩ = some (.slice (some ⟨g1, 0, none⟩) n2 c1) ∧ w'.cell? ⟨w.heap.size, 2, none⟩ = some (.slice a2 n2 c2) ∧ w'.cell? ⟨w.heap.size, 3, none⟩ = some (.slice a3 n3 c3) ∧ w'.cell? ⟨w.heap.size, 4, none⟩ = some (.slice a4 n4 c4) ∧ w'.cell? ⟨g1, k * 3 + 1, none⟩ = some (.int .i64 l) ∧ w.grownBy w' none)
        ((go_split_ands; refine ⟨?_, ?_, ?_, ?_, ?_, ?_, ?_⟩ <;> first | assumption | exact hgc.cell (by assumption) (by simp) | exact Cell.grown_trans (by assumption) hgc | exact Cell.g_drew (by assumption)))
        (first
          | (go_at_call 42; ((with_reducible refine (HC.out _ (by first | assumption | (go_split_ands; assumption))).mono ?_); rintro e w'' ⟨rfl, hgc⟩)))
      go_split_ands
      go_wp2_with fail
      go_ret
      exact ⟨rfl, by assumption⟩

set_option maxHeartbeats 8000000 in
theorem wishes_is (R : Int) (a1 a2 a3 a4 : Option Addr) (n1 n2 n3 n4 c1 c2 c3 c4 : Nat) (xs : List C3) (ms ts bs : List Int) (hi lo : Int) (w : World) (h : ReadsS w a1 a2 a3 a4 n1 n2 n3 n4 xs ms ts bs) (h1 : n1 ≤ 1048576) (h2 : n2 ≤ 1048576) (h3 : n3 ≤ 1048576) (h4 : n4 ≤ 1048576) :
    Calls Try.prog 13 #[.agg #[.int .i64 R, .slice a1 n1 c1, .slice a2 n2 c2, .slice a3 n3 c3, .slice a4 n4 c4], .int .i64 hi, .int .i64 lo] w (GivesI (wishG R xs ms ts bs hi lo) w) := by
  have HOK := Lib.hid (show ∀ u, w.grownBy u none → Calls Try.prog 40 #[.agg #[.int .i64 R, .slice a1 n1 c1, .slice a2 n2 c2, .slice a3 n3 c3, .slice a4 n4 c4]] u fun e w' => e = .returned (.bool (stOk R xs ms ts bs)) ∧ u.grownBy w' none from fun u hu => stateOk_is R a1 a2 a3 a4 n1 n2 n3 n4 c1 c2 c3 c4 xs ms ts bs u (h.on hu) h1 h2 h3 h4)
  have HE := Lib.hid ((Held.nil w).box 29 #[.int .i64 R, .slice a1 n1 c1, .slice a2 n2 c2, .slice a3 n3 c3, .slice a4 n4 c4])
  unfold wishG
  cases hs : stOk R xs ms ts bs with
  | false =>
    rw [hs] at HOK
    clear hs h h1 h2 h3 h4
    go_enter Try.func13, Try.ntmps13
    go_upto_region 1 with fail
    generalize w.alloc (.cells #[.int .i64 R, .slice a1 n1 c1, .slice a2 n2 c2, .slice a3 n3 c3, .slice a4 n4 c4] 29) = W0 at *
    obtain ⟨p0, p1, p2, p3, p4⟩ := box5 (HE.out.nth 0 rfl)
    go_wp2_with (go_at_call 40; ((with_reducible refine (HOK.out _ HE.out.gr).mono ?_); rintro e w1 ⟨rfl, hg⟩; have HE1 := Lib.hid (HE.out.on hg); clear hg))
    go_ret
    exact ⟨none, 0, rfl, nil_own _ _ _ _, HE1.out.gr⟩
  | true =>
    rw [hs] at HOK
    rw [if_pos rfl]
    have hl := h.l.len; have hm := h.m.len
    have hn : n2 = n1 := by rw [← hm, (stOk_parts hs).2.1.1, hl]
    subst hn
    have HC := Lib.hid fun (k : Nat) (hk : k < n2) (u : World) (hu : w.grownBy u none) => wishAt_is R a1 a2 a3 a4 n2 n2 n3 n4 c1 c2 c3 c4 xs ms ts bs k hi lo u (h.on hu) h1 hs hk
    have hni : (n2 : Int) ≤ 1048576 := by omega
    have HWW := Lib.hid (show wishes xs ms bs hi lo ms.length = gen n2 (wishAt xs ms bs hi lo) by rw [hm]; rfl)
    clear hs h h3 h4 hl hm h2
    go_enter Try.func13, Try.ntmps13
    go_upto_region 1 with fail
    generalize w.alloc (.cells #[.int .i64 R, .slice a1 n2 c1, .slice a2 n2 c2, .slice a3 n3 c3, .slice a4 n4 c4] 29) = W0 at *
    obtain ⟨p0, p1, p2, p3, p4⟩ := box5 (HE.out.nth 0 rfl)
    go_upto_region 3 with (go_at_call 40; ((with_reducible refine (HOK.out _ HE.out.gr).mono ?_); rintro e w1 ⟨rfl, hg⟩; have HE1 := Lib.hid (HE.out.on hg); obtain ⟨q0, q1, q2, q3, q4⟩ := box5 (HE1.out.nth 0 rfl); clear hg))
    clear p0 p1 p2 p3 p4 HE HOK
    have hmk := makeRow_is w1 n2 h1
    go_wp2_with fail
    have HL := Lib.hid (HE1.out.row (World.grownBy_alloc w1 (.cells (madeCells #[.int .i64 0] n2) 3) none) (ownMade w1 n2 h1 w1.heap.size (Nat.le_refl _)))
    rw [zeros_upto n2 (wishAt xs ms bs hi lo)] at HL
    obtain ⟨g, hg⟩ : ∃ g, g = w1.heap.size := ⟨_, rfl⟩
    rw [← hg] at HL ⊢
    clear hg hmk q0 q1 q2 q3 q4 HE1 h1
    generalize w1.alloc (.cells (madeCells #[.int .i64 0] n2) 3) = W1 at *
    go_loopw [18] (fun i wr => ∃ j : Nat, (j : Int) ≤ n2 ∧ i = .int .i64 j ∧ Hid (Held w wr [boxG w.heap.size 29 #[.int .i64 R, .slice a1 n2 c1, .slice a2 n2 c2, .slice a3 n3 c3, .slice a4 n4 c4], rowG 3 1 (.slice (some ⟨g, 0, none⟩) n2 n2) n2 (vals (gen n2 (upto j (wishAt xs ms bs hi lo) fun _ => 0)))])) (fun i _ => n2 - (intOf i).toNat)
    case atStart => exact ⟨0, by omega, rfl, HL⟩
    case round =>
      clear HL
      obtain ⟨j, hj, rfl, HF⟩ := hrel
      obtain ⟨p0, p1, p2, p3, p4⟩ := box5 (HF.out.nth 0 rfl)
      by_cases hlt : (j : Int) < n2
      · have HK := Lib.hid (show j < n2 by omega)
        have HD := Lib.hid (HC.out j HK.out)
        have HST := Lib.hid (show ∀ u, Held w u _ → (∃ z, u.cell? ⟨g, j, none⟩ = some z) ∧ u.frozen? ⟨g, j, none⟩ = false from fun u (hu : Held w u (gsOf HF.out)) => by
          obtain ⟨g', z, e, -, m2, u2⟩ := own_cellI (hu.nth 1 rfl) HK.out
          cases e
          exact ⟨⟨_, m2⟩, u2⟩)
        have HT := Lib.hid (upto_set (n := n2) (k := j) (wishAt xs ms bs hi lo) fun _ => 0)
        generalize wishAt xs ms bs hi lo j = V at HD HT
        go_wp2_with (go_at_call 41; ((with_reducible refine (HD.out _ HF.out.gr).mono ?_); rintro e w4 ⟨rfl, hg⟩; have HF2 := Lib.hid (HF.out.on hg); obtain ⟨⟨z, m2⟩, u2⟩ := HST.out _ HF2.out; clear hg))
        go_roundw
        case rel => exact ⟨j + 1, by omega, by go_num, by have q := State.Held.storeRow HF2.out 1 rfl j V; rw [HT.out] at q; exact Lib.hid q⟩
        case measure => simp [intOf]; omega
      · obtain rfl : n2 = j := by omega
        go_wp2_with fail
        go_ret
        have hr := HF.out.own 1 rfl
        rw [upto_all] at hr
        have hlen : (gen n2 (wishAt xs ms bs hi lo)).length = n2 := gen_len _ _
        rw [HWW.out]
        refine ⟨some ⟨g, 0, none⟩, n2, ?_, ?_, HF.out.gr⟩
        · rw [hlen]; rfl
        · rw [hlen]; exact hr

set_option maxHeartbeats 4000000 in
theorem countWishes_is (a : Option Addr) (n c : Nat) (l : List Int) (v : Int) (w : World) (h : ReadsI w a n l) (hn : n ≤ 1048576) :
    Calls Try.prog 15 #[.slice a n c, .int .i64 v] w fun e w' => e = .returned (.int .i64 (cntW l v)) ∧ w.grownBy w' none := by
  have HR := Lib.hid h
  have hni : (n : Int) ≤ 1048576 := by omega
  clear h
  go_enter Try.func15, Try.ntmps15
  go_wp2_with fail
  go_loopw [5, 10] (fun x i wr => ∃ (k : Nat) (y : Int), (k : Int) ≤ n ∧ i = .int .i64 k ∧ x = .int .i64 y ∧ 0 ≤ y ∧ y ≤ k ∧ Hid (y = cntW (l.take k) v) ∧ Hid (w.grownBy wr none)) (fun _ i _ => n - (intOf i).toNat)
  case atStart => exact ⟨0, 0, by omega, rfl, rfl, by omega, by omega, Lib.hid rfl, Lib.hid (grown_refl _)⟩
  case round =>
    obtain ⟨k, y, hk, rfl, rfl, y0, y1, HY, HG⟩ := hrel
    by_cases hlt : (k : Int) < n
    · obtain ⟨x, hx⟩ := getI HR.out.len (k := k) (by omega)
      obtain ⟨g2, o2, rfl, d0⟩ := (HR.out.on HG.out).at_ k _ hx
      have HT := Lib.hid (cntW_take v hx)
      clear hx
      by_cases hz : x = v
      · subst hz
        go_wp2_with fail
        go_roundw
        case rel => exact ⟨k + 1, y + 1, by omega, by go_num, by first | rfl | go_num, by omega, by omega, Lib.hid (by rw [HT.out, if_pos rfl, HY.out]), HG⟩
        case measure => simp [intOf]; omega
      · go_wp2_with fail
        go_roundw
        case rel => exact ⟨k + 1, y, by omega, by go_num, rfl, by omega, by omega, Lib.hid (by rw [HT.out, if_neg hz, HY.out, Int.add_zero]), HG⟩
        case measure => simp [intOf]; omega
    · obtain rfl : n = k := by omega
      go_wp2_with fail
      go_ret
      exact ⟨by rw [HY.out, List.take_of_length_le (by rw [HR.out.len]; omega)]; rfl, HG.out⟩

set_option maxHeartbeats 4000000 in
theorem costOf_is (R : Int) (a : Option Addr) (n c : Nat) (xs : List C3) (w : World) (hr : Reads w a n xs) (hn : n ≤ 1048576) :
    Calls Try.prog 18 #[.agg #[.int .i64 R, .slice a n c]] w fun e w' => e = .returned (.int .i64 (costG R xs)) ∧ w.grownBy w' none := by
  have HR := Lib.hid hr; have HN := Lib.hid hn
  clear hr hn
  have HB := Lib.hid (boxM_new w 26 R (.slice a n c))
  have HG := Lib.hid (g_alloc (grown_refl w) (.cells #[.int .i64 R, .slice a n c] 26))
  go_enter Try.func18, Try.ntmps18
  go_upto_region 1 with fail
  generalize w.alloc (.cells #[.int .i64 R, .slice a n c] 26) = W0 at *
  go_wp2_with fail
  go_loopw [3, 5] (fun v i wr => ∃ (j : Nat) (x : Int), j ≤ 5 ∧ i = .int .i64 j ∧ v = .int .i64 x ∧ 0 ≤ x ∧ x ≤ 10240 ∧ Hid (x = costT R xs j) ∧ Hid (w.grownBy wr none) ∧ Hid (BoxM wr w.heap.size R (.slice a n c))) (fun _ i _ => 5 - (intOf i).toNat)
  case atStart => exact ⟨0, 0, by omega, rfl, rfl, by omega, by omega, Lib.hid rfl, HG, HB⟩
  case round =>
    clear HG HB
    obtain ⟨j, x, hj, rfl, rfl, x0, x1, HX, HG, HB⟩ := hrel
    have b0 := HB.out.c0; have b1 := HB.out.c1
    have XR := Lib.hid (costT_range R xs j hj)
    rcases (show j = 0 ∨ j = 1 ∨ j = 2 ∨ j = 3 ∨ j = 4 ∨ j = 5 by omega) with rfl | rfl | rfl | rfl | rfl | rfl
    · have hx2 : x ≤ 0 := by have := XR.out; have := HX.out; omega
      obtain ⟨d, hd⟩ : ∃ d, countOf R xs 0 = d := ⟨_, rfl⟩
      have HC := Lib.hid (show ∀ u, Reads u a n xs → Calls Try.prog 45 #[.agg #[.int .i64 R, .slice a n c], .int .i64 0] u fun e w' => e = .returned (.int .i64 d) ∧ u.grownBy w' none from fun u hu => hd ▸ countFaces_is R 0 a n c xs u hu HN.out)
      have hdr := countOf_small R xs 0
      rw [hd] at hdr
      have HT := Lib.hid (show costT R xs 1 = x + d * 1 by rw [costT_next, ← hd, HX.out]; rfl)
      clear hd
      go_wp2_with (go_at_call 45; ((with_reducible refine (HC.out _ (HR.out.on HG.out)).mono ?_); rintro e w2 ⟨rfl, hg⟩; have HG2 := Lib.hid (grown_trans HG.out hg); have HB2 := Lib.hid (HB.out.on hg); clear hg))
      go_roundw
      case rel => exact ⟨1, x + d * 1, by omega, by first | rfl | go_num, by first | rfl | go_num | (exact congrArg (fun z => Value.int .i64 z) (by omega)), by omega, by omega, Lib.hid HT.out.symm, HG2, HB2⟩
      case measure => simp [intOf]
    · have hx2 : x ≤ 2048 := by have := XR.out; have := HX.out; omega
      obtain ⟨d, hd⟩ : ∃ d, countOf R xs 1 = d := ⟨_, rfl⟩
      have HC := Lib.hid (show ∀ u, Reads u a n xs → Calls Try.prog 45 #[.agg #[.int .i64 R, .slice a n c], .int .i64 1] u fun e w' => e = .returned (.int .i64 d) ∧ u.grownBy w' none from fun u hu => hd ▸ countFaces_is R 1 a n c xs u hu HN.out)
      have hdr := countOf_small R xs 1
      rw [hd] at hdr
      have HT := Lib.hid (show costT R xs 2 = x + d * 2 by rw [costT_next, ← hd, HX.out]; rfl)
      clear hd
      go_wp2_with (go_at_call 45; ((with_reducible refine (HC.out _ (HR.out.on HG.out)).mono ?_); rintro e w2 ⟨rfl, hg⟩; have HG2 := Lib.hid (grown_trans HG.out hg); have HB2 := Lib.hid (HB.out.on hg); clear hg))
      go_roundw
      case rel => exact ⟨2, x + d * 2, by omega, by first | rfl | go_num, by first | rfl | go_num | (exact congrArg (fun z => Value.int .i64 z) (by omega)), by omega, by omega, Lib.hid HT.out.symm, HG2, HB2⟩
      case measure => simp [intOf]
    · have hx2 : x ≤ 4096 := by have := XR.out; have := HX.out; omega
      obtain ⟨d, hd⟩ : ∃ d, countOf R xs 2 = d := ⟨_, rfl⟩
      have HC := Lib.hid (show ∀ u, Reads u a n xs → Calls Try.prog 45 #[.agg #[.int .i64 R, .slice a n c], .int .i64 2] u fun e w' => e = .returned (.int .i64 d) ∧ u.grownBy w' none from fun u hu => hd ▸ countFaces_is R 2 a n c xs u hu HN.out)
      have hdr := countOf_small R xs 2
      rw [hd] at hdr
      have HT := Lib.hid (show costT R xs 3 = x + d * 4 by rw [costT_next, ← hd, HX.out]; rfl)
      clear hd
      go_wp2_with (go_at_call 45; ((with_reducible refine (HC.out _ (HR.out.on HG.out)).mono ?_); rintro e w2 ⟨rfl, hg⟩; have HG2 := Lib.hid (grown_trans HG.out hg); have HB2 := Lib.hid (HB.out.on hg); clear hg))
      go_roundw
      case rel => exact ⟨3, x + d * 4, by omega, by first | rfl | go_num, by first | rfl | go_num | (exact congrArg (fun z => Value.int .i64 z) (by omega)), by omega, by omega, Lib.hid HT.out.symm, HG2, HB2⟩
      case measure => simp [intOf]
    · have hx2 : x ≤ 6144 := by have := XR.out; have := HX.out; omega
      obtain ⟨d, hd⟩ : ∃ d, countOf R xs 3 = d := ⟨_, rfl⟩
      have HC := Lib.hid (show ∀ u, Reads u a n xs → Calls Try.prog 45 #[.agg #[.int .i64 R, .slice a n c], .int .i64 3] u fun e w' => e = .returned (.int .i64 d) ∧ u.grownBy w' none from fun u hu => hd ▸ countFaces_is R 3 a n c xs u hu HN.out)
      have hdr := countOf_small R xs 3
      rw [hd] at hdr
      have HT := Lib.hid (show costT R xs 4 = x + d * 8 by rw [costT_next, ← hd, HX.out]; rfl)
      clear hd
      go_wp2_with (go_at_call 45; ((with_reducible refine (HC.out _ (HR.out.on HG.out)).mono ?_); rintro e w2 ⟨rfl, hg⟩; have HG2 := Lib.hid (grown_trans HG.out hg); have HB2 := Lib.hid (HB.out.on hg); clear hg))
      go_roundw
      case rel => exact ⟨4, x + d * 8, by omega, by first | rfl | go_num, by first | rfl | go_num | (exact congrArg (fun z => Value.int .i64 z) (by omega)), by omega, by omega, Lib.hid HT.out.symm, HG2, HB2⟩
      case measure => simp [intOf]
    · have hx2 : x ≤ 8192 := by have := XR.out; have := HX.out; omega
      obtain ⟨d, hd⟩ : ∃ d, countOf R xs 4 = d := ⟨_, rfl⟩
      have HC := Lib.hid (show ∀ u, Reads u a n xs → Calls Try.prog 45 #[.agg #[.int .i64 R, .slice a n c], .int .i64 4] u fun e w' => e = .returned (.int .i64 d) ∧ u.grownBy w' none from fun u hu => hd ▸ countFaces_is R 4 a n c xs u hu HN.out)
      have hdr := countOf_small R xs 4
      rw [hd] at hdr
      have HT := Lib.hid (show costT R xs 5 = x + d * 16 by rw [costT_next, ← hd, HX.out]; rfl)
      clear hd
      go_wp2_with (go_at_call 45; ((with_reducible refine (HC.out _ (HR.out.on HG.out)).mono ?_); rintro e w2 ⟨rfl, hg⟩; have HG2 := Lib.hid (grown_trans HG.out hg); have HB2 := Lib.hid (HB.out.on hg); clear hg))
      go_roundw
      case rel => exact ⟨5, x + d * 16, by omega, by first | rfl | go_num, by first | rfl | go_num | (exact congrArg (fun z => Value.int .i64 z) (by omega)), by omega, by omega, Lib.hid HT.out.symm, HG2, HB2⟩
      case measure => simp [intOf]
    · go_wp2_with fail
      go_ret
      exact ⟨by first | (rw [HX.out, costT_all]; done) | (rw [HX.out, costT_all]; rfl), HG.out⟩

set_option maxHeartbeats 4000000 in
theorem savedBy_is (R : Int) (a : Option Addr) (n c : Nat) (xs : List C3) (w : World) (hr : Reads w a n xs) (hn : n ≤ 1048576) :
    Calls Try.prog 20 #[.agg #[.int .i64 R, .slice a n c]] w fun e w' => e = .returned (.int .i64 (savedG R xs)) ∧ w.grownBy w' none := by
  have HR := Lib.hid hr; have HN := Lib.hid hn
  clear hr hn
  have HOK := Lib.hid (show ∀ u, Reads u a n xs → Calls Try.prog 49 #[.agg #[.int .i64 R, .slice a n c]] u fun e w' => e = .returned (.bool (meshOk R xs)) ∧ u.grownBy w' none from fun u hu => meshOk_is R a n c xs u hu HN.out)
  have HB := Lib.hid (boxM_new w 26 R (.slice a n c))
  have HG := Lib.hid (g_alloc (grown_refl w) (.cells #[.int .i64 R, .slice a n c] 26))
  unfold savedG
  cases hm : meshOk R xs with
  | false =>
    rw [hm] at HOK
    clear hm
    go_enter Try.func20, Try.ntmps20
    go_upto_region 1 with fail
    generalize w.alloc (.cells #[.int .i64 R, .slice a n c] 26) = W0 at *
    have b0 := HB.out.c0; have b1 := HB.out.c1
    go_wp2_with (go_at_call 49; ((with_reducible refine (HOK.out _ (HR.out.on HG.out)).mono ?_); rintro e w1 ⟨rfl, hg⟩; have HG1 := Lib.hid (grown_trans HG.out hg); clear hg))
    go_ret
    exact ⟨rfl, HG1.out⟩
  | true =>
    rw [hm] at HOK
    rw [if_pos rfl]
    have hn4 : newOk R 4 = true := by
      obtain ⟨r0, r1, -⟩ : 1 ≤ R ∧ R ≤ 8 ∧ run xs = some (R * 16) := of_decide_eq_true hm
      exact decide_eq_true ⟨⟨r0, r1⟩, by omega, by omega⟩
    clear hm
    have HNW := Lib.hid fun u => new_is R 4 u
    obtain ⟨C, hC⟩ : ∃ C, costG (newR R 4) (newC R 4) = C := ⟨_, rfl⟩
    obtain ⟨D, hD⟩ : ∃ D, costG R xs = D := ⟨_, rfl⟩
    have HC := Lib.hid hC; have HD := Lib.hid hD
    have cb := costG_range (newR R 4) (newC R 4)
    have db := costG_range R xs
    rw [hC] at cb ⊢
    rw [hD] at db ⊢
    clear hC hD
    go_enter Try.func20, Try.ntmps20
    go_upto_region 1 with fail
    generalize w.alloc (.cells #[.int .i64 R, .slice a n c] 26) = W0 at *
    have b0 := HB.out.c0; have b1 := HB.out.c1
    go_upto_region 3 with (go_at_call 49; ((with_reducible refine (HOK.out _ (HR.out.on HG.out)).mono ?_); rintro e w1 ⟨rfl, hg⟩; have HG1 := Lib.hid (grown_trans HG.out hg); have HB1 := Lib.hid (HB.out.on hg); clear hg))
    clear b0 b1 HB HG HOK
    have b0 := HB1.out.c0; have b1 := HB1.out.c1
    go_upto_region 4 with (go_at_call 50; ((with_reducible refine (HNW.out _).mono ?_); rintro e w2 ⟨v, rfl, ho, hg⟩; obtain ⟨q, d, rfl⟩ := own_form ho; have HO := Lib.hid ho; have HG2 := Lib.hid (grown_trans HG1.out hg); have HB2 := Lib.hid (HB1.out.on hg); clear hg ho))
    clear b0 b1 HB1
    have HR2 := Lib.hid (own_reads HO.out)
    have hl2 := (newC_len (R := R) (L := 4))
    have hbb : w.heap.size < w2.heap.size := HB2.out.lt
    have HB3 := Lib.hid (boxM_new w2 26 (newR R 4) (.slice q (newC R 4).length d))
    have HM3 := Lib.hid (HB2.out.on (World.grownBy_alloc w2 (.cells #[.int .i64 (newR R 4), .slice q (newC R 4).length d] 26) none))
    have HR3 := Lib.hid (HR2.out.past (.cells #[.int .i64 (newR R 4), .slice q (newC R 4).length d] 26))
    have HG3 := Lib.hid (g_alloc HG2.out (.cells #[.int .i64 (newR R 4), .slice q (newC R 4).length d] 26))
    generalize w2.alloc (.cells #[.int .i64 (newR R 4), .slice q (newC R 4).length d] 26) = W3 at *
    generalize w2.heap.size = B2 at *
    have b0 := HM3.out.c0; have b1 := HM3.out.c1; have f0 := HB3.out.c0; have f1 := HB3.out.c1
    have hgg : W3.grownBy W3 none := grown_refl _
    have HCF := Lib.hid (show ∀ u, W3.grownBy u none → Calls Try.prog 18 #[.agg #[.int .i64 (newR R 4), .slice q (newC R 4).length d]] u fun e w' => e = .returned (.int .i64 C) ∧ u.grownBy w' none from fun u hu => HC.out ▸ costOf_is (newR R 4) q (newC R 4).length d (newC R 4) u (HR3.out.on hu) (by omega))
    have HCM := Lib.hid (show ∀ u, W3.grownBy u none → Calls Try.prog 18 #[.agg #[.int .i64 R, .slice a n c]] u fun e w' => e = .returned (.int .i64 D) ∧ u.grownBy w' none from fun u hu => HD.out ▸ costOf_is R a n c xs u ((HR.out.on HG3.out).on hu) HN.out)
    clear HB3 HM3 HR2 HR3 HB2 HO HC HD hl2 HNW hbb
    generalize newR R 4 = R2 at *
    generalize (newC R 4).length = m at *
    have es : IntKind.i64.wrap (C - D) = C - D := IntWalk.i64_in _ (by omega)
    go_region_held3 (fun w' => w'.cell? ⟨w.heap.size, 0, none⟩ = some (.int .i64 R) ∧ w'.cell? ⟨w.heap.size, 1, none⟩ = some (.slice a n c) ∧ w'.cell? ⟨B2, 0, none⟩ = some (.int .i64 R2) ∧ w'.cell? ⟨B2, 1, none⟩ = some (.slice q m d) ∧ W3.grownBy w' none)
      ((go_split_ands; refine ⟨?_, ?_, ?_, ?_, ?_⟩ <;> first | assumption | exact hgc.cell (by assumption) (by simp) | exact Cell.grown_trans (by assumption) hgc | exact Mesh.gr_drew (by assumption)))
      (first
        | (go_at_call 18; (first
          | ((with_reducible refine (HCF.out _ (by first | assumption | exact Mesh.gr_drew (by assumption) | (go_split_ands; assumption))).mono ?_); rintro e w'' ⟨rfl, hgc⟩)
          | ((with_reducible refine (HCM.out _ (by first | assumption | exact Mesh.gr_drew (by assumption) | (go_split_ands; assumption))).mono ?_); rintro e w'' ⟨rfl, hgc⟩))))
    go_split_ands
    go_wp2_with fail
    go_ret
    exact ⟨rfl, Cell.grown_trans HG3.out (by assumption)⟩
end Go.Proofs.Ytaccigmkddomaaa.State
