/- States: sumOf, bedsFit, contentsFit, StateOk, TotalMass, TotalTracer of the program, as contracts: what each answers; nothing that was there is written.
   Conditions: at most 2^20 leaves and numbers. -/
import Derived.Test.YtaccigmkddomaaaPkPure
import Derived.Test.YtaccigmkddomaaaSt
import Derived.Test.YtaccigmkddomaaaMFaceI
set_option maxRecDepth 100000
namespace Go.Proofs.Ytaccigmkddomaaa.State
open Go.ChangeShapes Go.WideShapes Go.ChangeAt Go.RowKit Go.Joins Go.Proofs.Ytaccigmkddomaaa.Cell Go.Proofs.Ytaccigmkddomaaa.Mesh Go.Proofs.Ytaccigmkddomaaa.Law Go.Proofs.Ytaccigmkddomaaa.Ints Go.Deep

set_option maxHeartbeats 2000000 in
theorem bedsFit_is (R : Int) (a1 a2 : Option Addr) (n1 n2 c1 c2 : Nat) (bs : List Int) (w : World) (hr : ReadsI w a2 n2 bs) (hn : n2 ≤ 1048576) :
    Calls Try.prog 66 #[.agg #[.int .i64 R, .slice a1 n1 c1], .slice a2 n2 c2] w fun e w' => e = .returned (.bool (bedsOk bs && decide ((n2 : Int) = R))) ∧ w.grownBy w' none := by
  have hni : (n2 : Int) ≤ 1048576 := by omega
  clear hn
  have HR := Lib.hid hr; clear hr
  go_enter Try.func66, Try.ntmps66
  go_wp2_with fail
  go_loopw [9] (fun i wr => ∃ k : Nat, (k : Int) ≤ n2 ∧ i = .int .i64 k ∧ Hid (∀ (j : Nat) (b : Int), j < k → bs[j]? = some b → bedOk b = true) ∧ Hid (w.grownBy wr none) ∧ Hid (BoxM wr w.heap.size R (.slice a1 n1 c1))) (fun i _ => n2 - (intOf i).toNat)
  case atStart => exact ⟨0, by omega, rfl, Lib.hid (fun j _ hj => by omega), Lib.hid (g_alloc (grown_refl _) _), Lib.hid (boxM_new _ _ _ _)⟩
  case round =>
    obtain ⟨k, hk, rfl, HF, HG, HB⟩ := hrel
    by_cases hlt : (k : Int) < n2
    · have HK := Lib.hid (show k < n2 by omega)
      obtain ⟨b, hb⟩ := getI HR.out.len (k := k) HK.out
      obtain ⟨g, o, rfl, d0⟩ := (HR.out.on HG.out).at_ k _ hb
      have HBB := Lib.hid hb; clear hb
      by_cases x1 : b < 0
      · have HZ := Lib.hid (beds_bad HBB.out (decide_eq_false (show ¬ (0 ≤ b ∧ b ≤ 1000000) by omega)))
        go_wp2_with fail
        go_ret
        exact ⟨by rw [HZ.out]; rfl, HG.out⟩
      · by_cases x2 : b > 1000000
        · have HZ := Lib.hid (beds_bad HBB.out (decide_eq_false (show ¬ (0 ≤ b ∧ b ≤ 1000000) by omega)))
          go_wp2_with fail
          go_ret
          exact ⟨by rw [HZ.out]; rfl, HG.out⟩
        · have HN := Lib.hid (show ∀ (j : Nat) (b : Int), j < k + 1 → bs[j]? = some b → bedOk b = true from fun j b' hj hb' => by
            by_cases h : j < k
            · exact HF.out j b' h hb'
            · obtain rfl : j = k := by omega
              rw [HBB.out] at hb'
              cases hb'
              exact decide_eq_true (by omega))
          clear HF
          go_wp2_with fail
          exact ⟨⟨k + 1, by omega, by go_num, HN, HG, HB⟩, by simp [intOf]; omega⟩
    · obtain rfl : n2 = k := by omega
      have HBE := Lib.hid (beds_all HR.out.len HF.out)
      have hb0 := HB.out.c0
      go_wp2_with fail
      go_ret
      exact ⟨by rw [HBE.out]; simp [beq_dec], HG.out⟩

theorem sum_nonneg {xs : List Int} (h : ∀ x ∈ xs, 0 ≤ x) : 0 ≤ xs.sum := by
  induction xs with
  | nil => simp
  | cons x xs ih => rw [List.sum_cons]; have := ih fun y hy => h y (List.mem_cons_of_mem _ hy); have := h x (List.mem_cons_self ..); omega
theorem sum_take_le {xs : List Int} (k : Nat) (h : ∀ x ∈ xs, 0 ≤ x) : (xs.take k).sum ≤ xs.sum := by
  have e : xs.sum = (xs.take k).sum + (xs.drop k).sum := by rw [← List.sum_append, List.take_append_drop]
  have := sum_nonneg fun x hx => h x (List.mem_of_mem_drop (i := k) hx)
  omega
theorem over_bad {ms ts : List Int} (hl : ts.length = ms.length) {k : Nat} {m : Int} (hm : ms[k]? = some m) (h : 10000000 - (ms.take k).sum < m) : (pairsOk ms ts && decide (ms.sum ≤ 10000000)) = false := by
  cases hp : pairsOk ms ts with
  | false => rfl
  | true =>
    have h1 := sum_take_le (k + 1) fun x hx => (mass_bounds hp hl hx).1
    rw [sum_take hm] at h1
    rw [decide_eq_false (by omega)]
    rfl
theorem pair_bad {ms ts : List Int} {k : Nat} {m t : Int} (hm : ms[k]? = some m) (ht : ts[k]? = some t) (h : massOk m t = false) : (pairsOk ms ts && decide (ms.sum ≤ 10000000)) = false := by rw [pairs_bad hm ht h]; rfl

set_option maxHeartbeats 4000000 in
theorem contentsFit_is (R : Int) (a1 a2 a3 : Option Addr) (n1 n2 n3 c1 c2 c3 : Nat) (ms ts : List Int) (w : World) (hm : ReadsI w a2 n2 ms) (ht : ReadsI w a3 n3 ts) (h1 : n1 ≤ 1048576) (h2 : n2 ≤ 1048576) (h3 : n3 ≤ 1048576) :
    Calls Try.prog 65 #[.agg #[.int .i64 R, .slice a1 n1 c1], .slice a2 n2 c2, .slice a3 n3 c3] w fun e w' => e = .returned (.bool (decide (n2 = n1 ∧ n3 = n1) && (pairsOk ms ts && decide (ms.sum ≤ 10000000)))) ∧ w.grownBy w' none := by
  have i1 : (n1 : Int) ≤ 1048576 := by omega
  have i2 : (n2 : Int) ≤ 1048576 := by omega
  have i3 : (n3 : Int) ≤ 1048576 := by omega
  clear h1 h2 h3
  have hb := boxM_new w 26 R (.slice a1 n1 c1)
  have b1 := hb.c1
  have HB := Lib.hid hb; clear hb
  by_cases z1 : n2 = n1
  case neg =>
    rw [decide_eq_false (fun h => z1 h.1)]
    go_enter Try.func65, Try.ntmps65
    go_wp2_with fail
    go_ret
    exact ⟨rfl, g_alloc (grown_refl _) _⟩
  case pos =>
    subst z1
    by_cases z2 : n3 = n2
    case neg =>
      rw [decide_eq_false (fun h => z2 h.2)]
      go_enter Try.func65, Try.ntmps65
      go_wp2_with fail
      go_ret
      exact ⟨rfl, g_alloc (grown_refl _) _⟩
    case pos =>
      subst z2
      rw [decide_eq_true ⟨rfl, rfl⟩, Bool.true_and]
      have HM := Lib.hid hm; have HT := Lib.hid ht; clear hm ht
      have HL := Lib.hid (show ts.length = ms.length by rw [HM.out.len, HT.out.len])
      go_enter Try.func65, Try.ntmps65
      go_wp2_with fail
      go_loopw [7, 26] (fun s i wr => ∃ (k : Nat) (v : Int), (k : Int) ≤ n3 ∧ i = .int .i64 k ∧ s = .int .i64 v ∧ 0 ≤ v ∧ v ≤ 10000000 ∧ Hid (v = 10000000 - (ms.take k).sum) ∧ Hid (∀ (j : Nat) (m t : Int), j < k → ms[j]? = some m → ts[j]? = some t → massOk m t = true) ∧ Hid (w.grownBy wr none)) (fun _ i _ => n3 - (intOf i).toNat)
      case atStart => exact ⟨0, 10000000, by omega, rfl, rfl, by omega, by omega, Lib.hid (by simp), Lib.hid (fun j _ _ hj => by omega), Lib.hid (g_alloc (grown_refl _) _)⟩
      case round =>
        obtain ⟨k, v, hk, rfl, rfl, hv0, hv1, HV, HF, HG⟩ := hrel
        by_cases hlt : (k : Int) < n3
        · have HK := Lib.hid (show k < n3 by omega)
          obtain ⟨m, hm⟩ := getI HM.out.len (k := k) HK.out
          obtain ⟨t, ht⟩ := getI HT.out.len (k := k) HK.out
          obtain ⟨g2, o2, rfl, d0⟩ := (HM.out.on HG.out).at_ k _ hm
          obtain ⟨g3, o3, rfl, e0⟩ := (HT.out.on HG.out).at_ k _ ht
          have HMT := Lib.hid (And.intro hm ht)
          clear hm ht
          by_cases x1 : m < 0
          · have HZ := Lib.hid (pair_bad HMT.out.1 HMT.out.2 (decide_eq_false (show ¬ (0 ≤ m ∧ m ≤ 10000000 ∧ 0 ≤ t ∧ t ≤ 1000 * m) by omega)))
            go_wp2_with fail
            go_ret
            exact ⟨by rw [HZ.out]; rfl, HG.out⟩
          · by_cases x2 : v < m
            · have HZ := Lib.hid (over_bad HL.out HMT.out.1 (by rw [← HV.out]; exact x2))
              go_wp2_with fail
              go_ret
              exact ⟨by rw [HZ.out]; rfl, HG.out⟩
            · have y1 : 0 ≤ m := by omega
              have y2 : m ≤ 10000000 := by omega
              by_cases x3 : t < 0
              · have HZ := Lib.hid (pair_bad HMT.out.1 HMT.out.2 (decide_eq_false (show ¬ (0 ≤ m ∧ m ≤ 10000000 ∧ 0 ≤ t ∧ t ≤ 1000 * m) by omega)))
                go_wp2_with fail
                go_ret
                exact ⟨by rw [HZ.out]; rfl, HG.out⟩
              · by_cases x4 : 1000 * m < t
                · have HZ := Lib.hid (pair_bad HMT.out.1 HMT.out.2 (decide_eq_false (show ¬ (0 ≤ m ∧ m ≤ 10000000 ∧ 0 ≤ t ∧ t ≤ 1000 * m) by omega)))
                  go_wp2_with fail
                  go_ret
                  exact ⟨by rw [HZ.out]; rfl, HG.out⟩
                · have HN := Lib.hid (show ∀ (j : Nat) (m t : Int), j < k + 1 → ms[j]? = some m → ts[j]? = some t → massOk m t = true from fun j m' t' hj hm' ht' => by
                    by_cases h : j < k
                    · exact HF.out j m' t' h hm' ht'
                    · obtain rfl : j = k := by omega
                      rw [HMT.out.1] at hm'; rw [HMT.out.2] at ht'
                      cases hm'; cases ht'
                      exact decide_eq_true (by omega))
                  have HS := Lib.hid (sum_take HMT.out.1)
                  clear HF
                  go_wp2_with fail
                  exact ⟨⟨k + 1, v - m, by omega, by go_num, by go_num, by omega, by omega, Lib.hid (by rw [HS.out, HV.out]; omega), HN, HG⟩, by simp [intOf]; omega⟩
        · obtain rfl : n3 = k := by omega
          have HP := Lib.hid (pairs_all HM.out.len HT.out.len HF.out)
          have HS := Lib.hid (show ms.sum ≤ 10000000 by have := HV.out; rw [take_all HM.out.len] at this; omega)
          clear HF
          go_wp2_with fail
          go_ret
          exact ⟨by rw [HP.out, decide_eq_true HS.out]; rfl, HG.out⟩

set_option maxHeartbeats 4000000 in
theorem stateOk_is (R : Int) (a1 a2 a3 a4 : Option Addr) (n1 n2 n3 n4 c1 c2 c3 c4 : Nat) (xs : List C3) (ms ts bs : List Int) (w : World) (h : ReadsS w a1 a2 a3 a4 n1 n2 n3 n4 xs ms ts bs) (h1 : n1 ≤ 1048576) (h2 : n2 ≤ 1048576) (h3 : n3 ≤ 1048576) (h4 : n4 ≤ 1048576) :
    Calls Try.prog 40 #[.agg #[.int .i64 R, .slice a1 n1 c1, .slice a2 n2 c2, .slice a3 n3 c3, .slice a4 n4 c4]] w fun e w' => e = .returned (.bool (stOk R xs ms ts bs)) ∧ w.grownBy w' none := by
  have hbal : ∀ u, w.grownBy u none → Calls Try.prog 64 #[.agg #[.int .i64 R, .slice a1 n1 c1]] u fun e w' => e = .returned (.bool (balanced R xs)) ∧ u.grownBy w' none := fun u hu => isBalanced_is R a1 n1 c1 xs u (h.l.on hu) h1
  have hcon : ∀ u, w.grownBy u none → Calls Try.prog 65 #[.agg #[.int .i64 R, .slice a1 n1 c1], .slice a2 n2 c2, .slice a3 n3 c3] u fun e w' => e = .returned (.bool (decide (n2 = n1 ∧ n3 = n1) && (pairsOk ms ts && decide (ms.sum ≤ 10000000)))) ∧ u.grownBy w' none := fun u hu => contentsFit_is R a1 a2 a3 n1 n2 n3 c1 c2 c3 ms ts u (h.m.on hu) (h.t.on hu) h1 h2 h3
  have hbed : ∀ u, w.grownBy u none → Calls Try.prog 66 #[.agg #[.int .i64 R, .slice a1 n1 c1], .slice a4 n4 c4] u fun e w' => e = .returned (.bool (bedsOk bs && decide ((n4 : Int) = R))) ∧ u.grownBy w' none := fun u hu => bedsFit_is R a1 a4 n1 n4 c1 c4 bs u (h.b.on hu) h4
  have hst : stOk R xs ms ts bs = (balanced R xs && ((decide (n2 = n1 ∧ n3 = n1) && (pairsOk ms ts && decide (ms.sum ≤ 10000000))) && (bedsOk bs && decide ((n4 : Int) = R)))) := by
    have e : sizesOk R xs ms ts bs = (decide (n2 = n1 ∧ n3 = n1) && decide ((n4 : Int) = R)) := by
      unfold sizesOk
      rw [h.l.len, h.m.len, h.t.len, h.b.len, ← Bool.decide_and]
      exact decide_eq_decide.2 (by omega)
    unfold stOk
    rw [e]
    cases balanced R xs <;> cases decide (n2 = n1 ∧ n3 = n1) <;> cases decide ((n4 : Int) = R) <;> cases pairsOk ms ts <;> cases bedsOk bs <;> simp
  rw [hst]
  have HBAL := Lib.hid hbal; have HCON := Lib.hid hcon; have HBED := Lib.hid hbed
  have HE := Lib.hid ((Held.nil w).box 29 #[.int .i64 R, .slice a1 n1 c1, .slice a2 n2 c2, .slice a3 n3 c3, .slice a4 n4 c4])
  clear hbal hcon hbed hst h h1 h2 h3 h4
  generalize balanced R xs = x1 at HBAL ⊢
  generalize (decide (n2 = n1 ∧ n3 = n1) && (pairsOk ms ts && decide (ms.sum ≤ 10000000))) = x2 at HCON ⊢
  generalize (bedsOk bs && decide ((n4 : Int) = R)) = x3 at HBED ⊢
  cases x1 with
  | false =>
    go_enter Try.func40, Try.ntmps40
    go_upto_region 1 with fail
    generalize w.alloc (.cells #[.int .i64 R, .slice a1 n1 c1, .slice a2 n2 c2, .slice a3 n3 c3, .slice a4 n4 c4] 29) = W0 at *
    obtain ⟨p0, p1, p2, p3, p4⟩ := box5 (HE.out.nth 0 rfl)
    go_wp2_with (go_at_call 64; ((with_reducible refine (HBAL.out _ HE.out.gr).mono ?_); rintro e w1 ⟨rfl, hg⟩; have HE1 := Lib.hid (HE.out.on hg); clear hg))
    go_ret
    exact ⟨rfl, HE1.out.gr⟩
  | true =>
    cases x2 with
    | false =>
      go_enter Try.func40, Try.ntmps40
      go_upto_region 1 with fail
      generalize w.alloc (.cells #[.int .i64 R, .slice a1 n1 c1, .slice a2 n2 c2, .slice a3 n3 c3, .slice a4 n4 c4] 29) = W0 at *
      obtain ⟨p0, p1, p2, p3, p4⟩ := box5 (HE.out.nth 0 rfl)
      go_wp2_with (first
        | (go_at_call 64; ((with_reducible refine (HBAL.out _ HE.out.gr).mono ?_); rintro e w1 ⟨rfl, hg⟩; have HE1 := Lib.hid (HE.out.on hg); obtain ⟨q0, q1, q2, q3, q4⟩ := box5 (HE1.out.nth 0 rfl); clear hg))
        | (go_at_call 65; ((with_reducible refine (HCON.out _ HE1.out.gr).mono ?_); rintro e w2 ⟨rfl, hg⟩; have HE2 := Lib.hid (HE1.out.on hg); clear hg)))
      go_ret
      exact ⟨rfl, HE2.out.gr⟩
    | true =>
      go_enter Try.func40, Try.ntmps40
      go_upto_region 1 with fail
      generalize w.alloc (.cells #[.int .i64 R, .slice a1 n1 c1, .slice a2 n2 c2, .slice a3 n3 c3, .slice a4 n4 c4] 29) = W0 at *
      obtain ⟨p0, p1, p2, p3, p4⟩ := box5 (HE.out.nth 0 rfl)
      go_wp2_with (first
        | (go_at_call 64; ((with_reducible refine (HBAL.out _ HE.out.gr).mono ?_); rintro e w1 ⟨rfl, hg⟩; have HE1 := Lib.hid (HE.out.on hg); obtain ⟨q0, q1, q2, q3, q4⟩ := box5 (HE1.out.nth 0 rfl); clear hg))
        | (go_at_call 65; ((with_reducible refine (HCON.out _ HE1.out.gr).mono ?_); rintro e w2 ⟨rfl, hg⟩; have HE2 := Lib.hid (HE1.out.on hg); obtain ⟨r0, r1, r2, r3, r4⟩ := box5 (HE2.out.nth 0 rfl); clear hg))
        | (go_at_call 66; ((with_reducible refine (HBED.out _ HE2.out.gr).mono ?_); rintro e w3 ⟨rfl, hg⟩; have HE3 := Lib.hid (HE2.out.on hg); clear hg)))
      go_ret
      exact ⟨by simp, HE3.out.gr⟩

end Go.Proofs.Ytaccigmkddomaaa.State
