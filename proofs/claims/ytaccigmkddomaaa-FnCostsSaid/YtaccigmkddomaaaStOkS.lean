/- States: l07Sum, StateOk, TotalMass, TotalTracer of the reference model, as contracts: what each answers; nothing that was there is written.
   Conditions: at most 2^20 leaves and numbers. -/
import Derived.Test.YtaccigmkddomaaaPkPure
import Derived.Test.YtaccigmkddomaaaSt
import Derived.Test.YtaccigmkddomaaaMFaceS
set_option maxRecDepth 100000
namespace Go.Proofs.Ytaccigmkddomaaa.State
open Go.ChangeShapes Go.WideShapes Go.ChangeAt Go.RowKit Go.Joins Go.Proofs.Ytaccigmkddomaaa.Cell Go.Proofs.Ytaccigmkddomaaa.Mesh Go.Proofs.Ytaccigmkddomaaa.Law Go.Proofs.Ytaccigmkddomaaa.Ints Go.Deep

set_option maxHeartbeats 2000000 in
theorem specSum_is (a : Option Addr) (n cap : Nat) (xs : List Int) (w : World) (hr : ReadsI w a n xs) (hn : n ≤ 1048576) (hb : ∀ x ∈ xs, 0 ≤ x ∧ x ≤ 10000000000) :
    Calls Try.prog 75 #[.slice a n cap] w fun e w' => e = .returned (.int .i64 xs.sum) ∧ w.grownBy w' none := by
  have hni : (n : Int) ≤ 1048576 := by omega
  clear hn
  have HR := Lib.hid hr; have HB := Lib.hid hb; clear hr hb
  go_enter Try.func75, Try.ntmps75
  go_wp2_with fail
  go_loopw [3, 4] (fun s i wr => ∃ (k : Nat) (v : Int), (k : Int) ≤ n ∧ i = .int .i64 k ∧ s = .int .i64 v ∧ Hid (v = (xs.take k).sum) ∧ Hid (w.grownBy wr none)) (fun _ i _ => n - (intOf i).toNat)
  case atStart => exact ⟨0, 0, by omega, rfl, rfl, Lib.hid (by simp), Lib.hid (grown_refl w)⟩
  case round =>
    obtain ⟨k, v, hk, rfl, rfl, HV, HG⟩ := hrel
    by_cases hlt : (k : Int) < n
    · have HK := Lib.hid (show k < n by omega)
      obtain ⟨x, hx⟩ := getI HR.out.len (k := k) HK.out
      have hv : 0 ≤ v ∧ v ≤ 10485760000000000 := by
        have h1 := sum_take_bounds k HB.out
        have h2 : (xs.take k).length = k := by have := HR.out.len; have := HK.out; simp; omega
        rw [← HV.out, h2] at h1
        have h3 := HK.out
        omega
      have hxb := HB.out x (List.mem_of_getElem? hx)
      have HS := Lib.hid (sum_take hx)
      obtain ⟨g, o, rfl, d0⟩ := (HR.out.on HG.out).at_ k _ hx
      obtain ⟨hv0, hv1⟩ := hv
      obtain ⟨hx0, hx1⟩ := hxb
      clear hx
      go_wp2_with fail
      exact ⟨⟨k + 1, v + x, by omega, by go_num, by go_num, Lib.hid (by rw [HS.out, ← HV.out]), HG⟩, by simp [intOf]; omega⟩
    · go_wp2_with fail
      go_ret
      obtain rfl : k = n := by omega
      have e : v = xs.sum := HV.out.trans (by rw [take_all HR.out.len])
      exact ⟨by rw [e]; rfl, HG.out⟩

set_option maxHeartbeats 4000000 in
theorem specStateOk_is (R : Int) (a1 a2 a3 a4 : Option Addr) (n1 n2 n3 n4 c1 c2 c3 c4 : Nat) (xs : List C3) (ms ts bs : List Int) (w : World) (h : ReadsS w a1 a2 a3 a4 n1 n2 n3 n4 xs ms ts bs) (h1 : n1 ≤ 1048576) (h2 : n2 ≤ 1048576) (h3 : n3 ≤ 1048576) (h4 : n4 ≤ 1048576) :
    Calls Try.prog 52 #[.agg #[.int .i64 R, .slice a1 n1 c1, .slice a2 n2 c2, .slice a3 n3 c3, .slice a4 n4 c4]] w fun e w' => e = .returned (.bool (stOk R xs ms ts bs)) ∧ w.grownBy w' none := by
  have hbal : ∀ u, w.grownBy u none → Calls Try.prog 74 #[.agg #[.int .i64 R, .slice a1 n1 c1]] u fun e w' => e = .returned (.bool (balanced R xs)) ∧ u.grownBy w' none := fun u hu => specIsBalanced_is R a1 n1 c1 xs u (h.l.on hu) h1
  have hsum : (∀ x ∈ ms, 0 ≤ x ∧ x ≤ 10000000000) → ∀ u, w.grownBy u none → Calls Try.prog 75 #[.slice a2 n2 c2] u fun e w' => e = .returned (.int .i64 ms.sum) ∧ u.grownBy w' none := fun hb u hu => specSum_is a2 n2 c2 ms u (h.m.on hu) h2 hb
  have HBAL := Lib.hid hbal; have HSUM := Lib.hid hsum
  have i1 : (n1 : Int) ≤ 1048576 := by omega
  have i2 : (n2 : Int) ≤ 1048576 := by omega
  have i3 : (n3 : Int) ≤ 1048576 := by omega
  have i4 : (n4 : Int) ≤ 1048576 := by omega
  have L1 := Lib.hid h.l.len; have L2 := Lib.hid h.m.len; have L3 := Lib.hid h.t.len; have L4 := Lib.hid h.b.len
  have HR := Lib.hid h
  have HE := Lib.hid ((Held.nil w).box 29 #[.int .i64 R, .slice a1 n1 c1, .slice a2 n2 c2, .slice a3 n3 c3, .slice a4 n4 c4])
  clear hbal hsum h h1 h2 h3 h4
  cases hb : balanced R xs with
  | false =>
    rw [show stOk R xs ms ts bs = false by simp [stOk, hb]]
    rw [hb] at HBAL
    clear hb
    go_enter Try.func52, Try.ntmps52
    go_upto_region 1 with fail
    generalize w.alloc (.cells #[.int .i64 R, .slice a1 n1 c1, .slice a2 n2 c2, .slice a3 n3 c3, .slice a4 n4 c4] 29) = W0 at *
    obtain ⟨p0, p1, -⟩ := box5 (HE.out.nth 0 rfl)
    go_wp2_with (go_at_call 74; ((with_reducible refine (HBAL.out _ HE.out.gr).mono ?_); rintro e w1 ⟨rfl, hg⟩; have HE1 := Lib.hid (HE.out.on hg); clear hg))
    go_ret
    exact ⟨rfl, HE1.out.gr⟩
  | true =>
    by_cases hz : (n2 : Int) = n1 ∧ (n3 : Int) = n2 ∧ (n4 : Int) = R
    case neg =>
      rw [show stOk R xs ms ts bs = false by
        have : sizesOk R xs ms ts bs = false := decide_eq_false (by rw [L1.out, L2.out, L3.out, L4.out]; omega)
        simp [stOk, this]]
      rw [hb] at HBAL
      clear hb
      by_cases z1 : (n2 : Int) = n1
      · obtain rfl : n1 = n2 := by omega
        clear z1
        by_cases z2 : (n3 : Int) = n1
        · obtain rfl : n1 = n3 := by omega
          have z3 : ¬ (n4 : Int) = R := fun e => hz ⟨rfl, rfl, e⟩
          clear hz z2
          go_enter Try.func52, Try.ntmps52
          go_upto_region 1 with fail
          generalize w.alloc (.cells #[.int .i64 R, .slice a1 n1 c1, .slice a2 n1 c2, .slice a3 n1 c3, .slice a4 n4 c4] 29) = W0 at *
          obtain ⟨p0, p1, -⟩ := box5 (HE.out.nth 0 rfl)
          go_wp2_with (go_at_call 74; ((with_reducible refine (HBAL.out _ HE.out.gr).mono ?_); rintro e w1 ⟨rfl, hg⟩; have HE1 := Lib.hid (HE.out.on hg); obtain ⟨q0, q1, q2, q3, q4⟩ := box5 (HE1.out.nth 0 rfl); clear hg))
          go_ret
          exact ⟨rfl, HE1.out.gr⟩
        · clear hz
          have z2' : ¬ n3 = n1 := by omega
          go_enter Try.func52, Try.ntmps52
          go_upto_region 1 with fail
          generalize w.alloc (.cells #[.int .i64 R, .slice a1 n1 c1, .slice a2 n1 c2, .slice a3 n3 c3, .slice a4 n4 c4] 29) = W0 at *
          obtain ⟨p0, p1, -⟩ := box5 (HE.out.nth 0 rfl)
          go_wp2_with (go_at_call 74; ((with_reducible refine (HBAL.out _ HE.out.gr).mono ?_); rintro e w1 ⟨rfl, hg⟩; have HE1 := Lib.hid (HE.out.on hg); obtain ⟨q0, q1, q2, q3, q4⟩ := box5 (HE1.out.nth 0 rfl); clear hg))
          go_ret
          exact ⟨rfl, HE1.out.gr⟩
      · clear hz
        have z1' : ¬ n2 = n1 := by omega
        go_enter Try.func52, Try.ntmps52
        go_upto_region 1 with fail
        generalize w.alloc (.cells #[.int .i64 R, .slice a1 n1 c1, .slice a2 n2 c2, .slice a3 n3 c3, .slice a4 n4 c4] 29) = W0 at *
        obtain ⟨p0, p1, -⟩ := box5 (HE.out.nth 0 rfl)
        go_wp2_with (go_at_call 74; ((with_reducible refine (HBAL.out _ HE.out.gr).mono ?_); rintro e w1 ⟨rfl, hg⟩; have HE1 := Lib.hid (HE.out.on hg); obtain ⟨q0, q1, q2, q3, q4⟩ := box5 (HE1.out.nth 0 rfl); clear hg))
        go_ret
        exact ⟨rfl, HE1.out.gr⟩
    case pos =>
      obtain ⟨z1, z2, z3⟩ := hz
      obtain rfl : n1 = n2 := by omega
      obtain rfl : n1 = n3 := by omega
      have HZ := Lib.hid (show ms.length = xs.length ∧ ts.length = ms.length ∧ (bs.length : Int) = R by rw [L1.out, L2.out, L3.out, L4.out]; exact ⟨rfl, rfl, z3⟩)
      have HBT := Lib.hid hb
      rw [hb] at HBAL
      clear hb z1 z2
      go_enter Try.func52, Try.ntmps52
      go_upto_region 1 with fail
      generalize w.alloc (.cells #[.int .i64 R, .slice a1 n1 c1, .slice a2 n1 c2, .slice a3 n1 c3, .slice a4 n4 c4] 29) = W0 at *
      obtain ⟨p0, p1, -⟩ := box5 (HE.out.nth 0 rfl)
      go_upto_region 3 with (go_at_call 74; ((with_reducible refine (HBAL.out _ HE.out.gr).mono ?_); rintro e w1 ⟨rfl, hg⟩; have HE1 := Lib.hid (HE.out.on hg); obtain ⟨q0, q1, q2, q3, q4⟩ := box5 (HE1.out.nth 0 rfl); clear hg))
      clear p0 p1 q0 q1 q2 q3 q4 HE
      go_wp2_with fail
      go_loopw [3] (fun i wr => ∃ k : Nat, (k : Int) ≤ n1 ∧ i = .int .i64 k ∧ Hid (∀ (j : Nat) (m t : Int), j < k → ms[j]? = some m → ts[j]? = some t → massOk m t = true) ∧ Hid (Held w wr [boxG w.heap.size 29 #[.int .i64 R, .slice a1 n1 c1, .slice a2 n1 c2, .slice a3 n1 c3, .slice a4 n4 c4]])) (fun i _ => n1 - (intOf i).toNat)
      case atStart => exact ⟨0, by omega, rfl, Lib.hid (fun j _ _ hj => by omega), HE1⟩
      case round =>
        clear HE1
        obtain ⟨k, hk, rfl, HF, HE⟩ := hrel
        obtain ⟨q0, q1, q2, q3, q4⟩ := box5 (HE.out.nth 0 rfl)
        by_cases hlt : (k : Int) < n1
        · have HK := Lib.hid (show k < n1 by omega)
          obtain ⟨m, hm⟩ := getI L2.out (k := k) HK.out
          obtain ⟨t, ht⟩ := getI L3.out (k := k) HK.out
          obtain ⟨g2, o2, rfl, d0⟩ := (HR.out.m.on HE.out.gr).at_ k _ hm
          obtain ⟨g3, o3, rfl, e0⟩ := (HR.out.t.on HE.out.gr).at_ k _ ht
          have HMT := Lib.hid (And.intro hm ht)
          clear hm ht
          by_cases x1 : 0 ≤ m ∧ m ≤ 10000000
          · have y1 : decide (0 ≤ m ∧ m ≤ 10000000) = true := decide_eq_true x1
            obtain ⟨x10, x11⟩ := x1
            by_cases x2 : 0 ≤ t ∧ t ≤ 1000 * m
            · have y2 : decide (0 ≤ t ∧ t ≤ 1000 * m) = true := decide_eq_true x2
              have HN := Lib.hid (show ∀ (j : Nat) (m t : Int), j < k + 1 → ms[j]? = some m → ts[j]? = some t → massOk m t = true from fun j m' t' hj hm' ht' => by
                by_cases h : j < k
                · exact HF.out j m' t' h hm' ht'
                · obtain rfl : j = k := by omega
                  rw [HMT.out.1] at hm'; rw [HMT.out.2] at ht'
                  cases hm'; cases ht'
                  exact decide_eq_true ⟨x10, x11, x2.1, x2.2⟩)
              clear x2 HF
              go_wp2_with fail
              go_quiet ((first | ((with_reducible refine Calls.quiet_of_same (in_is m 0 10000000 true y1 _)); done) | ((with_reducible refine Calls.quiet_of_same (in_is t 0 (1000 * m) true y2 _)); done)))
              go_wp2_with fail
              exact ⟨⟨k + 1, by omega, by go_num, HN, Lib.hid (HE.out.on (g_drewN (grown_refl _) _))⟩, by simp [intOf]; omega⟩
            · have y2 : decide (0 ≤ t ∧ t ≤ 1000 * m) = false := decide_eq_false x2
              have HB := Lib.hid (show stOk R xs ms ts bs = false by
                have : pairsOk ms ts = false := pairs_bad HMT.out.1 HMT.out.2 (decide_eq_false fun h => x2 ⟨h.2.2.1, h.2.2.2⟩)
                simp [stOk, this])
              clear x2
              go_wp2_with fail
              go_quiet ((first | ((with_reducible refine Calls.quiet_of_same (in_is m 0 10000000 true y1 _)); done) | ((with_reducible refine Calls.quiet_of_same (in_is t 0 (1000 * m) false y2 _)); done)))
              go_wp2_with fail
              go_ret
              exact ⟨by rw [HB.out]; rfl, (HE.out.on (g_drewN (grown_refl _) _)).gr⟩
          · have y1 : decide (0 ≤ m ∧ m ≤ 10000000) = false := decide_eq_false x1
            have HB := Lib.hid (show stOk R xs ms ts bs = false by
              have : pairsOk ms ts = false := pairs_bad HMT.out.1 HMT.out.2 (decide_eq_false fun h => x1 ⟨h.1, h.2.1⟩)
              simp [stOk, this])
            clear x1
            go_wp2_with fail
            go_quiet ((first | ((with_reducible refine Calls.quiet_of_same (in_is m 0 10000000 false y1 _)); done)))
            go_wp2_with fail
            go_ret
            exact ⟨by rw [HB.out]; rfl, (HE.out.on (g_drewN (grown_refl _) _)).gr⟩
        · obtain rfl : n1 = k := by omega
          have HP := Lib.hid (pairs_all L2.out L3.out HF.out)
          clear HF hk
          go_wp2_with fail
          clear q0 q1 q2 q3 q4
          go_loopw [4] (fun i wr => ∃ k : Nat, (k : Int) ≤ n4 ∧ i = .int .i64 k ∧ Hid (∀ (j : Nat) (b : Int), j < k → bs[j]? = some b → bedOk b = true) ∧ Hid (Held w wr [boxG w.heap.size 29 #[.int .i64 R, .slice a1 n1 c1, .slice a2 n1 c2, .slice a3 n1 c3, .slice a4 n4 c4]])) (fun i _ => n4 - (intOf i).toNat)
          case atStart => exact ⟨0, by omega, rfl, Lib.hid (fun j _ hj => by omega), HE⟩
          case round =>
            clear HE
            obtain ⟨k, hk, rfl, HF, HE⟩ := hrel
            obtain ⟨q0, q1, q2, q3, q4⟩ := box5 (HE.out.nth 0 rfl)
            by_cases hlt : (k : Int) < n4
            · have HK := Lib.hid (show k < n4 by omega)
              obtain ⟨b, hb⟩ := getI L4.out (k := k) HK.out
              obtain ⟨g4, o4, rfl, d0⟩ := (HR.out.b.on HE.out.gr).at_ k _ hb
              have HBB := Lib.hid hb
              clear hb
              by_cases x1 : 0 ≤ b ∧ b ≤ 1000000
              · have y1 : decide (0 ≤ b ∧ b ≤ 1000000) = true := decide_eq_true x1
                have HN := Lib.hid (show ∀ (j : Nat) (b : Int), j < k + 1 → bs[j]? = some b → bedOk b = true from fun j b' hj hb' => by
                  by_cases h : j < k
                  · exact HF.out j b' h hb'
                  · obtain rfl : j = k := by omega
                    rw [HBB.out] at hb'
                    cases hb'
                    exact decide_eq_true x1)
                clear x1 HF
                go_wp2_with (go_at_call 44; (with_reducible refine (in_is b 0 1000000 true y1 _).mono ?_); rintro e w' ⟨rfl, rfl⟩)
                exact ⟨⟨k + 1, by omega, by go_num, HN, HE⟩, by simp [intOf]; omega⟩
              · have y1 : decide (0 ≤ b ∧ b ≤ 1000000) = false := decide_eq_false x1
                have HB := Lib.hid (show stOk R xs ms ts bs = false by
                  have : bedsOk bs = false := beds_bad HBB.out (decide_eq_false x1)
                  simp [stOk, this])
                clear x1
                go_wp2_with (go_at_call 44; (with_reducible refine (in_is b 0 1000000 false y1 _).mono ?_); rintro e w' ⟨rfl, rfl⟩)
                go_ret
                exact ⟨by rw [HB.out]; rfl, HE.out.gr⟩
            · obtain rfl : n4 = k := by omega
              have HBE := Lib.hid (beds_all L4.out HF.out)
              clear HF hk
              have HSM := Lib.hid (fun u hu => HSUM.out (fun x hx => by have := mass_bounds HP.out (by rw [L3.out, L2.out]) hx; omega) u hu)
              by_cases hs : ms.sum ≤ 10000000
              · have HB := Lib.hid (stOk_mk HBT.out HZ.out HP.out HBE.out hs)
                generalize ms.sum = S at HSM hs
                go_wp2_with (go_at_call 75; ((with_reducible refine (HSM.out _ HE.out.gr).mono ?_); rintro e w2 ⟨rfl, hg⟩; have HE2 := Lib.hid (HE.out.on hg); clear hg))
                go_ret
                exact ⟨by rw [HB.out]; rfl, HE2.out.gr⟩
              · have HB := Lib.hid (show stOk R xs ms ts bs = false by simp [stOk, hs])
                generalize ms.sum = S at HSM hs
                go_wp2_with (go_at_call 75; ((with_reducible refine (HSM.out _ HE.out.gr).mono ?_); rintro e w2 ⟨rfl, hg⟩; have HE2 := Lib.hid (HE.out.on hg); clear hg))
                go_ret
                exact ⟨by rw [HB.out]; exact congrArg (fun b => Ending.returned (.bool b)) (decide_eq_false (by omega)), HE2.out.gr⟩

end Go.Proofs.Ytaccigmkddomaaa.State
