/- States at rest: the program's IsAtRest, isTooHigh, IsLevelWithin, DryLeaves, WaterLine, as contracts: what each answers; nothing that was there is written.
   Conditions: at most 2^20 leaves and numbers. -/
import Derived.Test.YtmbmeajneankpaaStRestP
import Derived.Test.YtmbmeajneankpaaStFluxA
set_option maxRecDepth 100000
namespace Go.Proofs.Ytmbmeajneankpaa.State
open Go.ChangeShapes Go.WideShapes Go.ChangeAt Go.RowKit Go.Joins Go.Proofs.Ytmbmeajneankpaa.Cell Go.Proofs.Ytmbmeajneankpaa.Mesh Go.Proofs.Ytmbmeajneankpaa.Law Go.Proofs.Ytmbmeajneankpaa.Ints Go.Deep

theorem dry_snoc {ms : List Int} {k : Nat} (h : msAt ms k = 0) : vals (toI (dryF ms k)) ++ [Value.int .i64 (k : Int)] = vals (toI (dryF ms (k + 1))) := by
  rw [dryF_yes h, toI_snoc]; simp [vals]
theorem dry_same {ms : List Int} {k : Nat} (h : msAt ms k ≠ 0) : dryF ms (k + 1) = dryF ms k := dryF_no h
theorem dry_len1 {ms : List Int} {k : Nat} (h : msAt ms k = 0) : (dryF ms (k + 1)).length = (dryF ms k).length + 1 := by
  rw [dryF_yes h, List.length_append]; rfl

set_option maxHeartbeats 8000000 in
theorem dryLeaves_is (R : Int) (a1 a2 a3 a4 : Option Addr) (n1 n2 n3 n4 c1 c2 c3 c4 : Nat) (xs : List C3) (ms ts bs : List Int) (w : World) (h : ReadsS w a1 a2 a3 a4 n1 n2 n3 n4 xs ms ts bs) (h1 : n1 ≤ 1048576) (h2 : n2 ≤ 1048576) (h3 : n3 ≤ 1048576) (h4 : n4 ≤ 1048576) :
    Calls Try.prog 41 #[.agg #[.int .i64 R, .slice a1 n1 c1, .slice a2 n2 c2, .slice a3 n3 c3, .slice a4 n4 c4]] w (GivesI (dryG R xs ms ts bs) w) := by
  have hok : ∀ u, w.grownBy u none → Calls Try.prog 29 #[.agg #[.int .i64 R, .slice a1 n1 c1, .slice a2 n2 c2, .slice a3 n3 c3, .slice a4 n4 c4]] u fun e w' => e = .returned (.bool (stOk R xs ms ts bs)) ∧ u.grownBy w' none := fun u hu => stateOk_is R a1 a2 a3 a4 n1 n2 n3 n4 c1 c2 c3 c4 xs ms ts bs u (h.on hu) h1 h2 h3 h4
  have HOK := Lib.hid hok
  have HE := Lib.hid ((Held.nil w).box 29 #[.int .i64 R, .slice a1 n1 c1, .slice a2 n2 c2, .slice a3 n3 c3, .slice a4 n4 c4])
  clear hok
  have HEM := Lib.hid fun (W : World) => own_emptyI W W.heap.size (Nat.le_refl _)
  unfold dryG
  cases hs : stOk R xs ms ts bs with
  | false =>
    rw [hs] at HOK
    clear hs
    go_enter Try.func41, Try.ntmps41
    go_upto_region 1 with fail
    generalize w.alloc (.cells #[.int .i64 R, .slice a1 n1 c1, .slice a2 n2 c2, .slice a3 n3 c3, .slice a4 n4 c4] 29) = W0 at *
    obtain ⟨p0, p1, p2, p3, p4⟩ := box5 (HE.out.nth 0 rfl)
    go_wp2_with (go_at_call 29; ((with_reducible refine (HOK.out _ HE.out.gr).mono ?_); rintro e w1 ⟨rfl, hg⟩; have HE1 := Lib.hid (HE.out.on hg); clear hg))
    go_ret
    exact ⟨none, 0, rfl, nil_own _ _ _ _, HE1.out.gr⟩
  | true =>
    rw [hs] at HOK
    rw [if_pos rfl]
    have hni : (n2 : Int) ≤ 1048576 := by omega
    have HRM := Lib.hid h.m
    have HFL := Lib.hid fun k => dryF_len ms k
    obtain ⟨i0, hi0, hz0, hz1, hz2⟩ := info_parts infoInt
    clear hs h h1 h2 h3 h4
    go_enter Try.func41, Try.ntmps41
    go_upto_region 1 with fail
    generalize w.alloc (.cells #[.int .i64 R, .slice a1 n1 c1, .slice a2 n2 c2, .slice a3 n3 c3, .slice a4 n4 c4] 29) = W0 at *
    obtain ⟨p0, p1, p2, p3, p4⟩ := box5 (HE.out.nth 0 rfl)
    go_upto_region 3 with (go_at_call 29; ((with_reducible refine (HOK.out _ HE.out.gr).mono ?_); rintro e w1 ⟨rfl, hg⟩; have HE1 := Lib.hid (HE.out.on hg); clear hg))
    have HE2 := Lib.hid (HE1.out.row (World.grownBy_alloc w1 (.cells #[] 3) none) (HEM.out w1))
    clear p0 p1 p2 p3 p4 HE HE1 HEM HOK
    obtain ⟨B, hB⟩ : ∃ B, B = w1.heap.size := ⟨_, rfl⟩
    go_upto_region 4 with fail
    rw [← hB] at HE2 ⊢
    clear hB
    generalize w1.alloc (.cells #[] 3) = W2 at *
    obtain ⟨p0, p1, p2, p3, p4⟩ := box5 (HE2.out.nth 0 rfl)
    go_wp2_with fail
    clear p0 p1 p2 p3 p4
    go_loopw [3, 13] (fun v i wr => ∃ (k m : Nat) (q : Option Addr) (d : Nat), (k : Int) ≤ n2 ∧ i = .int .i64 k ∧ v = .slice q m d ∧ Hid (m = (dryF ms k).length) ∧ Hid (Held w wr [boxG w.heap.size 29 #[.int .i64 R, .slice a1 n1 c1, .slice a2 n2 c2, .slice a3 n3 c3, .slice a4 n4 c4], rowG 3 1 (.slice q m d) m (vals (toI (dryF ms k)))])) (fun _ i _ => n2 - (intOf i).toNat)
    case atStart => exact ⟨0, 0, _, _, by omega, rfl, rfl, Lib.hid rfl, HE2⟩
    case round =>
      clear HE2
      obtain ⟨k, m, q, d, hk, rfl, rfl, HM, HF⟩ := hrel
      by_cases hlt : (k : Int) < n2
      · have HK := Lib.hid (show k < n2 by omega)
        obtain ⟨x, hx⟩ := getI HRM.out.len (k := k) HK.out
        have hxm := msAt_of hx
        obtain ⟨g2, o2, rfl, d0⟩ := (HRM.out.on HF.out.gr).at_ k _ hx
        have hm : (m : Int) ≤ k := by have := HM.out; have := HFL.out k; omega
        by_cases hz : x = 0
        · subst hz
          have HT := Lib.hid (dry_snoc hxm)
          have HT1 := Lib.hid (dry_len1 hxm)
          clear hx hxm
          go_wp2_with (at_builtin; refine wpList_append_own_at _ rfl _ _ 27 rfl 0 3 i0 (.int .i64 0) 1 8 Try.underlying27 hi0 hz0 hz1 hz2 rfl (by decide) _ m (vals (toI (dryF ms k))) rfl (own_on (HF.out.nth 1 rfl) (World.grownBy_alloc _ _ none)) ⟨_, 0, none⟩ 1 1 [.int .i64 k] rfl rfl (cell_one_new _ _ _) (fun x hx => by simp at hx; subst hx; rfl) (by have := HK.out; unfold maxLen; omega) (by have := HK.out; omega) (Nat.zero_le _) ?_; intro v' w6 hown hg _ hat; rw [HT.out] at hown; obtain ⟨q', d', rfl⟩ := own_shapeAny hown; have HE6 := Lib.hid ((HF.out.on (World.grownBy_alloc _ _ none)).appended 1 rfl hown hg hat); clear hown hg hat)
          exact ⟨⟨k + 1, m + 1, q', d', by omega, by go_num, rfl, Lib.hid (by rw [HT1.out, HM.out]), HE6⟩, by simp [intOf]; omega⟩
        · have HT := Lib.hid (dry_same (ms := ms) (k := k) (by rw [hxm]; exact hz))
          clear hx hxm
          go_wp2_with fail
          exact ⟨⟨k + 1, m, q, d, by omega, by go_num, rfl, Lib.hid (by rw [HT.out]; exact HM.out), by rw [HT.out]; exact HF⟩, by simp [intOf]; omega⟩
      · obtain rfl : n2 = k := by omega
        go_wp2_with fail
        go_ret
        have hr := HF.out.own 1 rfl
        have e : m = (toI (dryF ms ms.length)).length := by rw [toI_len, HM.out, HRM.out.len]
        rw [show dryF ms n2 = dryF ms ms.length by rw [HRM.out.len]] at hr
        subst e
        exact ⟨q, d, rfl, hr, HF.out.gr⟩
end Go.Proofs.Ytmbmeajneankpaa.State
