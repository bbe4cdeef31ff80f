/- Meshes: MayRefine and MayCoarsen of the reference model, as contracts: what each answers; nothing that was there is written.
   Conditions: at most 2^20 leaves. -/
import Derived.Test.YtmkmlfaekiofcaaMMayN
import Derived.Test.YtmkmlfaekiofcaaMOkS
namespace Go.Proofs.Ytmkmlfaekiofcaa.Mesh
open Go.ChangeShapes Go.WideShapes Go.ChangeAt Go.RowKit Go.Proofs.Ytmkmlfaekiofcaa.Cell

theorem in_is (x lo hi : Int) (w : World) :
    Calls Try.prog 51 #[.int .i64 x, .int .i64 lo, .int .i64 hi] w fun e w' => e = .returned (.bool (decide (lo ≤ x ∧ x ≤ hi))) ∧ w' = w := by
  by_cases h1 : lo ≤ x
  · by_cases h2 : x ≤ hi
    · rw [decide_eq_true (by omega : lo ≤ x ∧ x ≤ hi)]
      go_enter Try.func51, Try.ntmps51
      go_wp2
      go_ret
      exact ⟨rfl, rfl⟩
    · rw [decide_eq_false (by omega : ¬ (lo ≤ x ∧ x ≤ hi))]
      go_enter Try.func51, Try.ntmps51
      go_wp2
      go_ret
      exact ⟨rfl, rfl⟩
  · rw [decide_eq_false (by omega : ¬ (lo ≤ x ∧ x ≤ hi))]
    go_enter Try.func51, Try.ntmps51
    go_wp2
    go_ret
    exact ⟨rfl, rfl⟩
theorem in_to (x lo hi : Int) (b : Bool) (h : decide (lo ≤ x ∧ x ≤ hi) = b) (w : World) :
    Calls Try.prog 51 #[.int .i64 x, .int .i64 lo, .int .i64 hi] w fun e w' => e = .returned (.bool b) ∧ w' = w := h ▸ in_is x lo hi w
theorem specSibC_is (x y : C3) (w : World) :
    Calls Try.prog 78 #[.agg #[.int .i64 x.1, .int .i64 x.2.1, .int .i64 x.2.2], .agg #[.int .i64 y.1, .int .i64 y.2.1, .int .i64 y.2.2]] w fun e w' => e = .returned (.bool (sibOf x y)) ∧ w.grownBy w' none :=
  specSib_is _ _ _ _ _ _ w

set_option maxHeartbeats 2000000 in
theorem specMayRef_is (R i : Int) (a : Option Addr) (n cap : Nat) (xs : List C3) (w : World) (hr : Reads w a n xs) (hn : n ≤ 1048576) :
    Calls Try.prog 24 #[.agg #[.int .i64 R, .slice a n cap], .int .i64 i] w fun e w' => e = .returned (.bool (mayRef R xs i)) ∧ w.grownBy w' none := by
  have hni : (n : Int) ≤ 1048576 := by omega
  have HN := Lib.hid hn; clear hn
  have HR := Lib.hid hr
  have hlen := hr.len
  clear hr
  have HB := Lib.hid (MBox.new w R (.slice a n cap))
  have hok : ∀ u, Reads u a n xs → Calls Try.prog 20 #[.agg #[.int .i64 R, .slice a n cap]] u fun e w' => e = .returned (.bool (meshOk R xs)) ∧ u.grownBy w' none := fun u h => specMeshOk_is R a n cap xs u h HN.out
  have HOK := Lib.hid hok; clear hok
  have hwn : IntKind.i64.wrap ((n : Int) - 1) = (n : Int) - 1 := IntWalk.i64_in _ (by omega)
  cases hm : meshOk R xs with
  | false =>
    rw [mayRef_bad hm]
    rw [hm] at HOK
    go_enter Try.func24, Try.ntmps24
    go_wp2_with (go_at_call 20; (with_reducible refine (HOK.out _ (HR.out.past _)).mono ?_); rintro e w1 ⟨rfl, hg⟩; have HG := Lib.hid hg; clear hg)
    go_ret
    exact ⟨rfl, grown_trans (g_alloc (grown_refl _) _) HG.out⟩
  | true =>
    have HM := Lib.hid hm
    rw [hm] at HOK
    clear hm
    by_cases h0 : ¬ (0 ≤ i ∧ i ≤ (n : Int) - 1)
    · have hf : mayRef R xs i = false := by
        by_cases h1 : i < 0
        · exact mayRef_low h1
        · exact mayRef_high (by omega)
      rw [hf]
      have HI := Lib.hid (in_to i 0 ((n : Int) - 1) false (decide_eq_false h0))
      go_enter Try.func24, Try.ntmps24
      go_wp2_with (first
        | (go_at_call 20; (with_reducible refine (HOK.out _ (HR.out.past _)).mono ?_); rintro e w1 ⟨rfl, hg⟩; have b1 := (HB.out.kept hg (by simp)).c1; have HG := Lib.hid hg; clear hg)
        | (go_at_call 51; (with_reducible refine (HI.out _).mono ?_); rintro e w2 ⟨rfl, rfl⟩))
      go_ret
      exact ⟨rfl, grown_trans (g_alloc (grown_refl _) _) HG.out⟩
    rw [Decidable.not_not] at h0
    have HI := Lib.hid (in_to i 0 ((n : Int) - 1) true (decide_eq_true h0))
    obtain ⟨k, rfl⟩ : ∃ k : Nat, i = k := ⟨i.toNat, by omega⟩
    obtain ⟨r, l, j, hx⟩ := get_of_lt hlen (k := k) (by omega)
    rw [mayRef_in HM.out hx]
    obtain ⟨g, rfl, -⟩ := HR.out.at_ k _ hx
    have HX := Lib.hid hx
    have k1 : (k : Int) < n := by omega
    clear hx h0
    go_enter Try.func24, Try.ntmps24
    go_wp2_with (first
      | (go_at_call 20; (with_reducible refine (HOK.out _ (HR.out.past _)).mono ?_); rintro e w1 ⟨rfl, hg⟩; have b1 := (HB.out.kept hg (by simp)).c1; obtain ⟨g', hg', -, d0, d1, d2⟩ := ((HR.out.past _).on hg).at_ k _ HX.out; cases hg'; dsimp only at d0 d1 d2; have HG := Lib.hid hg; clear hg)
      | (go_at_call 51; (with_reducible refine (HI.out _).mono ?_); rintro e w2 ⟨rfl, rfl⟩))
    go_ret
    exact ⟨rfl, grown_trans (g_alloc (grown_refl _) _) HG.out⟩

set_option maxHeartbeats 4000000 in
theorem pair_is (R : Int) (k : Nat) (a : Option Addr) (n cap : Nat) (xs : List C3) (x y : C3) (w : World) (hr : Reads w a n xs) (hn : n ≤ 1048576) (hx : xs[k]? = some x) (hy : xs[k + 1]? = some y) (s : Bool) (hs : sibOf x y = s) :
    Calls Try.prog 60 #[.agg #[.int .i64 R, .slice a n cap], .int .i64 k] w fun e w' => e = .returned (.bool (s && (leftOk xs k && rightOk xs k))) ∧ w.grownBy w' none := by
  have hni : (n : Int) ≤ 1048576 := by omega
  have HR := Lib.hid hr
  have hlen := hr.len
  clear hr
  have HB := Lib.hid (MBox.new w R (.slice a n cap))
  have HG0 := Lib.hid (g_alloc (grown_refl w) (.cells #[.int .i64 R, .slice a n cap] 26))
  have hsc := specSibC_is x y
  rw [hs] at hsc
  have HS := Lib.hid hsc
  clear hsc hs
  obtain ⟨r, l, j⟩ := x
  obtain ⟨r', l', j'⟩ := y
  have hk2 := (List.getElem?_eq_some_iff.1 hy).1
  obtain ⟨g, rfl, -, d0, d1, d2⟩ := (HR.out.on HG0.out).at_ k _ hx
  obtain ⟨g_, hg_, -, e0, e1, e2⟩ := (HR.out.on HG0.out).at_ (k + 1) _ hy
  cases hg_
  dsimp only at d0 d1 d2 e0 e1 e2
  have HX := Lib.hid hx
  have hwk : IntKind.i64.wrap ((k : Int) + 1) = (k : Int) + 1 := IntWalk.i64_in _ (by omega)
  have k1 : (k : Int) < n := by omega
  have k2 : (k : Int) + 1 < n := by omega
  have k3 : (0 : Int) ≤ (k : Int) + 1 := by omega
  have k5 : ((k : Int) + 1).toNat = k + 1 := by omega
  clear hx hy
  go_enter Try.func60, Try.ntmps60
  have b0 := HB.out.c0
  have b1 := HB.out.c1
  go_upto_region 2 with fail
  have hg := HG0.out
  generalize w.alloc (.cells #[.int .i64 R, .slice (some ⟨g, 0, none⟩) n cap] 26) = W0 at *
  have hS : ∀ u, W0.grownBy u none → (fun w' => w'.cell? ⟨w.heap.size, 0, none⟩ = some (.int .i64 R) ∧ w'.cell? ⟨w.heap.size, 1, none⟩ = some (.slice (some ⟨g, 0, none⟩) n cap)
      ∧ w'.cell? ⟨g, k * 3, none⟩ = some (.int .i64 r) ∧ w'.cell? ⟨g, k * 3 + 1, none⟩ = some (.int .i64 l) ∧ w'.cell? ⟨g, k * 3 + 2, none⟩ = some (.int .i64 j)
      ∧ w'.cell? ⟨g, (k + 1) * 3, none⟩ = some (.int .i64 r') ∧ w'.cell? ⟨g, (k + 1) * 3 + 1, none⟩ = some (.int .i64 l') ∧ w'.cell? ⟨g, (k + 1) * 3 + 2, none⟩ = some (.int .i64 j') ∧ w.grownBy w' none) u := fun u h => ⟨(HB.out.kept h (by simp)).c0, (HB.out.kept h (by simp)).c1, h.cell d0 (by simp), h.cell d1 (by simp), h.cell d2 (by simp), h.cell e0 (by simp), h.cell e1 (by simp), h.cell e2 (by simp), grown_trans hg h⟩
  have HSS := Lib.hid hS
  clear hS d0 d1 d2 e0 e1 e2 b0 b1 hg
  refine wp_region_held_drew (S := (fun w' => w'.cell? ⟨w.heap.size, 0, none⟩ = some (.int .i64 R) ∧ w'.cell? ⟨w.heap.size, 1, none⟩ = some (.slice (some ⟨g, 0, none⟩) n cap)
      ∧ w'.cell? ⟨g, k * 3, none⟩ = some (.int .i64 r) ∧ w'.cell? ⟨g, k * 3 + 1, none⟩ = some (.int .i64 l) ∧ w'.cell? ⟨g, k * 3 + 2, none⟩ = some (.int .i64 j)
      ∧ w'.cell? ⟨g, (k + 1) * 3, none⟩ = some (.int .i64 r') ∧ w'.cell? ⟨g, (k + 1) * 3 + 1, none⟩ = some (.int .i64 l') ∧ w'.cell? ⟨g, (k + 1) * 3 + 2, none⟩ = some (.int .i64 j') ∧ w.grownBy w' none)) (by kernel_rfl) (HSS.out _ (Cell.g_drew (grown_refl W0))) (fun hHeld => ?_)
  refine takeH (i := 0) rfl rfl (by kernel_rfl) (by kernel_rfl) (by kernel_rfl) (fun _ _ _ h => h) (by rfl) (by intro w hSw; (try dsimp only at hSw); go_simp; first | done | with_reducible rfl) (by assumption) ?_
  simp only [List.setIfInBounds_toArray, List.set_cons_zero, List.set_cons_succ]
  refine takeH (i := 1) rfl rfl (by kernel_rfl) (by kernel_rfl) (by kernel_rfl) (fun _ _ _ h => h) (by rfl) (by intro w hSw; (try dsimp only at hSw); go_simp; first | done | with_reducible rfl) (by assumption) ?_
  simp only [List.setIfInBounds_toArray, List.set_cons_zero, List.set_cons_succ]
  refine takeH (i := 2) rfl rfl (by kernel_rfl) (by kernel_rfl) (by kernel_rfl) (fun _ _ _ h => h) (by rfl) (by intro w hSw; (try dsimp only at hSw); go_simp; first | done | with_reducible rfl) (by assumption) ?_
  simp only [List.setIfInBounds_toArray, List.set_cons_zero, List.set_cons_succ]
  refine takeH (i := 3) rfl rfl (by kernel_rfl) (by kernel_rfl) (by kernel_rfl) (fun _ _ _ h => h) (by rfl) (by intro w hSw; (try dsimp only at hSw); go_simp; first | done | with_reducible rfl) (by assumption) ?_
  simp only [List.setIfInBounds_toArray, List.set_cons_zero, List.set_cons_succ]
  refine takeH (i := 4) rfl rfl (by kernel_rfl) (by kernel_rfl) (by kernel_rfl) (fun _ _ _ h => h) (by rfl) (by intro w hSw; (try dsimp only at hSw); go_simp; first | done | with_reducible rfl) (by assumption) ?_
  simp only [List.setIfInBounds_toArray, List.set_cons_zero, List.set_cons_succ]
  refine takeH (i := 5) rfl rfl (by kernel_rfl) (by kernel_rfl) (by kernel_rfl) (fun _ _ _ h => h) (by rfl) (by intro w hSw; (try dsimp only at hSw); go_simp; first | done | with_reducible rfl) (by assumption) ?_
  simp only [List.setIfInBounds_toArray, List.set_cons_zero, List.set_cons_succ]
  refine takeH (i := 6) rfl rfl (by kernel_rfl) (by kernel_rfl) (by kernel_rfl) (fun _ _ _ h => h) (by rfl) (by intro w hSw; (try dsimp only at hSw); go_simp; first | done | with_reducible rfl) (by assumption) ?_
  simp only [List.setIfInBounds_toArray, List.set_cons_zero, List.set_cons_succ]
  refine takeH (i := 7) rfl rfl (by kernel_rfl) (by kernel_rfl) (by kernel_rfl) (fun _ _ _ h => h) (by rfl) (by intro w hSw; (try dsimp only at hSw); go_simp; first | done | with_reducible rfl) (by assumption) ?_
  simp only [List.setIfInBounds_toArray, List.set_cons_zero, List.set_cons_succ]
  refine takeH (i := 8) rfl rfl (by kernel_rfl) (by kernel_rfl) (by kernel_rfl) (fun _ _ _ h => h) (by rfl) (by intro w hSw; (try dsimp only at hSw); go_simp; first | done | with_reducible rfl) (by assumption) ?_
  simp only [List.setIfInBounds_toArray, List.set_cons_zero, List.set_cons_succ]
  refine takeH (i := 9) rfl rfl (by kernel_rfl) (by kernel_rfl) (by kernel_rfl) (fun _ _ _ h => h) (by rfl) (by intro w hSw; (try dsimp only at hSw); go_simp; first | done | with_reducible rfl) (by assumption) ?_
  simp only [List.setIfInBounds_toArray, List.set_cons_zero, List.set_cons_succ]
  refine takeH (i := 10) rfl rfl (by kernel_rfl) (by kernel_rfl) (by kernel_rfl) (fun _ _ _ h => h) (by rfl) (by intro w hSw; (try dsimp only at hSw); go_simp; first | done | with_reducible rfl) (by assumption) ?_
  simp only [List.setIfInBounds_toArray, List.set_cons_zero, List.set_cons_succ]
  refine wpAnyH_ready (rs := [11]) (by kernel_rfl) (by simp) ?_
  refine AllReadyH.cons rfl (fun K hK => ?_) AllReadyH.nil
  go_simp
  refine (HS.out _).mono ?_
  rintro e w2 ⟨rfl, hgc⟩
  have HG2 := Lib.hid (grown_trans (Cell.g_drew (grown_refl W0)) hgc)
  clear hgc
  refine hK.out _ _ (HSS.out _ HG2.out) (fun hHeld => ?_)
  clear hK K
  try simp only [Act.put, List.setIfInBounds_toArray, List.set_cons_zero, List.set_cons_succ]
  refine takeH (i := 12) rfl rfl (by kernel_rfl) (by kernel_rfl) (by kernel_rfl) (fun _ _ _ h => h) (by rfl) (by intro w hSw; (try dsimp only at hSw); go_simp; first | done | with_reducible rfl) (by assumption) ?_
  simp only [List.setIfInBounds_toArray, List.set_cons_zero, List.set_cons_succ]
  refine wpAnyH_done (by kernel_rfl) ?_ _
  go_split_ands
  clear HB HG0 HS HSS HG2
  rename_i hgw
  cases s with
  | false =>
    go_wp2_with fail
    go_ret
    exact ⟨rfl, hgw⟩
  | true =>
    by_cases hk : k = 0
    · subst hk
      by_cases hl : n ≤ 0 + 2
      · have HZ := Lib.hid (right_last (xs := xs) (k := 0) (by omega))
        go_wp2_with fail
        go_ret
        exact ⟨by rw [left_first, HZ.out]; rfl, hgw⟩
      · obtain ⟨rz, lz, jz, hz⟩ := get_of_lt hlen (k := 0 + 2) (by omega)
        obtain ⟨g_, hg_, -, z0, z1, z2⟩ := (HR.out.on hgw).at_ (0 + 2) _ hz
        cases hg_
        dsimp only at z0 z1 z2
        have HZ := Lib.hid (right_of hz HX.out)
        have HD := Lib.hid (show decide ((n : Int) ≤ 2) = false from decide_eq_false (by omega))
        go_wp2_with fail
        go_ret
        refine ⟨?_, hgw⟩
        rw [left_first, HZ.out]
        show Ending.returned (.bool (decide ((n : Int) ≤ 2) || decide (lz ≤ l))) = Ending.returned (.bool (true && (true && decide (lz ≤ l))))
        rw [HD.out]
        rfl
    · obtain ⟨rq, lq, jq, hq⟩ := get_of_lt hlen (k := k - 1) (by omega)
      obtain ⟨g_, hg_, -, q0, q1, q2⟩ := (HR.out.on hgw).at_ (k - 1) _ hq
      cases hg_
      dsimp only at q0 q1 q2
      have HL := Lib.hid (left_of (by omega) hq HX.out)
      have hkm : IntKind.i64.wrap ((k : Int) - 1) = (k : Int) - 1 := IntWalk.i64_in _ (by omega)
      have hkn : ((k : Int) - 1).toNat = k - 1 := by omega
      have k6 : (0 : Int) ≤ (k : Int) - 1 := by omega
      have k7 : (k : Int) - 1 < n := by omega
      by_cases hle : lq ≤ l
      · have HLE := Lib.hid (decide_eq_true hle)
        by_cases hl : n ≤ k + 2
        · have HZ := Lib.hid (right_last (xs := xs) (k := k) (by omega))
          go_wp2_with fail
          go_ret
          exact ⟨by rw [HL.out, HZ.out]; dsimp only; rw [HLE.out]; rfl, hgw⟩
        · obtain ⟨rz, lz, jz, hz⟩ := get_of_lt hlen (k := k + 2) (by omega)
          obtain ⟨g_, hg_, -, z0, z1, z2⟩ := (HR.out.on hgw).at_ (k + 2) _ hz
          cases hg_
          dsimp only at z0 z1 z2
          have HZ := Lib.hid (right_of hz HX.out)
          have HD := Lib.hid (show decide ((n : Int) ≤ (k : Int) + 2) = false from decide_eq_false (by omega))
          go_wp2_with fail
          go_ret
          refine ⟨?_, hgw⟩
          rw [HL.out, HZ.out]
          show Ending.returned (.bool (decide ((n : Int) ≤ (k : Int) + 2) || decide (lz ≤ l))) = Ending.returned (.bool (true && (decide (lq ≤ l) && decide (lz ≤ l))))
          rw [HD.out, HLE.out]
          rfl
      · have HLE := Lib.hid (decide_eq_false hle)
        go_wp2_with fail
        go_ret
        exact ⟨by rw [HL.out]; dsimp only; rw [HLE.out]; rfl, hgw⟩


set_option maxHeartbeats 2000000 in
theorem specMayCo_is (R i : Int) (a : Option Addr) (n cap : Nat) (xs : List C3) (w : World) (hr : Reads w a n xs) (hn : n ≤ 1048576) :
    Calls Try.prog 30 #[.agg #[.int .i64 R, .slice a n cap], .int .i64 i] w fun e w' => e = .returned (.bool (mayCo R xs i)) ∧ w.grownBy w' none := by
  have hni : (n : Int) ≤ 1048576 := by omega
  have HN := Lib.hid hn; clear hn
  have HR := Lib.hid hr
  have hlen := hr.len
  clear hr
  have HB := Lib.hid (MBox.new w R (.slice a n cap))
  have hok : ∀ u, Reads u a n xs → Calls Try.prog 20 #[.agg #[.int .i64 R, .slice a n cap]] u fun e w' => e = .returned (.bool (meshOk R xs)) ∧ u.grownBy w' none := fun u h => specMeshOk_is R a n cap xs u h HN.out
  have HOK := Lib.hid hok; clear hok
  have hwn : IntKind.i64.wrap ((n : Int) - 2) = (n : Int) - 2 := IntWalk.i64_in _ (by omega)
  cases hm : meshOk R xs with
  | false =>
    rw [mayCo_bad hm]
    rw [hm] at HOK
    go_enter Try.func30, Try.ntmps30
    go_wp2_with (go_at_call 20; (with_reducible refine (HOK.out _ (HR.out.past _)).mono ?_); rintro e w1 ⟨rfl, hg⟩; have HG := Lib.hid hg; clear hg)
    go_ret
    exact ⟨rfl, grown_trans (g_alloc (grown_refl _) _) HG.out⟩
  | true =>
    have HM := Lib.hid hm
    rw [hm] at HOK
    clear hm
    by_cases h0 : ¬ (0 ≤ i ∧ i ≤ (n : Int) - 2)
    · have hf : mayCo R xs i = false := by
        by_cases h1 : i < 0
        · exact mayCo_low h1
        · exact mayCo_high (by omega)
      rw [hf]
      have HI := Lib.hid (in_to i 0 ((n : Int) - 2) false (decide_eq_false h0))
      go_enter Try.func30, Try.ntmps30
      go_wp2_with (first
        | (go_at_call 20; (with_reducible refine (HOK.out _ (HR.out.past _)).mono ?_); rintro e w1 ⟨rfl, hg⟩; have b1 := (HB.out.kept hg (by simp)).c1; have HG := Lib.hid hg; clear hg)
        | (go_at_call 51; (with_reducible refine (HI.out _).mono ?_); rintro e w2 ⟨rfl, rfl⟩))
      go_ret
      exact ⟨rfl, grown_trans (g_alloc (grown_refl _) _) HG.out⟩
    rw [Decidable.not_not] at h0
    have HI := Lib.hid (in_to i 0 ((n : Int) - 2) true (decide_eq_true h0))
    obtain ⟨k, rfl⟩ : ∃ k : Nat, i = k := ⟨i.toNat, by omega⟩
    obtain ⟨r, l, j, hx⟩ := get_of_lt hlen (k := k) (by omega)
    obtain ⟨r', l', j', hy⟩ := get_of_lt hlen (k := k + 1) (by omega)
    rw [mayCo_in HM.out (by omega), pairOk, sibAt_of hx hy]
    have HP := Lib.hid (fun u h => pair_is R k a n cap xs _ _ u h HN.out hx hy _ rfl)
    clear hx hy h0
    go_enter Try.func30, Try.ntmps30
    go_wp2_with (first
      | (go_at_call 20; (with_reducible refine (HOK.out _ (HR.out.past _)).mono ?_); rintro e w1 ⟨rfl, hg⟩; have hb := HB.out.kept hg (by simp); have b0 := hb.c0; have b1 := hb.c1; have HG := Lib.hid hg; clear hg hb)
      | (go_at_call 51; (with_reducible refine (HI.out _).mono ?_); rintro e w2 ⟨rfl, rfl⟩)
      | (go_at_call 60; (with_reducible refine (HP.out _ ((HR.out.past _).on HG.out)).mono ?_); rintro e w3 ⟨rfl, hg⟩; have HG3 := Lib.hid hg; clear hg))
    go_ret
    exact ⟨rfl, grown_trans (grown_trans (g_alloc (grown_refl _) _) HG.out) HG3.out⟩
end Go.Proofs.Ytmkmlfaekiofcaa.Mesh
