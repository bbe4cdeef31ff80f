/- States: the reference model's SurfaceOf, FaceFlux, AllFluxes, as contracts: what each answers; nothing that was there is written.
   Conditions: at most 2^20 leaves and numbers. -/
import Derived.Test.YtnelgnfahkljmaaStFluxU
import Derived.Test.YtnelgnfahkljmaaStFluxA
set_option maxRecDepth 100000
namespace Go.Proofs.Ytnelgnfahkljmaa.State
open Go.ChangeShapes Go.WideShapes Go.ChangeAt Go.RowKit Go.Joins Go.Proofs.Ytnelgnfahkljmaa.Cell Go.Proofs.Ytnelgnfahkljmaa.Mesh Go.Proofs.Ytnelgnfahkljmaa.Law Go.Proofs.Ytnelgnfahkljmaa.Ints Go.Deep


set_option maxHeartbeats 8000000 in
theorem specAllFluxes_is (R : Int) (a1 a2 a3 a4 : Option Addr) (n1 n2 n3 n4 c1 c2 c3 c4 : Nat) (xs : List C3) (ms ts bs : List Int) (w : World) (h : ReadsS w a1 a2 a3 a4 n1 n2 n3 n4 xs ms ts bs) (h1 : n1 ≤ 1048576) (h2 : n2 ≤ 1048576) (h3 : n3 ≤ 1048576) (h4 : n4 ≤ 1048576) :
    Calls Try.prog 53 #[.agg #[.int .i64 R, .slice a1 n1 c1, .slice a2 n2 c2, .slice a3 n3 c3, .slice a4 n4 c4]] w (GivesI (fluxesG R xs ms ts bs) w) := by
  have hok : ∀ u, w.grownBy u none → Calls Try.prog 38 #[.agg #[.int .i64 R, .slice a1 n1 c1, .slice a2 n2 c2, .slice a3 n3 c3, .slice a4 n4 c4]] u fun e w' => e = .returned (.bool (stOk R xs ms ts bs)) ∧ u.grownBy w' none := fun u hu => specStateOk_is R a1 a2 a3 a4 n1 n2 n3 n4 c1 c2 c3 c4 xs ms ts bs u (h.on hu) h1 h2 h3 h4
  have HOK := Lib.hid hok
  have HE := Lib.hid ((Held.nil w).box 31 #[.int .i64 R, .slice a1 n1 c1, .slice a2 n2 c2, .slice a3 n3 c3, .slice a4 n4 c4])
  have HEM := Lib.hid fun (W : World) => own_emptyI W W.heap.size (Nat.le_refl _)
  clear hok
  unfold fluxesG
  cases hs : stOk R xs ms ts bs with
  | false =>
    rw [hs] at HOK
    clear hs
    go_enter Try.func53, Try.ntmps53
    go_upto_region 1 with fail
    generalize w.alloc (.cells #[.int .i64 R, .slice a1 n1 c1, .slice a2 n2 c2, .slice a3 n3 c3, .slice a4 n4 c4] 31) = W0 at *
    go_upto_region 2 with fail
    have HE2 := Lib.hid (HE.out.row (World.grownBy_alloc W0 (.cells #[] 3) none) (HEM.out W0))
    obtain ⟨B, hB⟩ : ∃ B, B = W0.heap.size := ⟨_, rfl⟩
    rw [← hB] at HE2 ⊢
    clear hB HE
    generalize W0.alloc (.cells #[] 3) = W2 at *
    obtain ⟨p0, p1, p2, p3, p4⟩ := box5 (HE2.out.nth 0 rfl)
    go_wp2_with (go_at_call 38; ((with_reducible refine (HOK.out _ HE2.out.gr).mono ?_); rintro e w1 ⟨rfl, hg⟩; have HE3 := Lib.hid (HE2.out.on hg); clear hg))
    go_ret
    exact ⟨_, _, rfl, HE3.out.own 1 rfl, HE3.out.gr⟩
  | true =>
    rw [hs] at HOK
    rw [if_pos rfl]
    obtain ⟨-, hx0, hx1⟩ := mesh_parts (show meshOk R xs = true by
      obtain ⟨p1, -⟩ := stOk_parts hs
      unfold balanced at p1; simp only [Bool.and_eq_true] at p1; exact p1.1)
    have hl := h.l.len
    obtain rfl : n2 = n1 := by rw [← h.m.len, (stOk_parts hs).2.1.1, hl]
    obtain ⟨p, rfl⟩ : ∃ p, n2 = p + 1 := ⟨n2 - 1, by omega⟩
    have hpi : (p : Int) ≤ 128 := by omega
    have hfl : (fluxes xs ms bs).length = p := by rw [fluxes_len]; omega
    have HFX := Lib.hid fun (k : Nat) (hk : k + 1 < p + 1) (u : World) (hu : w.grownBy u none) => specFlux_is R a1 a2 a3 a4 (p + 1) (p + 1) n3 n4 c1 c2 c3 c4 k xs ms ts bs u (h.on hu) h1 hs hk
    have HXL := Lib.hid hl; have HFL := Lib.hid hfl
    obtain ⟨i0, hi0, hz0, hz1, hz2⟩ := info_parts infoInt
    clear hs h h1 h2 h3 h4 hx0 hx1 hl hfl
    go_enter Try.func53, Try.ntmps53
    go_upto_region 1 with fail
    generalize w.alloc (.cells #[.int .i64 R, .slice a1 (p + 1) c1, .slice a2 (p + 1) c2, .slice a3 n3 c3, .slice a4 n4 c4] 31) = W0 at *
    go_upto_region 2 with fail
    have HE2 := Lib.hid (HE.out.row (World.grownBy_alloc W0 (.cells #[] 3) none) (HEM.out W0))
    obtain ⟨B, hB⟩ : ∃ B, B = W0.heap.size := ⟨_, rfl⟩
    rw [← hB] at HE2 ⊢
    clear hB HE
    generalize W0.alloc (.cells #[] 3) = W2 at *
    obtain ⟨p0, p1, p2, p3, p4⟩ := box5 (HE2.out.nth 0 rfl)
    go_wp2_with (go_at_call 38; ((with_reducible refine (HOK.out _ HE2.out.gr).mono ?_); rintro e w1 ⟨rfl, hg⟩; have HE3 := Lib.hid (HE2.out.on hg); clear hg))
    clear p0 p1 p2 p3 p4 HE2 HOK HEM
    go_loopw [3, 4] (fun v i wr => ∃ (k : Nat) (q : Option Addr) (d : Nat), (k : Int) ≤ p ∧ i = .int .i64 k ∧ v = .slice q k d ∧ Hid (Held w wr [boxG w.heap.size 31 #[.int .i64 R, .slice a1 (p + 1) c1, .slice a2 (p + 1) c2, .slice a3 n3 c3, .slice a4 n4 c4], rowG 3 1 (.slice q k d) k (vals ((fluxes xs ms bs).take k))])) (fun _ i _ => p - (intOf i).toNat)
    case atStart => exact ⟨0, _, _, by omega, rfl, rfl, HE3⟩
    case round =>
      clear HE3
      obtain ⟨k, q, d, hk, rfl, rfl, HF⟩ := hrel
      obtain ⟨p0, p1, p2, p3, p4⟩ := box5 (HF.out.nth 0 rfl)
      by_cases hlt : (k : Int) < p
      · have HK := Lib.hid (show k < p by omega)
        have HC := Lib.hid (HFX.out k (by omega))
        have HT := Lib.hid (flux_take (xs := xs) (ms := ms) (bs := bs) (k := k) (by have := HXL.out; omega))
        generalize fluxAt xs ms bs k = F at HC HT
        go_wp2_with (first
          | (go_at_call 69; ((with_reducible refine (HC.out _ HF.out.gr).mono ?_); rintro e w4 ⟨rfl, hg⟩; have HF2 := Lib.hid (HF.out.on hg); clear hg))
          | (at_builtin; refine wpList_append_own_at _ rfl _ _ 27 rfl 0 3 i0 (.int .i64 0) 1 8 Try.underlying27 hi0 hz0 hz1 hz2 rfl (by decide) _ k (vals ((fluxes xs ms bs).take k)) rfl (own_on (HF2.out.nth 1 rfl) (World.grownBy_alloc w4 _ none)) ⟨w4.heap.size, 0, none⟩ 1 1 [.int .i64 F] rfl rfl (cell_one_new _ _ _) (fun x hx => by simp at hx; subst hx; rfl) (by have := HK.out; unfold maxLen; omega) (by have := HK.out; omega) (Nat.zero_le _) ?_; intro v' w6 hown hg _ hat; rw [HT.out] at hown; obtain ⟨q', d', rfl⟩ := own_shapeAny hown; have HE6 := Lib.hid ((HF2.out.on (World.grownBy_alloc w4 _ none)).appended 1 rfl hown hg hat); clear hown hg hat))
        exact ⟨⟨k + 1, q', d', by omega, by go_num, rfl, HE6⟩, by simp [intOf]; omega⟩
      · obtain rfl : p = k := by omega
        go_wp2_with fail
        go_ret
        have hr := HF.out.own 1 rfl
        rw [← HFL.out, List.take_length] at hr
        rw [HFL.out] at hr
        exact ⟨q, d, by rw [HFL.out]; rfl, by rw [HFL.out]; exact hr, HF.out.gr⟩
end Go.Proofs.Ytnelgnfahkljmaa.State
