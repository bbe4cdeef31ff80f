/- Meshes: FormatMesh of the reference model, as a contract: the text that it answers; nothing that was there is written.
   Conditions: at most 2^20 leaves. -/
import Derived.Test.YtjhfjceieaanhaaMFmtPure
import Derived.Test.YtjhfjceieaanhaaMOkS
import Derived.Deep.CutRange
import Derived.Deep.DeepCutAuto
namespace Go.Proofs.Ytjhfjceieaanhaa.Mesh
open Go.ChangeShapes Go.WideShapes Go.ChangeAt Go.RowKit Go.Proofs.Ytjhfjceieaanhaa.Cell

set_option maxHeartbeats 4000000 in
theorem specFmt_is (R : Int) (a : Option Addr) (n cap : Nat) (xs : List C3) (w : World) (hr : Reads w a n xs) (hn : n ≤ 1048576) :
    Calls Try.prog 35 #[.agg #[.int .i64 R, .slice a n cap]] w fun e w' => e = .returned (.string ⟨(fmtOf R xs).toArray⟩) ∧ w.grownBy w' none := by
  have HN := Lib.hid hn
  have hni : (n : Int) ≤ 1048576 := by omega
  clear hn
  have HR0 := Lib.hid hr; clear hr
  have hok : ∀ u, Reads u a n xs → Calls Try.prog 29 #[.agg #[.int .i64 R, .slice a n cap]] u fun e w' => e = .returned (.bool (meshOk R xs)) ∧ u.grownBy w' none := fun u h => specMeshOk_is R a n cap xs u h HN.out
  have HOK := Lib.hid hok; clear hok
  obtain ⟨w1, hw1⟩ : ∃ w1, w1 = w.alloc (.cells #[.int .i64 R, .slice a n cap] 26) := ⟨_, rfl⟩
  have HB1 := Lib.hid (show BoxM w1 w.heap.size R (.slice a n cap) from hw1 ▸ boxM_new _ _ _ _)
  have HG1 := Lib.hid (show w.grownBy w1 none from hw1 ▸ g_alloc (grown_refl _) _)
  have HR1 := Lib.hid (HR0.out.on HG1.out)
  have HC1 := Lib.hid hw1; clear hw1
  have hst : ∀ xs : List C3, Hid (((w.alloc (.cells #[.int .i64 R, .slice a n cap] 26)).alloc (.cells #[] 5)).ownsRow (w.heap.size + 1) 5 1 (.slice (some ⟨w.heap.size + 1, 0, none⟩) 0 0) (fmtTo xs 0).length (Lib.byteCells (fmtTo xs 0))) := fun xs => Lib.hid (by
    have h := World.ownsRow_lit (base := w.heap.size + 1) (size := 1) (e := 5) (w.alloc (.cells #[.int .i64 R, .slice a n cap] 26)) #[] 0 (by simp) (by unfold maxLen; omega) rfl
    simpa [fmtTo, Lib.byteCells] using h)
  have HST := Lib.hid hst; clear hst
  cases hm : meshOk R xs with
  | false =>
    rw [hm] at HOK
    rw [show fmtOf R xs = [] by simp [fmtOf, hm]]
    clear hm
    go_enter Try.func35, Try.ntmps35
    go_wp2_with fail
    go_loopw [3, 4] (fun v i wr => i = .int .i64 0 ∧ Hid (wr.ownsRow (w.heap.size + 1) 5 1 v 0 (Lib.byteCells [])) ∧ Hid (w1.grownBy wr none)) (fun _ i _ => 1 - (intOf i).toNat)
    case atStart => exact ⟨rfl, HST.out xs, Lib.hid (HC1.out ▸ g_alloc (grown_refl _) _)⟩
    case round =>
      obtain ⟨rfl, HO, HG⟩ := hrel
      have hb1 := (HB1.out.on HG.out).c1
      have hb0 := (HB1.out.on HG.out).c0
      by_cases hlt : (0 : Int) < n
      · go_wp2_with (go_at_call 29; (with_reducible refine (HOK.out _ (HR1.out.on HG.out)).mono ?_); rintro e w' ⟨rfl, hg⟩; have hcv := string_own (P := Try.prog) (dst := 9) Try.underlying22 Try.underlying5 Try.underlying9 (own_on HO.out hg); have HG' := Lib.hid (grown_trans HG.out hg); clear hg)
        go_ret
        exact ⟨rfl, grown_trans HG1.out HG'.out⟩
      · have hcv := string_own (P := Try.prog) (dst := 9) Try.underlying22 Try.underlying5 Try.underlying9 HO.out
        go_wp2_with fail
        go_ret
        exact ⟨rfl, grown_trans HG1.out HG.out⟩
  | true =>
    rw [hm] at HOK
    obtain ⟨hlen, hall⟩ := ok_mesh hm
    rw [HR0.out.len] at hlen
    have hni : (n : Int) ≤ 128 := by omega
    have HLen := Lib.hid hlen; clear hlen
    have HAll := Lib.hid hall; clear hall
    rw [show fmtOf R xs = fmtTo xs n by simp [fmtOf, hm, HR0.out.len]]
    clear hm
    obtain ⟨i0, hi, hz0, hz1, hz2⟩ := info_parts infoU8
    go_enter Try.func35, Try.ntmps35
    go_wp2_with fail
    go_loopw [3, 4] (fun v i wr => ∃ (k : Nat), (k : Int) ≤ n ∧ i = .int .i64 k ∧ Hid (wr.ownsRow (w.heap.size + 1) 5 1 v (fmtTo xs k).length (Lib.byteCells (fmtTo xs k))) ∧ Hid (w1.grownBy wr none)) (fun _ i _ => n - (intOf i).toNat)
    case atStart => exact ⟨0, by omega, rfl, HST.out xs, Lib.hid (HC1.out ▸ g_alloc (grown_refl _) _)⟩
    case round =>
      obtain ⟨k, hk, rfl, HO, HG⟩ := hrel
      have hb1 := (HB1.out.on HG.out).c1
      have hb0 := (HB1.out.on HG.out).c0
      by_cases hlt : (k : Int) < n
      · obtain ⟨r, l, i, hx⟩ := get_of_lt HR1.out.len (k := k) (by omega)
        have HX := Lib.hid hx; clear hx
        go_upto_region 5 with (go_at_call 29; (with_reducible refine (HOK.out _ (HR1.out.on HG.out)).mono ?_); rintro e wm ⟨rfl, hg⟩; have HGm := Lib.hid (grown_trans HG.out hg); have HOm := Lib.hid (own_on HO.out hg); clear hg)
        clear hb0 hb1
        obtain ⟨g, rfl, hg, d0, d1, d2⟩ := (HR1.out.on HGm.out).at_ k _ HX.out
        obtain ⟨-, -, l0, l1, -⟩ := ok_bounds (HAll.out k _ HX.out)
        dsimp only at d0 d1 d2 l0 l1
        have hbm := (HB1.out.on HGm.out).c1
        clear d1 d2
        go_cut [34] from 6 to 48 (fun v wx => v = .bool (sepB xs k) ∧ Hid (wm.grownBy wx none))
        case first =>
          cases k with
          | zero =>
            go_quiet (fail)
            go_wp2_with fail
            go_meet
            exact ⟨rfl, Lib.hid (g_drewN (grown_refl _) _)⟩
          | succ k' =>
            obtain ⟨r', l', i', hy⟩ := get_of_lt HR1.out.len (k := k') (by omega)
            obtain ⟨g', hg', -, f0, -, -⟩ := (HR1.out.on HGm.out).at_ k' _ hy
            cases hg'
            dsimp only at f0
            by_cases hrr : r = r'
            · have hb : (r != r') = false := by simp [hrr]
              have HS := Lib.hid ((sepB_succ HX.out hy).trans hb)
              clear hy
              go_quiet (fail)
              go_wp2_with fail
              go_meet
              exact ⟨by rw [HS.out], Lib.hid (g_drewN (grown_refl _) _)⟩
            · have hb : (r != r') = true := by simp [hrr]
              have HS := Lib.hid ((sepB_succ HX.out hy).trans hb)
              clear hy
              go_quiet (fail)
              go_wp2_with fail
              go_meet
              exact ⟨by rw [HS.out], Lib.hid (g_drewN (grown_refl _) _)⟩
        case rest =>
          obtain ⟨hv, HW⟩ := hcut
          have HC := Lib.hid (grown_trans HGm.out HW.out)
          have HOw := Lib.hid (own_on HOm.out HW.out)
          have e8 : IntKind.u8.wrap (48 + l) = 48 + l := by rw [IntKind.wrap_u8]; omega
          have HD := Lib.hid (show Lib.byteCells [digit (lvlAt xs k)] = [.int .u8 (48 + l)] by rw [lvlAt_of HX.out, ← digit_val l0 l1]; rfl)
          have HM := Lib.hid (show (fmtTo xs k).length + 2 ≤ maxLen ∧ (fmtTo xs k).length + 2 ≤ 140737488355328 by have := fmtTo_len xs k; unfold maxLen; omega)
          have HBl := Lib.hid (show ∀ j, u3.ownBlock = some j → w1.heap.size ≤ j from fun j hj => by have := (HO.out.lt j hj).1; rw [HC1.out]; simpa using this)
          have hsz : w1.heap.size = w.heap.size + 1 := by rw [HC1.out]; simp
          have HSZ := Lib.hid hsz; clear hsz
          have HBB := Lib.hid (show w.heap.size + 1 ≤ wc.heap.size from HSZ.out ▸ HC.out.size)
          clear d0 hbm
          cases hs : sepB xs k with
          | true =>
            rw [hs] at hv
            subst hv
            have HSep := Lib.hid (sepL_yes hs); clear hs
            go_wp2_with (first
              | (at_builtin; refine wpList_append_own _ rfl (.tmp 35) (.tmp 36) 22 rfl (w.heap.size + 1) 5 i0 (.int .u8 0) 1 1 Try.underlying22 hi hz0 hz1 hz2 rfl (by decide) _ _ _ rfl (HOw.out.alloc _) ⟨wc.heap.size, 0, none⟩ 1 1 [.int .u8 124] rfl rfl (cell_one_new _ _ _) (fun x hx => by simp at hx; subst hx; rfl) (by have := HM.out; omega) (by have := HM.out; omega) (by have := HBB.out; simp; omega) ?_; intro v1 wa howna hgrowa hnil; clear hnil; have hgr := g_row (g_alloc HC.out _) hgrowa (fun j hj => HBl.out j hj); have hba := (HB1.out.on hgr).c1; obtain ⟨g', hg', -, -, da1, -⟩ := (HR1.out.on hgr).at_ k _ HX.out; cases hg'; dsimp only at da1; have HOa := Lib.hid howna; have HGa := Lib.hid hgr; clear howna hgrowa hgr)
              | (at_builtin; refine wpList_append_own _ rfl (.tmp 38) (.tmp 47) 22 rfl (w.heap.size + 1) 5 i0 (.int .u8 0) 1 1 Try.underlying22 hi hz0 hz1 hz2 rfl (by decide) _ _ _ rfl (HOa.out.alloc _) ⟨wa.heap.size, 0, none⟩ 1 1 [.int .u8 (48 + l)] rfl rfl (cell_one_new _ _ _) (fun x hx => by simp at hx; subst hx; rfl) (by have := HM.out; omega) (by have := HM.out; omega) (by have := HSZ.out; have := HGa.out.size; simp; omega) ?_; intro v2 wb hownb hgrowb hnil2; clear hnil2; have HOb := Lib.hid hownb; have HGb := Lib.hid (g_row (g_alloc HGa.out _) hgrowb (fun j hj => by have := (HOa.out.lt j hj).1; rw [HSZ.out]; exact this)); clear hownb hgrowb))
            refine ⟨⟨k + 1, by omega, by go_num, ?_, HGb⟩, by simp [intOf]; omega⟩
            have h := HOb.out
            refine Lib.hid ?_
            rw [fmtTo_succ, HSep.out]
            have e : Lib.byteCells (fmtTo xs k ++ ([124] ++ [digit (lvlAt xs k)])) = Lib.byteCells (fmtTo xs k) ++ [.int .u8 124] ++ [.int .u8 (48 + l)] := by
              rw [← HD.out]; simp [Lib.byteCells]
            rw [e]
            simpa [Nat.add_assoc] using h
          | false =>
            rw [hs] at hv
            subst hv
            have HSep := Lib.hid (sepL_no hs); clear hs
            have hbc := (HB1.out.on HC.out).c1
            obtain ⟨g', hg', -, -, dc1, -⟩ := (HR1.out.on HC.out).at_ k _ HX.out
            cases hg'
            dsimp only at dc1
            go_wp2_with (first
              | (at_builtin; refine wpList_append_own _ rfl (.tmp 38) (.tmp 47) 22 rfl (w.heap.size + 1) 5 i0 (.int .u8 0) 1 1 Try.underlying22 hi hz0 hz1 hz2 rfl (by decide) _ _ _ rfl (HOw.out.alloc _) ⟨wc.heap.size, 0, none⟩ 1 1 [.int .u8 (48 + l)] rfl rfl (cell_one_new _ _ _) (fun x hx => by simp at hx; subst hx; rfl) (by have := HM.out; omega) (by have := HM.out; omega) (by have := HBB.out; simp; omega) ?_; intro v2 wb hownb hgrowb hnil2; clear hnil2; have HOb := Lib.hid hownb; have HGb := Lib.hid (g_row (g_alloc HC.out _) hgrowb (fun j hj => HBl.out j hj)); clear hownb hgrowb))
            refine ⟨⟨k + 1, by omega, by go_num, ?_, HGb⟩, by simp [intOf]; omega⟩
            have h := HOb.out
            refine Lib.hid ?_
            rw [fmtTo_succ, HSep.out]
            have e : Lib.byteCells (fmtTo xs k ++ ([] ++ [digit (lvlAt xs k)])) = Lib.byteCells (fmtTo xs k) ++ [.int .u8 (48 + l)] := by
              rw [← HD.out]; simp [Lib.byteCells]
            rw [e]
            simpa using h
      · obtain rfl : k = n := by omega
        have hcv := string_own (P := Try.prog) (dst := 9) Try.underlying22 Try.underlying5 Try.underlying9 HO.out
        go_wp2_with fail
        go_ret
        exact ⟨rfl, grown_trans HG1.out HG.out⟩
end Go.Proofs.Ytjhfjceieaanhaa.Mesh
