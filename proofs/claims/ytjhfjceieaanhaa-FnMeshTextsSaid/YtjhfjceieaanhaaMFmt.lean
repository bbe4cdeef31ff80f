/- Meshes: FormatMesh of the program, as a contract: the text that it answers; nothing that was there is written.
   Conditions: at most 2^20 leaves. -/
import Derived.Test.YtjhfjceieaanhaaMFmtPure
import Derived.Deep.CutRange
import Derived.Deep.DeepCutAuto
namespace Go.Proofs.Ytjhfjceieaanhaa.Mesh
open Go.ChangeShapes Go.WideShapes Go.ChangeAt Go.RowKit Go.Proofs.Ytjhfjceieaanhaa.Cell

theorem laid_row {w w' : World} {C : Nat} {r l i : Int} {row : Option Nat} (h : Laid w C r l i) (hg : w.grownBy w' row) (hne : some C ≠ row) : Laid w' C r l i :=
  ⟨hg.cell h.c0 hne, hg.cell h.c1 hne, hg.cell h.c2 hne, Nat.lt_of_lt_of_le h.lt hg.size⟩

set_option maxHeartbeats 4000000 in
theorem fmt_is (R : Int) (a : Option Addr) (n cap : Nat) (xs : List C3) (w : World) (hr : Reads w a n xs) (hn : n ≤ 1048576) :
    Calls Try.prog 19 #[.agg #[.int .i64 R, .slice a n cap]] w fun e w' => e = .returned (.string ⟨(fmtOf R xs).toArray⟩) ∧ w.grownBy w' none := by
  have HN := Lib.hid hn; clear hn
  have HR0 := Lib.hid hr; clear hr
  have hok : ∀ u, Reads u a n xs → Calls Try.prog 18 #[.agg #[.int .i64 R, .slice a n cap]] u fun e w' => e = .returned (.bool (meshOk R xs)) ∧ u.grownBy w' none := fun u h => meshOk_is R a n cap xs u h HN.out
  have HOK := Lib.hid hok; clear hok
  cases hm : meshOk R xs with
  | false =>
    rw [hm] at HOK
    rw [show fmtOf R xs = [] by simp [fmtOf, hm]]
    clear hm
    go_enter Try.func19, Try.ntmps19
    go_wp2_with (go_at_call 18; (with_reducible refine (HOK.out _ (HR0.out.past _)).mono ?_); rintro e w' ⟨rfl, hg⟩; have HG := Lib.hid hg; clear hg)
    go_ret
    exact ⟨rfl, grown_trans (g_alloc (grown_refl _) _) HG.out⟩
  | true =>
    rw [hm] at HOK
    obtain ⟨hlen, hall⟩ := ok_mesh hm
    rw [HR0.out.len] at hlen
    have hni : (n : Int) ≤ 128 := by omega
    have HLen := Lib.hid hlen; clear hlen
    have HAll := Lib.hid hall; clear hall
    rw [show fmtOf R xs = fmtTo xs n by simp [fmtOf, hm, HR0.out.len]]
    clear hm
    obtain ⟨i0, hi, hz0, hz1, hz2⟩ := info_parts infoU8
    go_enter Try.func19, Try.ntmps19
    go_wp2_with (first
      | (go_at_call 18; (with_reducible refine (HOK.out _ (HR0.out.past _)).mono ?_); rintro e w1 ⟨rfl, hg⟩; have hb := (boxM_new w 26 R (.slice a n cap)).on hg; have HB1 := Lib.hid hb; have HR1 := Lib.hid ((HR0.out.past _).on hg); have HG1 := Lib.hid (grown_trans (g_alloc (grown_refl _) _) hg); clear hg hb)
      | (at_make; refine wpList_make_own _ rfl _ _ 22 rfl w1.heap.size 5 i0 (.int .u8 0) 1 Try.underlying22 hi hz0 hz1 .i64 .i64 _ 135 rfl rfl (by simp) (by rw [hz2]; omega) (by unfold maxLen; omega) (Nat.le_refl _) ?_; intro w2 hown2 hgrow2; have HO2 := Lib.hid hown2; have HG2 := Lib.hid hgrow2; have hb1 := (HB1.out.on hgrow2).c1; clear hown2 hgrow2))
    go_loopw [3, 13] (fun v i wr => ∃ (k : Nat), (k : Int) ≤ n ∧ i = .int .i64 k ∧ Hid (wr.ownsRow w1.heap.size 5 1 v (fmtTo xs k).length (Lib.byteCells (fmtTo xs k))) ∧ Hid (w1.grownBy wr none)) (fun _ i _ => n - (intOf i).toNat)
    case atStart => exact ⟨0, by omega, rfl, HO2, HG2⟩
    case round =>
      obtain ⟨k, hk, rfl, HO, HG⟩ := hrel
      by_cases hlt : (k : Int) < n
      · obtain ⟨r, l, i, hx⟩ := get_of_lt HR1.out.len (k := k) (by omega)
        obtain ⟨g, rfl, hg, d0, d1, d2⟩ := (HR1.out.on HG.out).at_ k _ hx
        obtain ⟨-, -, l0, l1, -⟩ := ok_bounds (HAll.out k _ hx)
        have HX := Lib.hid hx; clear hx
        dsimp only at d0 d1 d2 l0 l1
        have hL := Cell.laid_new wr 30 r l i
        have hgx : wr.grownBy (wr.alloc (.cells #[.int .i64 r, .int .i64 l, .int .i64 i] 30)) none := World.grownBy_alloc _ _ _
        have HL := Lib.hid hL; clear hL
        have hbox := (HB1.out.on (grown_trans HG.out hgx)).c1
        have HRx := Lib.hid (HR1.out.on (grown_trans HG.out hgx))
        have HGx := Lib.hid hgx; clear hgx
        obtain ⟨c0, c1, c2, -⟩ := HL.out
        go_upto_region 7 with fail
        clear d0 d1 d2
        generalize wr.alloc (.cells #[.int .i64 r, .int .i64 l, .int .i64 i] 30) = wL at *
        go_cut [13, 31] from 13 to 41 (fun i' v wx => i' = .int .i64 k ∧ v = .bool (sepB xs k) ∧ Hid (wL.grownBy wx none))
        case first =>
          cases k with
          | zero =>
            go_quiet (fail)
            go_wp2_with fail
            go_meet
            exact ⟨rfl, rfl, Lib.hid (g_drewN (grown_refl _) _)⟩
          | succ k' =>
            obtain ⟨r', l', i', hy⟩ := get_of_lt HRx.out.len (k := k') (by omega)
            obtain ⟨g', hg', -, f0, -, -⟩ := HRx.out.at_ k' _ hy
            cases hg'
            dsimp only at f0
            by_cases hrr : r = r'
            · have hb : (r != r') = false := by simp [hrr]
              have HS := Lib.hid ((sepB_succ HX.out hy).trans hb)
              clear hy
              go_quiet (fail)
              go_wp2_with fail
              go_meet
              exact ⟨rfl, by rw [HS.out], Lib.hid (g_drewN (grown_refl _) _)⟩
            · have hb : (r != r') = true := by simp [hrr]
              have HS := Lib.hid ((sepB_succ HX.out hy).trans hb)
              clear hy
              go_quiet (fail)
              go_wp2_with fail
              go_meet
              exact ⟨rfl, by rw [HS.out], Lib.hid (g_drewN (grown_refl _) _)⟩
        case rest =>
          obtain ⟨rfl, hv, HW⟩ := hcut
          have HC := Lib.hid (grown_trans HGx.out HW.out)
          have HLw := Lib.hid (HL.out.on HW.out)
          have HOw := Lib.hid (own_on HO.out HC.out)
          have e8 : IntKind.u8.wrap (48 + l) = 48 + l := by rw [IntKind.wrap_u8]; omega
          have HD := Lib.hid (show Lib.byteCells [digit (lvlAt xs k)] = [.int .u8 (48 + l)] by rw [lvlAt_of HX.out, ← digit_val l0 l1]; rfl)
          have HM := Lib.hid (show (fmtTo xs k).length + 2 ≤ maxLen ∧ (fmtTo xs k).length + 2 ≤ 140737488355328 by have := fmtTo_len xs k; unfold maxLen; omega)
          have HBs : ∀ j, u3.ownBlock = some j → w1.heap.size ≤ j ∧ j < wr.heap.size := fun j hj => HO.out.lt j hj
          have HBl := Lib.hid HBs; clear HBs
          clear c0 c1 c2 hbox
          have HBB := Lib.hid (Nat.le_trans HG.out.size HC.out.size)
          cases hs : sepB xs k with
          | true =>
            rw [hs] at hv
            subst hv
            have HSep := Lib.hid (sepL_yes hs); clear hs
            go_wp2_with (first
              | (at_builtin; refine Lib.wpList_append_own_string _ rfl (.tmp 32) _ 22 9 rfl w1.heap.size 5 i0 Try.underlying22 Try.underlying9 hi hz0 hz1 hz2 _ _ _ rfl HOw.out ⟨#[124]⟩ rfl (by have := HM.out; simp [ByteArray.size]; omega) (by have := HM.out; simp [ByteArray.size]; omega) HBB.out ?_; intro v1 wa howna hgrowa hnil; clear hnil; have hgr : wc.grownBy wa u3.ownBlock := hgrowa; have hc1 := (laid_row HLw.out hgr (fun e => Nat.lt_irrefl _ (HBl.out _ e.symm).2)).c1; have HOa := Lib.hid howna; have HGa := Lib.hid hgr; clear howna hgrowa hgr)
              | (at_builtin; refine wpList_append_own _ rfl (.tmp 34) (.tmp 39) 22 rfl w1.heap.size 5 i0 (.int .u8 0) 1 1 Try.underlying22 hi hz0 hz1 hz2 rfl (by decide) _ _ _ rfl (HOa.out.alloc _) ⟨wa.heap.size, 0, none⟩ 1 1 [.int .u8 (48 + l)] rfl rfl (cell_one_new _ _ _) (fun x hx => by simp at hx; subst hx; rfl) (by have := HM.out; simp [ByteArray.size]; omega) (by have := HM.out; simp [ByteArray.size]; omega) (by have := HBB.out; have := HGa.out.size; simp; omega) ?_; intro v2 wb hownb hgrowb hnil2; clear hnil2; have HOb := Lib.hid hownb; have HGb := Lib.hid hgrowb; clear hownb hgrowb))
            refine ⟨⟨k + 1, by omega, by go_num, ?_, ?_⟩, by simp [intOf]; omega⟩
            · have h := HOb.out
              refine Lib.hid ?_
              rw [fmtTo_succ, HSep.out]
              have e : Lib.byteCells (fmtTo xs k ++ ([124] ++ [digit (lvlAt xs k)])) = Lib.byteCells (fmtTo xs k) ++ Lib.strCells ⟨#[124]⟩ ++ [.int .u8 (48 + l)] := by
                rw [← HD.out]; simp [Lib.byteCells]; rfl
              rw [e]
              simpa [ByteArray.size, Nat.add_assoc] using h
            · exact Lib.hid (g_row (g_row (grown_trans HG.out HC.out) HGa.out (fun j hj => (HBl.out j hj).1) |> fun h => g_alloc h _) HGb.out (fun j hj => (HOa.out.lt j hj).1))
          | false =>
            rw [hs] at hv
            subst hv
            have HSep := Lib.hid (sepL_no hs); clear hs
            have hc1 := HLw.out.c1
            go_wp2_with (first
              | (at_builtin; refine wpList_append_own _ rfl (.tmp 34) (.tmp 39) 22 rfl w1.heap.size 5 i0 (.int .u8 0) 1 1 Try.underlying22 hi hz0 hz1 hz2 rfl (by decide) _ _ _ rfl (HOw.out.alloc _) ⟨wc.heap.size, 0, none⟩ 1 1 [.int .u8 (48 + l)] rfl rfl (cell_one_new _ _ _) (fun x hx => by simp at hx; subst hx; rfl) (by have := HM.out; omega) (by have := HM.out; omega) (by have := HBB.out; simp; omega) ?_; intro v2 wb hownb hgrowb hnil2; clear hnil2; have HOb := Lib.hid hownb; have HGb := Lib.hid hgrowb; clear hownb hgrowb))
            refine ⟨⟨k + 1, by omega, by go_num, ?_, ?_⟩, by simp [intOf]; omega⟩
            · have h := HOb.out
              refine Lib.hid ?_
              rw [fmtTo_succ, HSep.out]
              have e : Lib.byteCells (fmtTo xs k ++ ([] ++ [digit (lvlAt xs k)])) = Lib.byteCells (fmtTo xs k) ++ [.int .u8 (48 + l)] := by
                rw [← HD.out]; simp [Lib.byteCells]
              rw [e]
              simpa using h
            · exact Lib.hid (g_row (g_alloc (grown_trans HG.out HC.out) _) HGb.out (fun j hj => (HBl.out j hj).1))
      · obtain rfl : k = n := by omega
        have hcv := string_own (P := Try.prog) (dst := 9) Try.underlying22 Try.underlying5 Try.underlying9 HO.out
        go_wp2_with fail
        go_ret
        exact ⟨rfl, grown_trans HG1.out HG.out⟩
end Go.Proofs.Ytjhfjceieaanhaa.Mesh
