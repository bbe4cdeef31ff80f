/- States at rest: the program's WaterLine, as a contract: what it answers; nothing that was there is written.
   Conditions: at most 2^20 leaves and numbers. -/
import Derived.Test.YtnelgnfahkljmaaStRestP
import Derived.Test.YtnelgnfahkljmaaStI
set_option maxRecDepth 100000
namespace Go.Proofs.Ytnelgnfahkljmaa.State
open Go.ChangeShapes Go.WideShapes Go.ChangeAt Go.RowKit Go.Joins Go.Proofs.Ytnelgnfahkljmaa.Cell Go.Proofs.Ytnelgnfahkljmaa.Mesh Go.Proofs.Ytnelgnfahkljmaa.Law Go.Proofs.Ytnelgnfahkljmaa.Ints Go.Deep

theorem widthI_g (l : Int) (w : World) : Calls Try.prog 50 #[.int .i64 l] w fun e w' => e = .returned (.int .i64 (widthOf l)) ∧ w.grownBy w' none :=
  (width_is l w).mono fun _ _ ⟨he, hw⟩ => ⟨he, hw ▸ grown_refl _⟩

set_option maxHeartbeats 8000000 in
theorem waterLine_is (R : Int) (a1 a2 a3 a4 : Option Addr) (n1 n2 n3 n4 c1 c2 c3 c4 : Nat) (xs : List C3) (ms ts bs : List Int) (w : World) (h : ReadsS w a1 a2 a3 a4 n1 n2 n3 n4 xs ms ts bs) (h1 : n1 ≤ 1048576) (h2 : n2 ≤ 1048576) (h3 : n3 ≤ 1048576) (h4 : n4 ≤ 1048576) :
    Calls Try.prog 19 #[.agg #[.int .i64 R, .slice a1 n1 c1, .slice a2 n2 c2, .slice a3 n3 c3, .slice a4 n4 c4]] w fun e w' => e = .returned (.tuple #[.int .i64 (waterG R xs ms ts bs).1, .int .i64 (waterG R xs ms ts bs).2]) ∧ w.grownBy w' none := by
  have hok : ∀ u, w.grownBy u none → Calls Try.prog 41 #[.agg #[.int .i64 R, .slice a1 n1 c1, .slice a2 n2 c2, .slice a3 n3 c3, .slice a4 n4 c4]] u fun e w' => e = .returned (.bool (stOk R xs ms ts bs)) ∧ u.grownBy w' none := fun u hu => stateOk_is R a1 a2 a3 a4 n1 n2 n3 n4 c1 c2 c3 c4 xs ms ts bs u (h.on hu) h1 h2 h3 h4
  have HOK := Lib.hid hok
  have HE := Lib.hid ((Held.nil w).box 31 #[.int .i64 R, .slice a1 n1 c1, .slice a2 n2 c2, .slice a3 n3 c3, .slice a4 n4 c4])
  clear hok
  unfold waterG
  cases hs : stOk R xs ms ts bs with
  | false =>
    rw [hs] at HOK
    clear hs
    go_enter Try.func19, Try.ntmps19
    go_upto_region 1 with fail
    generalize w.alloc (.cells #[.int .i64 R, .slice a1 n1 c1, .slice a2 n2 c2, .slice a3 n3 c3, .slice a4 n4 c4] 31) = W0 at *
    obtain ⟨p0, p1, p2, p3, p4⟩ := box5 (HE.out.nth 0 rfl)
    go_wp2_with (go_at_call 41; ((with_reducible refine (HOK.out _ HE.out.gr).mono ?_); rintro e w1 ⟨rfl, hg⟩; have HE1 := Lib.hid (HE.out.on hg); clear hg))
    exact bodyPost_ret_by (results_tmp2 (fn := Try.f19) rfl _ _ _) rfl ⟨rfl, HE1.out.gr⟩
  | true =>
    rw [hs] at HOK
    rw [if_pos rfl]
    have hmk : meshOk R xs = true := by
      obtain ⟨p1, -⟩ := stOk_parts hs
      unfold balanced at p1; simp only [Bool.and_eq_true] at p1; exact p1.1
    obtain ⟨-, hx0, hx1⟩ := mesh_parts hmk
    have hl := h.l.len
    obtain rfl : n2 = n1 := by rw [← h.m.len, (stOk_parts hs).2.1.1, hl]
    have hni : (n2 : Int) ≤ 128 := by omega
    have hm2 := h.m.len
    rw [hm2]
    have HRL := Lib.hid h.l; have HRM := Lib.hid h.m
    have HEN := Lib.hid fun (k : Nat) (hk : k < n2) => ends_at hmk (k := k) (by omega)
    clear hs h h1 h2 h3 h4 hx0 hx1 hl hmk hm2
    go_enter Try.func19, Try.ntmps19
    go_upto_region 1 with fail
    generalize w.alloc (.cells #[.int .i64 R, .slice a1 n2 c1, .slice a2 n2 c2, .slice a3 n3 c3, .slice a4 n4 c4] 31) = W0 at *
    obtain ⟨p0, p1, p2, p3, p4⟩ := box5 (HE.out.nth 0 rfl)
    go_wp2_with (go_at_call 41; ((with_reducible refine (HOK.out _ HE.out.gr).mono ?_); rintro e w1 ⟨rfl, hg⟩; have HE1 := Lib.hid (HE.out.on hg); obtain ⟨q0, q1, q2, q3, q4⟩ := box5 (HE1.out.nth 0 rfl); clear hg))
    clear p0 p1 p2 p3 p4 q0 q1 q2 q3 q4 HE HOK
    go_loopw [4, 5, 15] (fun a b i wr => ∃ (k : Nat) (u v : Int), (k : Int) ≤ n2 ∧ i = .int .i64 k ∧ a = .int .i64 u ∧ b = .int .i64 v ∧ Hid (u = (water xs ms k).1 ∧ v = (water xs ms k).2) ∧ Hid (Held w wr [boxG w.heap.size 31 #[.int .i64 R, .slice a1 n2 c1, .slice a2 n2 c2, .slice a3 n3 c3, .slice a4 n4 c4]])) (fun _ _ i _ => n2 - (intOf i).toNat)
    case atStart => exact ⟨0, 0, 0, by omega, rfl, rfl, rfl, Lib.hid ⟨rfl, rfl⟩, HE1⟩
    case round =>
      clear HE1
      obtain ⟨k, u, v, hk, rfl, rfl, rfl, HS, HF⟩ := hrel
      by_cases hlt : (k : Int) < n2
      · have HK := Lib.hid (show k < n2 by omega)
        obtain ⟨r, l, i, hx⟩ := get_of_lt HRL.out.len (k := k) HK.out
        obtain ⟨m, hm⟩ := getI HRM.out.len (k := k) HK.out
        obtain ⟨x', hx', eb, ee, z0, z1, z2⟩ := HEN.out k HK.out
        rw [hx] at hx'
        cases hx'
        have HB := Lib.hid (show begAt xs k = startOf r l i from eb)
        have HN := Lib.hid (show endAt xs k = startOf r l i + widthOf l from ee)
        rw [HB.out] at z0 z1
        rw [HN.out] at z1 z2
        obtain ⟨y0, y1⟩ := wd_bounds l
        obtain ⟨g1, rfl, -, d0, d1, d2⟩ := (HRL.out.on HF.out.gr).at_ k _ hx
        obtain ⟨g2, o2, rfl, -⟩ := (HRM.out.on HF.out.gr).at_ k _ hm
        dsimp only at d0 d1 d2
        have HM := Lib.hid (msAt_of hm)
        have HMM := Lib.hid hm
        clear hx eb ee hm
        go_upto_region 7 with fail
        have HF1 := Lib.hid (HF.out.on (World.grownBy_alloc wr (.cells #[.int .i64 r, .int .i64 l, .int .i64 i] 63) none))
        have HQ := Lib.hid (Cell.laid_new wr 63 r l i)
        obtain ⟨B, hB⟩ : ∃ B, B = wr.heap.size := ⟨_, rfl⟩
        rw [← hB] at HQ ⊢
        clear hB d0 d1 d2 HF
        generalize wr.alloc (.cells #[.int .i64 r, .int .i64 l, .int .i64 i] 63) = W1 at *
        obtain ⟨p0, p1, p2, p3, p4⟩ := box5 (HF1.out.nth 0 rfl)
        obtain ⟨g2', o2', e', f0⟩ := (HRM.out.on HF1.out.gr).at_ k _ HMM.out
        cases e'
        obtain ⟨q0, q1, q2, -⟩ := HQ.out
        have e1 : IntKind.i64.wrap (startOf r l i + widthOf l) = startOf r l i + widthOf l := IntWalk.i64_in _ (by omega)
        by_cases hz : m = 0
        · subst hz
          have HW := Lib.hid (water_dry (xs := xs) HM.out)
          clear z0 z1 z2 y0 y1 q0 q1 q2 e1
          go_wp2_with fail
          go_roundw
          case rel => exact ⟨k + 1, u, v, by omega, by go_num, rfl, rfl, Lib.hid (by rw [HW.out]; exact HS.out), HF1⟩
          case measure => simp [intOf]; omega
        · have hz' : msAt ms k ≠ 0 := by rw [HM.out]; exact hz
          by_cases hv : v = 0
          · subst hv
            have HW := Lib.hid (water_first (xs := xs) hz' HS.out.2.symm)
            clear hz'
            go_upto_region 10 with (go_at_call 49; ((with_reducible refine (start_is r l i _).mono ?_); rintro e wa ⟨rfl, hga⟩; have HF2 := Lib.hid (HF1.out.on hga); have HQ2 := Lib.hid (HQ.out.on hga); clear hga))
            clear p0 p1 p2 p3 p4 f0 q0 q1 q2 HF1 HQ
            obtain ⟨q0, q1, q2, -⟩ := HQ2.out
            have hgg : wa.grownBy wa none := grown_refl _
            clear HQ2
            go_region_held3 (fun w' => w'.cell? ⟨B, 0, none⟩ = some (.int .i64 r) ∧ w'.cell? ⟨B, 1, none⟩ = some (.int .i64 l) ∧ w'.cell? ⟨B, 2, none⟩ = some (.int .i64 i) ∧ wa.grownBy w' none)
              ((go_split_ands; refine ⟨?_, ?_, ?_, ?_⟩ <;> first | assumption | exact hgc.cell (by assumption) (by simp) | exact Cell.grown_trans (by assumption) hgc | exact Cell.g_drew (by assumption)))
              (first
                | (go_at_call 49; ((with_reducible refine (start_is r l i _).mono ?_); rintro e w'' ⟨rfl, hgc⟩))
                | (go_at_call 50; ((with_reducible refine (widthI_g l _).mono ?_); rintro e w'' ⟨rfl, hgc⟩)))
            go_split_ands
            go_wp2_with fail
            go_roundw
            case rel => exact ⟨k + 1, startOf r l i, startOf r l i + widthOf l, by omega, by go_num, rfl, by first | rfl | go_num, Lib.hid (by rw [HW.out, HB.out, HN.out]; exact ⟨rfl, rfl⟩), Lib.hid (HF2.out.on (by assumption))⟩
            case measure => simp [intOf]; omega
          · have HW := Lib.hid (water_next (xs := xs) hz' (by rw [← HS.out.2]; exact hv))
            clear hz'
            go_upto_region 10 with fail
            clear p0 p1 p2 p3 p4 f0 HQ
            have hgg : W1.grownBy W1 none := grown_refl _
            go_region_held3 (fun w' => w'.cell? ⟨B, 0, none⟩ = some (.int .i64 r) ∧ w'.cell? ⟨B, 1, none⟩ = some (.int .i64 l) ∧ w'.cell? ⟨B, 2, none⟩ = some (.int .i64 i) ∧ W1.grownBy w' none)
              ((go_split_ands; refine ⟨?_, ?_, ?_, ?_⟩ <;> first | assumption | exact hgc.cell (by assumption) (by simp) | exact Cell.grown_trans (by assumption) hgc | exact Cell.g_drew (by assumption)))
              (first
                | (go_at_call 49; ((with_reducible refine (start_is r l i _).mono ?_); rintro e w'' ⟨rfl, hgc⟩))
                | (go_at_call 50; ((with_reducible refine (widthI_g l _).mono ?_); rintro e w'' ⟨rfl, hgc⟩)))
            go_split_ands
            go_wp2_with fail
            go_roundw
            case rel => exact ⟨k + 1, u, startOf r l i + widthOf l, by omega, by go_num, rfl, by first | rfl | go_num, Lib.hid (by rw [HW.out, HN.out]; exact ⟨HS.out.1, rfl⟩), Lib.hid (HF1.out.on (by assumption))⟩
            case measure => simp [intOf]; omega
      · obtain rfl : n2 = k := by omega
        go_wp2_with fail
        exact bodyPost_ret_by (results_tmp2 (fn := Try.f19) rfl _ _ _) rfl ⟨by rw [← HS.out.1, ← HS.out.2]; rfl, HF.out.gr⟩
end Go.Proofs.Ytnelgnfahkljmaa.State
