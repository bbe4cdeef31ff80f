/- States: the reference model's draw of a state (l07State, DrawState), as contracts: a valid state in memory of the call's own; the cursor is one still.
   Conditions: at most 2^20 bytes; none of them lies in the call's own memory. -/
import Derived.Test.YtaccigmkddomaaaStFillS
import Derived.Test.YtaccigmkddomaaaDrawHeld
import Derived.Test.YtaccigmkddomaaaMDrawC
import Derived.Test.YtaccigmkddomaaaPkDraw
import Derived.Deep.RegionLaw
import Derived.Deep.AppendLies
set_option maxRecDepth 100000
namespace Go.Proofs.Ytaccigmkddomaaa.State
open Go.ChangeShapes Go.WideShapes Go.ChangeAt Go.RowKit Go.Joins Go.Proofs.Ytaccigmkddomaaa.Cell Go.Proofs.Ytaccigmkddomaaa.Mesh Go.Proofs.Ytaccigmkddomaaa.Law Go.Proofs.Ytaccigmkddomaaa.Ints Go.Deep

/-- The loop over the beds. -/
def BedsL (w : World) (C : Nat) (a : Option Addr) (len cap : Nat) (R : Int) (x : Option Addr) (n1 c : Nat) (xs : List C3) (B3 B4 : Nat) (k : Nat) (wr : World) : Prop :=
  ∃ (aB : Option Addr) (cB : Nat) (bs : List Int), bs.length = k ∧ bedsOk bs = true ∧ Held (cutW w C) wr [oldG w C, curG C a len cap, boxG w.heap.size 29 #[.int .i64 0, .slice none 0 0, .slice none 0 0, .slice none 0 0, .slice none 0 0], rowG 35 3 (.slice x n1 c) n1 (flatC xs), boxG B3 26 #[.int .i64 R, .slice x n1 c], boxG B4 29 #[.int .i64 R, .slice x n1 c, .slice none 0 0, .slice none 0 0, .slice aB k cB], rowG 3 1 (.slice aB k cB) k (vals bs)]
theorem beds_snoc {bs : List Int} {b : Int} (h : bedsOk bs = true) (h0 : 0 ≤ b) (h1 : b ≤ 1000000) : bedsOk (bs ++ [b]) = true := by
  unfold bedsOk at *
  rw [List.all_append, h]
  simp [bedOk, h0, h1]

/-- A drawn state: valid, small numbers, in memory of the call's own. -/
structure DrawnS (R : Int) (n1 n2 : Nat) (xs : List C3) (ms ts bs : List Int) : Prop where
  ok : stOk R xs ms ts bs = true
  l1 : xs.length = n1
  l2 : bs.length = n2
  small : ∀ m ∈ ms, 0 ≤ m ∧ m ≤ 20000
  leaves : 1 ≤ n1 ∧ n1 ≤ 128
def StCur (B C : Nat) (a : Option Addr) (len cap : Nat) (w : World) (e : Ending) (w' : World) : Prop :=
  ∃ (R : Int) (n1 n2 : Nat) (xs : List C3) (ms ts bs : List Int) (x1 : Option Addr) (c1 : Nat) (x2 : Option Addr) (c2 : Nat) (x3 : Option Addr) (c3 : Nat) (x4 : Option Addr) (c4 : Nat),
    e = .returned (.agg #[.int .i64 R, .slice x1 n1 c1, .slice x2 n1 c2, .slice x3 n1 c3, .slice x4 n2 c4]) ∧ DrawnS R n1 n2 xs ms ts bs ∧ OwnS w' w.heap.size (.slice x1 n1 c1) (.slice x2 n1 c2) (.slice x3 n1 c3) (.slice x4 n2 c4) n1 n1 n1 n2 xs ms ts bs ∧ Draw.Cur B w' C a len cap ∧ w.grownBy w' (some C)
/-- The loop over the leaves. -/
def MassL (w : World) (C : Nat) (a : Option Addr) (len cap : Nat) (R : Int) (x : Option Addr) (n1 n2 c : Nat) (xs : List C3) (bs : List Int) (aB : Option Addr) (cB B3 B4 : Nat) (k : Nat) (wr : World) : Prop :=
  ∃ (aM aT : Option Addr) (cM cT : Nat) (ms ts : List Int), ms.length = k ∧ ts.length = k ∧ (∀ m ∈ ms, 0 ≤ m ∧ m ≤ 20000) ∧ pairsOk ms ts = true ∧ Held (cutW w C) wr [oldG w C, curG C a len cap, boxG w.heap.size 29 #[.int .i64 0, .slice none 0 0, .slice none 0 0, .slice none 0 0, .slice none 0 0], rowG 35 3 (.slice x n1 c) n1 (flatC xs), boxG B3 26 #[.int .i64 R, .slice x n1 c], boxG B4 29 #[.int .i64 R, .slice x n1 c, .slice aM k cM, .slice aT k cT, .slice aB n2 cB], rowG 3 1 (.slice aB n2 cB) n2 (vals bs), rowG 3 1 (.slice aM k cM) k (vals ms), rowG 3 1 (.slice aT k cT) k (vals ts)]
theorem pairs_snoc {ms ts : List Int} {m t : Int} (hl : ts.length = ms.length) (h : pairsOk ms ts = true) (h0 : 0 ≤ m ∧ m ≤ 10000000 ∧ 0 ≤ t ∧ t ≤ 1000 * m) : pairsOk (ms ++ [m]) (ts ++ [t]) = true := by
  unfold pairsOk at *
  rw [List.zip_append hl.symm, List.all_append, h]
  simp [massOk, h0]
theorem vals_snoc (xs : List Int) (x : Int) : vals xs ++ [.int .i64 x] = vals (xs ++ [x]) := by simp [vals]

set_option maxHeartbeats 16000000 in
theorem stDraw_is {B : Nat} {w : World} {C : Nat} {a : Option Addr} {len cap : Nat} (hC : Draw.Cur B w C a len cap) :
    Calls Try.prog 37 #[.pointer (some ⟨C, 0, none⟩)] w (StCur B C a len cap w) := by
  have hlo := hC.lo
  have hlt := hC.lt
  have hsm := hC.small
  have HY := Lib.hid (cut_bytes hC)
  have HBC := Lib.hid (show B ≤ (cutW w C).heap.size by rw [cutW_size (by omega)]; exact hlo)
  have HSM := Lib.hid hsm
  have he := (held_start hC).box 29 #[.int .i64 0, .slice none 0 0, .slice none 0 0, .slice none 0 0, .slice none 0 0]
  have HE := Lib.hid he
  have HLT := Lib.hid hlt
  obtain ⟨i0, hi0, hz0, hz1, hz2⟩ := info_parts infoInt
  clear hC hlo hlt hsm he
  go_enter Try.func37, Try.ntmps37
  go_upto_region 1 with fail
  generalize w.alloc (.cells #[.int .i64 0, .slice none 0 0, .slice none 0 0, .slice none 0 0, .slice none 0 0] 29) = W0 at *
  go_upto_region 2 with (go_at_call 61; ((with_reducible refine (meshB_cur (HE.out.cur 1 rfl HBC.out HSM.out HY.out) (by have := HE.out.gr.size; have := HBC.out; omega)).mono ?_); rintro e w1 ⟨R, xs, x, c, rfl, hm, hgp, ho, hcu, hgr⟩; have HE1 := Lib.hid (HE.out.drawRow 1 rfl hgr hcu ho); have HM := Lib.hid (And.intro hm hgp); clear ho hcu hgr hm hgp))
  clear HE
  obtain ⟨n1, hn1⟩ : ∃ n, n = xs.length := ⟨_, rfl⟩
  rw [← hn1] at HE1 ⊢
  have HN1 := Lib.hid hn1.symm; clear hn1
  have HE2 := Lib.hid (HE1.out.box 26 #[.int .i64 R, .slice x n1 c]); clear HE1
  obtain ⟨B3, hB3⟩ : ∃ B, B = w1.heap.size := ⟨_, rfl⟩
  rw [← hB3] at HE2 ⊢
  clear hB3
  generalize w1.alloc (.cells #[.int .i64 R, .slice x n1 c] 26) = W2 at *
  obtain ⟨p0, p1⟩ := box2 (HE2.out.nth 4 rfl)
  go_upto_region 3 with fail
  have HE3 := Lib.hid ((HE2.out.box 29 #[.int .i64 R, .slice x n1 c, .slice none 0 0, .slice none 0 0, .slice none 0 0]).nilRow 3 1); clear HE2
  obtain ⟨B4, hB4⟩ : ∃ B, B = W2.heap.size := ⟨_, rfl⟩
  rw [← hB4] at HE3 ⊢
  clear hB4 p0 p1
  generalize W2.alloc (.cells #[.int .i64 R, .slice x n1 c, .slice none 0 0, .slice none 0 0, .slice none 0 0] 29) = W3 at *
  have hR0 : 1 ≤ R ∧ R ≤ 8 := by have := of_decide_eq_true HM.out.1; omega
  obtain ⟨Rn, rfl⟩ := Int.eq_ofNat_of_zero_le (show 0 ≤ R by omega)
  have hRn : (Rn : Int) ≤ 8 := by omega
  clear hR0
  go_wp2_with fail
  go_loopw [5] (fun i wr => ∃ k : Nat, (k : Int) ≤ Rn ∧ i = .int .i64 k ∧ Hid (BedsL w C a len cap (Rn : Int) x n1 c xs B3 B4 k wr)) (fun i _ => Rn - (intOf i).toNat)
  case atStart => exact ⟨0, by omega, rfl, Lib.hid ⟨none, 0, [], rfl, rfl, HE3.out⟩⟩
  case round =>
    clear HE3
    obtain ⟨k, hk, rfl, HF⟩ := hrel
    obtain ⟨aB, cB, bs, hbl, hbo, hH⟩ := HF.out
    have HH := Lib.hid hH; have HBL := Lib.hid hbl; have HBO := Lib.hid hbo
    obtain ⟨p0, p1⟩ := box2 (hH.nth 4 rfl)
    obtain ⟨o0, o1, o2, o3, o4⟩ := box5 (hH.nth 5 rfl)
    obtain ⟨f0, f1, f2, f3, f4⟩ := free5 (hH.nth 5 rfl)
    clear hH hbl hbo HF
    by_cases hlt : (k : Int) < Rn
    · have HK := Lib.hid (show k < Rn by omega)
      have HRN := Lib.hid (show Rn ≤ 8 by omega)
      go_upto_region 6 with fail
      have hca : ∀ o, (wr.alloc o).cell? ⟨B4, 4, none⟩ = some (.slice aB k cB) := fun o => (World.grownBy_alloc wr o none).cell o4 (by simp)
      go_region_law (first
        | (go_simp; go_at_call 39; ((with_reducible refine (Draw.below_any 4 (by decide) ((HH.out.on (by first | exact gr_drew (grown_refl _) | exact grown_refl _)).cur 1 rfl HBC.out HSM.out HY.out)).mono ?_); rintro e wa ⟨y, hy0, hy1, rfl, hcu, hgr⟩; have hA := (HH.out.on (by first | exact gr_drew (grown_refl _) | exact grown_refl _)).draw 1 rfl hgr hcu; have a4 := (box5 (hA.nth 5 rfl)).2.2.2.2; have HA := Lib.hid hA; have hy4 : y < 4 := (by omega); clear hcu hgr hA hy1))
        | (go_simp; go_at_call 39; ((with_reducible refine (Draw.below_any 5000 (by decide) (HA.out.cur 1 rfl HBC.out HSM.out HY.out)).mono ?_); rintro e wb ⟨z, hz0', hz1', rfl, hcu, hgr⟩; have hB := HA.out.draw 1 rfl hgr hcu; have b4 := (box5 (hB.nth 5 rfl)).2.2.2.2; have g4 := (free5 (hB.nth 5 rfl)).2.2.2.2; have HB := Lib.hid hB; have hz5 : z < 5000 := (by omega); have m0 := Int.mul_nonneg hy0 hz0'; have m1 : y * z ≤ 3 * 4999 := Int.mul_le_mul (by omega) (by omega) hz0' (by decide); have HW := Lib.hid (IntWalk.i64_in (y * z) (by omega)); have hcb : ∀ o, (wb.alloc o).cell? ⟨B4, 4, none⟩ = some (.slice aB k cB) := fun o => (World.grownBy_alloc wb o none).cell b4 (by simp); clear hcu hgr hB hz1'))
        | (refine step_append_lies _ (by rfl) _ _ _ (by rfl) 0 3 i0 _ 1 8 Try.underlying27 hi0 hz0 hz1 hz2 rfl (by omega) _ _ _ (by rfl) (own_on (HB.out.nth 6 rfl) (by first | exact World.grownBy_alloc wb _ none | exact gr_drew (World.grownBy_alloc wb _ none))) ⟨wb.heap.size, 0, none⟩ 1 1 [.int .i64 (IntKind.i64.wrap (y * z))] (by rfl) (by rfl) (World.news_of_block (cs := #[.int .i64 (IntKind.i64.wrap (y * z))]) (t := 3) (fr := (0, 0)) (by first | exact heap_alloc_new wb _ | exact heap_alloc_new wb.drew _)) (by simp [Value.oneCell']) (by omega) (by have := HK.out; have := HRN.out; unfold maxLen; omega) (by have := HK.out; have := HRN.out; omega) (Nat.zero_le _) (wb.heap.size + 1) (by simp) ?_; intro gg cap' w1 hown1 hgrow hat hlt2; rw [HW.out, show vals bs ++ [Value.int .i64 (y * z)] = vals (bs ++ [y * z]) by simp [vals]] at hown1; have hgg : (wb.alloc (.cells #[.int .i64 (IntKind.i64.wrap (y * z))] 3)).grownBy w1 (Value.slice aB k cB).ownBlock := ⟨hgrow.os, hgrow.tape, hgrow.output, hgrow.size, hgrow.block⟩; have hE1 := (HB.out.on (World.grownBy_alloc wb _ none)).appended 6 rfl hown1 hgg (hat.imp (fun e => e.symm) (fun e => by rw [e]; simp [Value.ownBlock])); have m4 := (box5 (hE1.nth 5 rfl)).2.2.2.2; have m5 := (free5 (hE1.nth 5 rfl)).2.2.2.2; have HE1 := Lib.hid hE1; clear hown1 hgrow hgg hat hlt2 hE1))
      all_goals
        go_wp2_with fail
        exact ⟨⟨k + 1, by omega, by go_num, Lib.hid ⟨some ⟨gg, 0, none⟩, cap', bs ++ [y * z], by rw [List.length_append, HBL.out]; rfl, beds_snoc HBO.out (by omega) (by omega), HE1.out.put5e 5 rfl (.slice (some ⟨gg, 0, none⟩) (k + 1) cap')⟩⟩, by simp [intOf]; omega⟩
    · obtain rfl : Rn = k := by omega
      clear hk hlt
      go_wp2_with fail
      refine (Draw.below_any 20000 (by decide) (HH.out.cur 1 rfl HBC.out HSM.out HY.out)).mono ?_
      rintro e wa ⟨d, hd0, hd1, rfl, hcu, hgr⟩
      have hd2 : d < 20000 := by omega
      have HA := Lib.hid (((HH.out.draw 1 rfl hgr hcu).nilRow 3 1).nilRow 3 1)
      clear hcu hgr hd1 p0 p1 o0 o1 o2 o3 o4 f0 f1 f2 f3 f4 HH
      have HN128 := Lib.hid (show 1 ≤ n1 ∧ n1 ≤ 128 by have := mesh_parts HM.out.1; rw [HN1.out] at this; exact ⟨this.2.1, this.2.2⟩)
      have hn128 : (n1 : Int) ≤ 128 := by have := HN128.out; omega
      go_wp2_with fail
      go_loopw [7] (fun i wr => ∃ k : Nat, (k : Int) ≤ n1 ∧ i = .int .i64 k ∧ Hid (MassL w C a len cap (Rn : Int) x n1 Rn c xs bs aB cB B3 B4 k wr)) (fun i _ => n1 - (intOf i).toNat)
      case atStart => exact ⟨0, by omega, rfl, Lib.hid ⟨none, none, 0, 0, [], [], rfl, rfl, by simp, rfl, HA.out⟩⟩
      case round =>
        clear HA
        obtain ⟨k, hk, rfl, HF⟩ := hrel
        obtain ⟨aM, aT, cM, cT, ms, ts, hml, htl, hms, hpo, hH⟩ := HF.out
        have HH := Lib.hid hH; have HML := Lib.hid hml; have HTL := Lib.hid htl; have HMS := Lib.hid hms; have HPO := Lib.hid hpo
        obtain ⟨p0, p1⟩ := box2 (hH.nth 4 rfl)
        clear hH hml htl hms hpo HF
        by_cases hlt : (k : Int) < n1
        · have HK := Lib.hid (show k < n1 by omega)
          go_wp2_with fail
          refine (Draw.below_any (1 + d) (by omega) (HH.out.cur 1 rfl HBC.out HSM.out HY.out)).mono ?_
          rintro e wa ⟨y, hy0, hy1, rfl, hcu, hgr⟩
          have hy2 : y ≤ 20000 := by omega
          have HA := Lib.hid (HH.out.draw 1 rfl hgr hcu)
          clear hcu hgr hy1 p0 p1 HH
          go_wp2_with fail
          refine (Draw.once_any 6 (by decide) (HA.out.cur 1 rfl HBC.out HSM.out HY.out)).mono ?_
          rintro e wb ⟨b, rfl, hcu, hgr⟩
          have HB := Lib.hid (HA.out.draw 1 rfl hgr hcu)
          clear hcu hgr HA
          cases b with
          | false =>
            obtain ⟨hx0, hx1⟩ : 0 ≤ y ∧ y ≤ 20000 := ⟨hy0, hy2⟩
            have HXW := Lib.hid (IntWalk.i64_in (y + 1) (by omega))
            go_upto_region 14 with fail
            obtain ⟨o0, o1, o2, o3, o4⟩ := box5 (HB.out.nth 5 rfl)
            obtain ⟨f0, f1, f2, f3, f4⟩ := free5 (HB.out.nth 5 rfl)
            have hca : ∀ o, (wb.alloc o).cell? ⟨B4, 2, none⟩ = some (.slice aM k cM) := fun o => (World.grownBy_alloc wb o none).cell o2 (by simp)
            go_upto_region 15 with (at_builtin; refine wpList_append_own_at _ rfl _ _ 27 rfl 0 3 i0 (.int .i64 0) 1 8 Try.underlying27 hi0 hz0 hz1 hz2 rfl (by decide) _ k (vals ms) rfl (own_on (HB.out.nth 7 rfl) (World.grownBy_alloc wb _ none)) ⟨wb.heap.size, 0, none⟩ 1 1 [.int .i64 y] rfl rfl (cell_one_new _ _ _) (fun x hx => by simp at hx; subst hx; rfl) (by have := HK.out; have := HN128.out; unfold maxLen; omega) (by have := HK.out; have := HN128.out; omega) (Nat.zero_le _) ?_; intro v' w6 hown hg _ hat; rw [vals_snoc] at hown; obtain ⟨aM', cM', rfl⟩ := own_shapeAny hown; have hE3 := (HB.out.on (World.grownBy_alloc wb _ none)).appended 7 rfl hown hg hat; have m2 := (box5 (hE3.nth 5 rfl)).2.2.1; have m3 := (free5 (hE3.nth 5 rfl)).2.2.1; have HE3 := Lib.hid hE3; clear hown hg hat hE3)
            have HE4 := Lib.hid (HE3.out.put5c 5 rfl (.slice aM' (k + 1) cM'))
            clear o0 o1 o2 o3 o4 f0 f1 f2 f3 f4 hca m2 m3 HE3 HB
            generalize w6.setCell ⟨B4, 2, none⟩ (.slice aM' (k + 1) cM') = W5 at *
            obtain ⟨o0, o1, o2, o3, o4⟩ := box5 (HE4.out.nth 5 rfl)
            obtain ⟨f0, f1, f2, f3, f4⟩ := free5 (HE4.out.nth 5 rfl)
            have hca : ∀ o, (W5.alloc o).cell? ⟨B4, 3, none⟩ = some (.slice aT k cT) := fun o => (World.grownBy_alloc W5 o none).cell o3 (by simp)
            go_region_law (first
              | (go_simp; go_at_call 39; ((with_reducible refine (Draw.below_any 200 (by decide) ((HE4.out.on (by first | exact gr_drew (grown_refl _) | exact grown_refl _)).cur 1 rfl HBC.out HSM.out HY.out)).mono ?_); rintro e wd ⟨p, hp0, hp1, rfl, hcu, hgr⟩; have hA := (HE4.out.on (by first | exact gr_drew (grown_refl _) | exact grown_refl _)).draw 1 rfl hgr hcu; have a4 := (box5 (hA.nth 5 rfl)).2.2.2.1; have HP := Lib.hid hA; have hp2 : p < 200 := (by omega); clear hcu hgr hA hp1))
              | (go_simp; go_at_call 39; rw [HXW.out]; ((with_reducible refine (Draw.below_any (y + 1) (by omega) (HP.out.cur 1 rfl HBC.out HSM.out HY.out)).mono ?_); rintro e wg ⟨q, hq0, hq1, rfl, hcu, hgr⟩; have hB := HP.out.draw 1 rfl hgr hcu; have b4 := (box5 (hB.nth 5 rfl)).2.2.2.1; have g4 := (free5 (hB.nth 5 rfl)).2.2.2.1; have HQ := Lib.hid hB; have hq2 : q ≤ y := (by omega); have m0 := Int.mul_nonneg hx0 hp0; have m1 : y * p ≤ 20000 * 199 := Int.mul_le_mul (by omega) (by omega) hp0 (by decide); have hW1 := IntWalk.i64_in (y * p) (by omega); have HW := Lib.hid (show IntKind.i64.wrap (IntKind.i64.wrap (y * p) + q) = y * p + q by rw [hW1]; exact IntWalk.i64_in (y * p + q) (by omega)); have hcb : ∀ o, (wg.alloc o).cell? ⟨B4, 3, none⟩ = some (.slice aT k cT) := fun o => (World.grownBy_alloc wg o none).cell b4 (by simp); clear hcu hgr hB hq1 hW1))
              | (refine step_append_lies _ (by rfl) _ _ _ (by rfl) 0 3 i0 _ 1 8 Try.underlying27 hi0 hz0 hz1 hz2 rfl (by omega) _ _ _ (by rfl) (own_on (HQ.out.nth 8 rfl) (by first | exact World.grownBy_alloc wg _ none | exact gr_drew (World.grownBy_alloc wg _ none))) ⟨wg.heap.size, 0, none⟩ 1 1 [.int .i64 (IntKind.i64.wrap (IntKind.i64.wrap (y * p) + q))] (by rfl) (by rfl) (World.news_of_block (cs := #[.int .i64 (IntKind.i64.wrap (IntKind.i64.wrap (y * p) + q))]) (t := 3) (fr := (0, 0)) (by first | exact heap_alloc_new wg _ | exact heap_alloc_new wg.drew _)) (by simp [Value.oneCell']) (by omega) (by have := HK.out; have := HN128.out; unfold maxLen; omega) (by have := HK.out; have := HN128.out; omega) (Nat.zero_le _) (wg.heap.size + 1) (by simp) ?_; intro gg cap' w1 hown1 hgrow hat hlt2; rw [HW.out, vals_snoc] at hown1; have hgg : (wg.alloc (.cells #[.int .i64 (IntKind.i64.wrap (IntKind.i64.wrap (y * p) + q))] 3)).grownBy w1 (Value.slice aT k cT).ownBlock := ⟨hgrow.os, hgrow.tape, hgrow.output, hgrow.size, hgrow.block⟩; have hE1 := (HQ.out.on (World.grownBy_alloc wg _ none)).appended 8 rfl hown1 hgg (hat.imp (fun e => e.symm) (fun e => by rw [e]; simp [Value.ownBlock])); have m4 := (box5 (hE1.nth 5 rfl)).2.2.2.1; have m5 := (free5 (hE1.nth 5 rfl)).2.2.2.1; have HE5 := Lib.hid hE1; clear hown1 hgrow hgg hat hlt2 hE1))
            all_goals
              go_wp2_with fail
              have hxp : y * p ≤ y * 199 := Int.mul_le_mul_of_nonneg_left (by omega) hx0
              exact ⟨⟨k + 1, by omega, by go_num, Lib.hid ⟨aM', some ⟨gg, 0, none⟩, cM', cap', ms ++ [y], ts ++ [y * p + q], by rw [List.length_append, HML.out]; rfl, by rw [List.length_append, HTL.out]; rfl, (fun m hm => by rcases List.mem_append.1 hm with h | h; exact HMS.out m h; rw [List.mem_singleton.1 h]; omega), pairs_snoc (by rw [HML.out, HTL.out]) HPO.out ⟨hx0, by omega, by omega, by omega⟩, HE5.out.put5d 5 rfl (.slice (some ⟨gg, 0, none⟩) (k + 1) cap')⟩⟩, by simp [intOf]; omega⟩
          | true =>
            go_wp2_with fail
            refine (Draw.below_any 3 (by decide) (HB.out.cur 1 rfl HBC.out HSM.out HY.out)).mono ?_
            rintro e wc ⟨z, hz0', hz1', rfl, hcu, hgr⟩
            obtain ⟨hx0, hx1⟩ : 0 ≤ z ∧ z ≤ 20000 := ⟨hz0', by omega⟩
            have HXW := Lib.hid (IntWalk.i64_in (z + 1) (by omega))
            have HC := Lib.hid (HB.out.draw 1 rfl hgr hcu)
            clear hcu hgr HB hz1'
            go_upto_region 14 with fail
            obtain ⟨o0, o1, o2, o3, o4⟩ := box5 (HC.out.nth 5 rfl)
            obtain ⟨f0, f1, f2, f3, f4⟩ := free5 (HC.out.nth 5 rfl)
            have hca : ∀ o, (wc.alloc o).cell? ⟨B4, 2, none⟩ = some (.slice aM k cM) := fun o => (World.grownBy_alloc wc o none).cell o2 (by simp)
            go_upto_region 15 with (at_builtin; refine wpList_append_own_at _ rfl _ _ 27 rfl 0 3 i0 (.int .i64 0) 1 8 Try.underlying27 hi0 hz0 hz1 hz2 rfl (by decide) _ k (vals ms) rfl (own_on (HC.out.nth 7 rfl) (World.grownBy_alloc wc _ none)) ⟨wc.heap.size, 0, none⟩ 1 1 [.int .i64 z] rfl rfl (cell_one_new _ _ _) (fun x hx => by simp at hx; subst hx; rfl) (by have := HK.out; have := HN128.out; unfold maxLen; omega) (by have := HK.out; have := HN128.out; omega) (Nat.zero_le _) ?_; intro v' w6 hown hg _ hat; rw [vals_snoc] at hown; obtain ⟨aM', cM', rfl⟩ := own_shapeAny hown; have hE3 := (HC.out.on (World.grownBy_alloc wc _ none)).appended 7 rfl hown hg hat; have m2 := (box5 (hE3.nth 5 rfl)).2.2.1; have m3 := (free5 (hE3.nth 5 rfl)).2.2.1; have HE3 := Lib.hid hE3; clear hown hg hat hE3)
            have HE4 := Lib.hid (HE3.out.put5c 5 rfl (.slice aM' (k + 1) cM'))
            clear o0 o1 o2 o3 o4 f0 f1 f2 f3 f4 hca m2 m3 HE3 HC
            generalize w6.setCell ⟨B4, 2, none⟩ (.slice aM' (k + 1) cM') = W5 at *
            obtain ⟨o0, o1, o2, o3, o4⟩ := box5 (HE4.out.nth 5 rfl)
            obtain ⟨f0, f1, f2, f3, f4⟩ := free5 (HE4.out.nth 5 rfl)
            have hca : ∀ o, (W5.alloc o).cell? ⟨B4, 3, none⟩ = some (.slice aT k cT) := fun o => (World.grownBy_alloc W5 o none).cell o3 (by simp)
            go_region_law (first
              | (go_simp; go_at_call 39; ((with_reducible refine (Draw.below_any 200 (by decide) ((HE4.out.on (by first | exact gr_drew (grown_refl _) | exact grown_refl _)).cur 1 rfl HBC.out HSM.out HY.out)).mono ?_); rintro e wd ⟨p, hp0, hp1, rfl, hcu, hgr⟩; have hA := (HE4.out.on (by first | exact gr_drew (grown_refl _) | exact grown_refl _)).draw 1 rfl hgr hcu; have a4 := (box5 (hA.nth 5 rfl)).2.2.2.1; have HP := Lib.hid hA; have hp2 : p < 200 := (by omega); clear hcu hgr hA hp1))
              | (go_simp; go_at_call 39; rw [HXW.out]; ((with_reducible refine (Draw.below_any (z + 1) (by omega) (HP.out.cur 1 rfl HBC.out HSM.out HY.out)).mono ?_); rintro e wg ⟨q, hq0, hq1, rfl, hcu, hgr⟩; have hB := HP.out.draw 1 rfl hgr hcu; have b4 := (box5 (hB.nth 5 rfl)).2.2.2.1; have g4 := (free5 (hB.nth 5 rfl)).2.2.2.1; have HQ := Lib.hid hB; have hq2 : q ≤ z := (by omega); have m0 := Int.mul_nonneg hx0 hp0; have m1 : z * p ≤ 20000 * 199 := Int.mul_le_mul (by omega) (by omega) hp0 (by decide); have hW1 := IntWalk.i64_in (z * p) (by omega); have HW := Lib.hid (show IntKind.i64.wrap (IntKind.i64.wrap (z * p) + q) = z * p + q by rw [hW1]; exact IntWalk.i64_in (z * p + q) (by omega)); have hcb : ∀ o, (wg.alloc o).cell? ⟨B4, 3, none⟩ = some (.slice aT k cT) := fun o => (World.grownBy_alloc wg o none).cell b4 (by simp); clear hcu hgr hB hq1 hW1))
              | (refine step_append_lies _ (by rfl) _ _ _ (by rfl) 0 3 i0 _ 1 8 Try.underlying27 hi0 hz0 hz1 hz2 rfl (by omega) _ _ _ (by rfl) (own_on (HQ.out.nth 8 rfl) (by first | exact World.grownBy_alloc wg _ none | exact gr_drew (World.grownBy_alloc wg _ none))) ⟨wg.heap.size, 0, none⟩ 1 1 [.int .i64 (IntKind.i64.wrap (IntKind.i64.wrap (z * p) + q))] (by rfl) (by rfl) (World.news_of_block (cs := #[.int .i64 (IntKind.i64.wrap (IntKind.i64.wrap (z * p) + q))]) (t := 3) (fr := (0, 0)) (by first | exact heap_alloc_new wg _ | exact heap_alloc_new wg.drew _)) (by simp [Value.oneCell']) (by omega) (by have := HK.out; have := HN128.out; unfold maxLen; omega) (by have := HK.out; have := HN128.out; omega) (Nat.zero_le _) (wg.heap.size + 1) (by simp) ?_; intro gg cap' w1 hown1 hgrow hat hlt2; rw [HW.out, vals_snoc] at hown1; have hgg : (wg.alloc (.cells #[.int .i64 (IntKind.i64.wrap (IntKind.i64.wrap (z * p) + q))] 3)).grownBy w1 (Value.slice aT k cT).ownBlock := ⟨hgrow.os, hgrow.tape, hgrow.output, hgrow.size, hgrow.block⟩; have hE1 := (HQ.out.on (World.grownBy_alloc wg _ none)).appended 8 rfl hown1 hgg (hat.imp (fun e => e.symm) (fun e => by rw [e]; simp [Value.ownBlock])); have m4 := (box5 (hE1.nth 5 rfl)).2.2.2.1; have m5 := (free5 (hE1.nth 5 rfl)).2.2.2.1; have HE5 := Lib.hid hE1; clear hown1 hgrow hgg hat hlt2 hE1))
            all_goals
              go_wp2_with fail
              have hxp : z * p ≤ z * 199 := Int.mul_le_mul_of_nonneg_left (by omega) hx0
              exact ⟨⟨k + 1, by omega, by go_num, Lib.hid ⟨aM', some ⟨gg, 0, none⟩, cM', cap', ms ++ [z], ts ++ [z * p + q], by rw [List.length_append, HML.out]; rfl, by rw [List.length_append, HTL.out]; rfl, (fun m hm => by rcases List.mem_append.1 hm with h | h; exact HMS.out m h; rw [List.mem_singleton.1 h]; omega), pairs_snoc (by rw [HML.out, HTL.out]) HPO.out ⟨hx0, by omega, by omega, by omega⟩, HE5.out.put5d 5 rfl (.slice (some ⟨gg, 0, none⟩) (k + 1) cap')⟩⟩, by simp [intOf]; omega⟩
        · obtain rfl : n1 = k := by omega
          clear hk hlt
          obtain ⟨r0, r1, r2, r3, r4⟩ := box5 (HH.out.nth 2 rfl)
          obtain ⟨f0, f1, f2, f3, f4⟩ := free5 (HH.out.nth 2 rfl)
          obtain ⟨o0, o1, o2, o3, o4⟩ := box5 (HH.out.nth 5 rfl)
          go_wp2_with fail
          have he := HH.out.put5 2 rfl (.int .i64 (Rn : Int)) (.slice x n1 c) (.slice aM n1 cM) (.slice aT n1 cT) (.slice aB Rn cB)
          have hC : C < w.heap.size := HLT.out
          have hok : stOk (Rn : Int) xs ms ts bs = true := by
            have hb : balanced (Rn : Int) xs = true := by unfold balanced; rw [HM.out.1]; simp [HM.out.2]
            refine stOk_mk hb ⟨by rw [HML.out, HN1.out], by rw [HTL.out, HML.out], by rw [HBL.out]⟩ HPO.out HBO.out ?_
            have h1 := (sum_bounds HMS.out).2
            rw [HML.out] at h1
            have h2 : (n1 : Int) * 20000 ≤ 128 * 20000 := Int.mul_le_mul_of_nonneg_right (by omega) (by decide)
            omega
          have hown : OwnS _ w.heap.size (.slice x n1 c) (.slice aM n1 cM) (.slice aT n1 cT) (.slice aB Rn cB) n1 n1 n1 Rn xs ms ts bs :=
            ⟨Held.ownPast he hC rfl rfl 3 (by decide) rfl, Held.ownPast he hC rfl rfl 7 (by decide) rfl, Held.ownPast he hC rfl rfl 8 (by decide) rfl, Held.ownPast he hC rfl rfl 6 (by decide) rfl,
              Held.apartAny he 3 7 (by decide) rfl rfl, Held.apartAny he 3 8 (by decide) rfl rfl, Held.apartAny he 3 6 (by decide) rfl rfl, Held.apartAny he 7 8 (by decide) rfl rfl, Held.apartAny he 7 6 (by decide) rfl rfl, Held.apartAny he 8 6 (by decide) rfl rfl⟩
          exact bodyPost_ret_by (results_cell_row (fn := Try.f37) rfl _ _ w.heap.size _ _ (0, 0) _ rfl (he.nth 2 rfl) Try.underlying29 rfl (by kernel_rfl)) rfl
            ⟨_, n1, Rn, xs, ms, ts, bs, x, c, aM, cM, aT, cT, aB, cB, rfl, ⟨hok, HN1.out, HBL.out, HMS.out, HN128.out⟩, hown, he.cur 1 rfl HBC.out HSM.out HY.out, Held.ends he hC rfl rfl⟩
end Go.Proofs.Ytaccigmkddomaaa.State
