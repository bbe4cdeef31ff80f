/- States: FillState of the reference model, as a contract.
   Conditions: at most 2^20 leaves and numbers. -/
import Derived.Test.YtnelgnfahkljmaaStPutS
import Derived.Test.YtnelgnfahkljmaaPkPure
set_option maxRecDepth 100000
namespace Go.Proofs.Ytnelgnfahkljmaa.State
open Go.ChangeShapes Go.WideShapes Go.ChangeAt Go.RowKit Go.Joins Go.Proofs.Ytnelgnfahkljmaa.Cell Go.Proofs.Ytnelgnfahkljmaa.Mesh Go.Proofs.Ytnelgnfahkljmaa.Law Go.Proofs.Ytnelgnfahkljmaa.Ints Go.Proofs.Ytnelgnfahkljmaa.Draws Go.Deep

theorem Held.apartAny {w W : World} {gs : List Grp} {t t' : TypeId} {s s' n n' : Nat} {v v' : Value} {xs xs' : List Value} (h : Held w W gs) (i j : Nat) (hij : i ≠ j) (hi : gs[i]? = some (rowG t s v n xs)) (hj : gs[j]? = some (rowG t' s' v' n' xs')) : Apart v v' := by
  rcases Nat.lt_or_gt_of_ne hij with hl | hl
  · exact h.apart i j hl hi hj
  · exact (h.apart j i hl hj hi).symm
/-- A state out of its four rows, wherever they stand. -/
theorem Held.ownS4 {w W : World} {gs : List Grp} {v1 v2 v3 v4 : Value} {n1 n2 n3 n4 : Nat} {xs : List C3} {ms ts bs : List Int} (h : Held w W gs) (i j k l : Nat) (hij : i ≠ j ∧ i ≠ k ∧ i ≠ l ∧ j ≠ k ∧ j ≠ l ∧ k ≠ l)
    (h1 : gs[i]? = some (rowG 63 3 v1 n1 (flatC xs))) (h2 : gs[j]? = some (rowG 3 1 v2 n2 (vals ms))) (h3 : gs[k]? = some (rowG 3 1 v3 n3 (vals ts))) (h4 : gs[l]? = some (rowG 3 1 v4 n4 (vals bs))) :
    OwnS W w.heap.size v1 v2 v3 v4 n1 n2 n3 n4 xs ms ts bs :=
  ⟨h.own _ h1, h.own _ h2, h.own _ h3, h.own _ h4, Held.apartAny h _ _ hij.1 h1 h2, Held.apartAny h _ _ hij.2.1 h1 h3, Held.apartAny h _ _ hij.2.2.1 h1 h4, Held.apartAny h _ _ hij.2.2.2.1 h2 h3, Held.apartAny h _ _ hij.2.2.2.2.1 h2 h4, Held.apartAny h _ _ hij.2.2.2.2.2 h3 h4⟩
theorem nilS (w : World) (base : Nat) : OwnS w base (.slice none 0 0) (.slice none 0 0) (.slice none 0 0) (.slice none 0 0) 0 0 0 0 [] [] [] [] :=
  ⟨nil_own _ _ _ _, nil_own _ _ _ _, nil_own _ _ _ _, nil_own _ _ _ _, (fun _ h => nomatch h), (fun _ h => nomatch h), (fun _ h => nomatch h), (fun _ h => nomatch h), (fun _ h => nomatch h), (fun _ h => nomatch h)⟩

set_option maxHeartbeats 16000000 in
theorem specFill_early (R : Int) (g1 g2 n1 n2 c1 c2 : Nat) (xs : List C3) (bs : List Int) (h : Int) (w : World) (hr : Reads w (some ⟨g1, 0, none⟩) n1 xs) (hb : ReadsI w (some ⟨g2, 0, none⟩) n2 bs) (h1 : n1 ≤ 1048576) (h2 : n2 ≤ 1048576) (hno : ¬ (balanced R xs = true ∧ (n2 : Int) = R ∧ 0 ≤ h ∧ h ≤ 2000000)) :
    Calls Try.prog 11 #[.agg #[.int .i64 R, .slice (some ⟨g1, 0, none⟩) n1 c1], .slice (some ⟨g2, 0, none⟩) n2 c2, .int .i64 h] w (GivesSB false 0 0 0 0 0 [] [] [] [] w) := by
  have hbal : ∀ u, w.grownBy u none → Calls Try.prog 35 #[.agg #[.int .i64 R, .slice (some ⟨g1, 0, none⟩) n1 c1]] u fun e w' => e = .returned (.bool (balanced R xs)) ∧ u.grownBy w' none := fun u hu => specIsBalanced_is R _ n1 c1 xs u (hr.on hu) h1
  have he := ((Held.nil w).box 26 #[.int .i64 R, .slice (some ⟨g1, 0, none⟩) n1 c1]).box 31 #[.int .i64 0, .slice none 0 0, .slice none 0 0, .slice none 0 0, .slice none 0 0]
  simp only [World.size_alloc] at he
  have HE := Lib.hid he; have HBAL := Lib.hid hbal
  have i1 : (n1 : Int) ≤ 1048576 := by omega
  have i2 : (n2 : Int) ≤ 1048576 := by omega
  have H1 := Lib.hid h1; have H2 := Lib.hid h2; have HR := Lib.hid hr; have HB := Lib.hid hb
  clear he hbal h1 h2 hr hb
  cases hbt : balanced R xs with
  | false =>
    rw [hbt] at HBAL
    clear hbt hno
    go_enter Try.func11, Try.ntmps11
    go_upto_region 1 with fail
    generalize (w.alloc (.cells #[.int .i64 R, .slice (some ⟨g1, 0, none⟩) n1 c1] 26)).alloc (.cells #[.int .i64 0, .slice none 0 0, .slice none 0 0, .slice none 0 0, .slice none 0 0] 31) = W0 at *
    obtain ⟨p0, p1⟩ := box2 (HE.out.nth 0 rfl)
    obtain ⟨r0, r1, r2, r3, r4⟩ := box5 (HE.out.nth 1 rfl)
    obtain ⟨f0, f1, f2, f3, f4⟩ := free5 (HE.out.nth 1 rfl)
    go_wp2_with (go_at_call 35; ((with_reducible refine (HBAL.out _ HE.out.gr).mono ?_); rintro e w1 ⟨rfl, hg⟩; have HE1 := Lib.hid (HE.out.on hg); obtain ⟨s0, s1⟩ := box2 (HE1.out.nth 0 rfl); obtain ⟨t0, t1, t2, t3, t4⟩ := box5 (HE1.out.nth 1 rfl); obtain ⟨z0, z1, z2, z3, z4⟩ := free5 (HE1.out.nth 1 rfl); clear hg))
    have he := HE1.out.put5 1 rfl (.int .i64 0) (.slice none 0 0) (.slice none 0 0) (.slice none 0 0) (.slice none 0 0)
    exact bodyPost_ret_by (results_row_tmp rfl _ _ (w.heap.size + 1) _ _ (0, 0) _ rfl (he.nth 1 rfl) Try.underlying31 rfl (by kernel_rfl)) rfl ⟨none, 0, none, 0, none, 0, none, 0, rfl, nilS _ _, he.gr⟩
  | true =>
    rw [hbt] at HBAL hno
    clear hbt
    by_cases hz : (n2 : Int) = R
    · have hd : decide (0 ≤ h ∧ h ≤ 2000000) = false := decide_eq_false (fun hh => hno ⟨rfl, hz, hh.1, hh.2⟩)
      subst hz
      clear hno
      go_enter Try.func11, Try.ntmps11
      go_upto_region 1 with fail
      generalize (w.alloc (.cells #[.int .i64 (n2 : Int), .slice (some ⟨g1, 0, none⟩) n1 c1] 26)).alloc (.cells #[.int .i64 0, .slice none 0 0, .slice none 0 0, .slice none 0 0, .slice none 0 0] 31) = W0 at *
      obtain ⟨p0, p1⟩ := box2 (HE.out.nth 0 rfl)
      obtain ⟨r0, r1, r2, r3, r4⟩ := box5 (HE.out.nth 1 rfl)
      obtain ⟨f0, f1, f2, f3, f4⟩ := free5 (HE.out.nth 1 rfl)
      go_wp2_with (first | (go_at_call 35; ((with_reducible refine (HBAL.out _ HE.out.gr).mono ?_); rintro e w1 ⟨rfl, hg⟩; have HE1 := Lib.hid (HE.out.on hg); obtain ⟨s0, s1⟩ := box2 (HE1.out.nth 0 rfl); obtain ⟨t0, t1, t2, t3, t4⟩ := box5 (HE1.out.nth 1 rfl); obtain ⟨z0, z1, z2, z3, z4⟩ := free5 (HE1.out.nth 1 rfl); clear hg)) | (go_at_call 36; (with_reducible refine (in_is h 0 2000000 false hd _).mono ?_); rintro e w1 ⟨rfl, rfl⟩))
      have he := HE1.out.put5 1 rfl (.int .i64 0) (.slice none 0 0) (.slice none 0 0) (.slice none 0 0) (.slice none 0 0)
      exact bodyPost_ret_by (results_row_tmp rfl _ _ (w.heap.size + 1) _ _ (0, 0) _ rfl (he.nth 1 rfl) Try.underlying31 rfl (by kernel_rfl)) rfl ⟨none, 0, none, 0, none, 0, none, 0, rfl, nilS _ _, he.gr⟩
    · clear hno
      go_enter Try.func11, Try.ntmps11
      go_upto_region 1 with fail
      generalize (w.alloc (.cells #[.int .i64 R, .slice (some ⟨g1, 0, none⟩) n1 c1] 26)).alloc (.cells #[.int .i64 0, .slice none 0 0, .slice none 0 0, .slice none 0 0, .slice none 0 0] 31) = W0 at *
      obtain ⟨p0, p1⟩ := box2 (HE.out.nth 0 rfl)
      obtain ⟨r0, r1, r2, r3, r4⟩ := box5 (HE.out.nth 1 rfl)
      obtain ⟨f0, f1, f2, f3, f4⟩ := free5 (HE.out.nth 1 rfl)
      go_wp2_with (go_at_call 35; ((with_reducible refine (HBAL.out _ HE.out.gr).mono ?_); rintro e w1 ⟨rfl, hg⟩; have HE1 := Lib.hid (HE.out.on hg); obtain ⟨s0, s1⟩ := box2 (HE1.out.nth 0 rfl); obtain ⟨t0, t1, t2, t3, t4⟩ := box5 (HE1.out.nth 1 rfl); obtain ⟨z0, z1, z2, z3, z4⟩ := free5 (HE1.out.nth 1 rfl); clear hg))
      have he := HE1.out.put5 1 rfl (.int .i64 0) (.slice none 0 0) (.slice none 0 0) (.slice none 0 0) (.slice none 0 0)
      exact bodyPost_ret_by (results_row_tmp rfl _ _ (w.heap.size + 1) _ _ (0, 0) _ rfl (he.nth 1 rfl) Try.underlying31 rfl (by kernel_rfl)) rfl ⟨none, 0, none, 0, none, 0, none, 0, rfl, nilS _ _, he.gr⟩

/-- What FillState answers: a state, or none. -/
def FillGives (b : Bool) (R : Int) (n1 n2 : Nat) (xs : List C3) (bs : List Int) (h : Int) (w : World) (e : Ending) (w' : World) : Prop :=
  if b = true then GivesSB true R n1 n1 n1 n2 xs (fillMs bs h xs) (List.replicate n1 0) bs w e w' else GivesSB false 0 0 0 0 0 [] [] [] [] w e w'
theorem FillGives.yes {R : Int} {n1 n2 : Nat} {xs : List C3} {bs : List Int} {h : Int} {w : World} {e : Ending} {w' : World} (g : GivesSB true R n1 n1 n1 n2 xs (fillMs bs h xs) (List.replicate n1 0) bs w e w') : FillGives true R n1 n2 xs bs h w e w' := by unfold FillGives; rw [if_pos rfl]; exact g
theorem FillGives.no {R : Int} {n1 n2 : Nat} {xs : List C3} {bs : List Int} {h : Int} {w : World} {e : Ending} {w' : World} (g : GivesSB false 0 0 0 0 0 [] [] [] [] w e w') : FillGives false R n1 n2 xs bs h w e w' := by unfold FillGives; rw [if_neg (by simp)]; exact g
/-- What the loop of FillState holds: the state's box, its rows so far. -/
def FillL (w : World) (R : Int) (g1 n1 n2 c1 : Nat) (xs : List C3) (bs : List Int) (h : Int) (b1 b4 : Option Addr) (d1 d4 B8 : Nat) (k : Nat) (wr : World) : Prop :=
  ∃ (aM aT : Option Addr) (cM cT : Nat), Held w wr [boxG w.heap.size 26 #[.int .i64 R, .slice (some ⟨g1, 0, none⟩) n1 c1], boxG (w.heap.size + 1) 31 #[.int .i64 0, .slice none 0 0, .slice none 0 0, .slice none 0 0, .slice none 0 0], rowG 63 3 (.slice b1 n1 d1) n1 (flatC xs), rowG 3 1 (.slice b4 n2 d4) n2 (vals bs), boxG B8 31 #[.int .i64 R, .slice b1 n1 d1, .slice aM k cM, .slice aT k cT, .slice b4 n2 d4], rowG 3 1 (.slice aM k cM) k (vals ((fillMs bs h xs).take k)), rowG 3 1 (.slice aT k cT) k (vals (List.replicate k 0))]

set_option maxHeartbeats 16000000 in
theorem specFill_main (R : Int) (g1 g2 n1 n2 c1 c2 : Nat) (xs : List C3) (bs : List Int) (h : Int) (w : World) (hr : Reads w (some ⟨g1, 0, none⟩) n1 xs) (hb : ReadsI w (some ⟨g2, 0, none⟩) n2 bs) (h1 : n1 ≤ 1048576) (h2 : n2 ≤ 1048576) (hbt : balanced R xs = true) (hz : (n2 : Int) = R) (hh0 : 0 ≤ h) (hh1 : h ≤ 2000000) (b : Bool) (hst : stOk R xs (fillMs bs h xs) (List.replicate n1 0) bs = b) :
    Calls Try.prog 11 #[.agg #[.int .i64 R, .slice (some ⟨g1, 0, none⟩) n1 c1], .slice (some ⟨g2, 0, none⟩) n2 c2, .int .i64 h] w (FillGives b R n1 n2 xs bs h w) := by
  have hbal : ∀ u, w.grownBy u none → Calls Try.prog 35 #[.agg #[.int .i64 R, .slice (some ⟨g1, 0, none⟩) n1 c1]] u fun e w' => e = .returned (.bool true) ∧ u.grownBy w' none := fun u hu => hbt ▸ specIsBalanced_is R _ n1 c1 xs u (hr.on hu) h1
  have hcp : ∀ u, w.grownBy u none → Calls Try.prog 37 #[.agg #[.int .i64 R, .slice (some ⟨g1, 0, none⟩) n1 c1]] u fun e w' => ∃ v, e = .returned (.agg #[.int .i64 R, v]) ∧ w'.ownsRow u.heap.size 63 3 v n1 (flatC xs) ∧ u.grownBy w' none := fun u hu => specCopy_is R g1 n1 c1 xs u (hr.on hu) h1
  have hm : meshOk R xs = true := by unfold balanced at hbt; simp only [Bool.and_eq_true] at hbt; exact hbt.1
  have hd : decide (0 ≤ h ∧ h ≤ 2000000) = true := decide_eq_true ⟨hh0, hh1⟩
  have he := ((Held.nil w).box 26 #[.int .i64 R, .slice (some ⟨g1, 0, none⟩) n1 c1]).box 31 #[.int .i64 0, .slice none 0 0, .slice none 0 0, .slice none 0 0, .slice none 0 0]
  simp only [World.size_alloc] at he
  obtain ⟨i0, hi0, hz0, hz1, hz2⟩ := info_parts infoInt
  have HE := Lib.hid he; have HBAL := Lib.hid hbal; have HCP := Lib.hid hcp; have HM := Lib.hid hm; have HST := Lib.hid hst
  have i1 : (n1 : Int) ≤ 1048576 := by omega
  have i2 : (n2 : Int) ≤ 1048576 := by omega
  have H1 := Lib.hid h1; have H2 := Lib.hid h2; have HR := Lib.hid hr; have HB := Lib.hid hb
  have HLB := Lib.hid hb.len
  clear he hbal hcp hm h1 h2 hr hb hbt hst
  go_enter Try.func11, Try.ntmps11
  go_upto_region 1 with fail
  generalize (w.alloc (.cells #[.int .i64 R, .slice (some ⟨g1, 0, none⟩) n1 c1] 26)).alloc (.cells #[.int .i64 0, .slice none 0 0, .slice none 0 0, .slice none 0 0, .slice none 0 0] 31) = W0 at *
  obtain ⟨p0, p1⟩ := box2 (HE.out.nth 0 rfl)
  go_upto_region 3 with (first | (go_at_call 35; ((with_reducible refine (HBAL.out _ HE.out.gr).mono ?_); rintro e w1 ⟨rfl, hg⟩; have HE1 := Lib.hid (HE.out.on hg); obtain ⟨s0, s1⟩ := box2 (HE1.out.nth 0 rfl); clear hg)) | (go_at_call 36; (with_reducible refine (in_is h 0 2000000 true hd _).mono ?_); rintro e w1 ⟨rfl, rfl⟩))
  clear p0 p1 HE
  go_upto_region 4 with (first
    | (go_at_call 37; ((with_reducible refine (HCP.out _ HE1.out.gr).mono ?_); rintro e w2 ⟨v, rfl, ho, hg⟩; obtain ⟨b1, d1, rfl⟩ := own_shapeAny ho; have HE2 := Lib.hid ((HE1.out.row hg ho).row (World.grownBy_alloc w2 (.cells #[] 3) none) (own_emptyI w2 w2.heap.size (Nat.le_refl _))); clear ho hg))
    | (at_builtin; refine wpList_append_own_at _ rfl _ _ 27 rfl 0 3 i0 (.int .i64 0) 1 8 Try.underlying27 hi0 hz0 hz1 hz2 rfl (by decide) _ 0 [] rfl (HE2.out.nth 3 rfl) ⟨g2, 0, none⟩ n2 c2 (vals bs) rfl (by rw [vals_len, HLB.out, Nat.mul_one]) (readsI_news (HB.out.on HE2.out.gr)) (vals_one bs) (by have := H2.out; unfold maxLen; omega) (by have := H2.out; omega) (Nat.zero_le _) ?_; intro v' w3 hown hg _ hat; rw [Nat.zero_add, List.nil_append] at hown; obtain ⟨b4, d4, rfl⟩ := own_shapeAny hown; have HE3 := Lib.hid (HE2.out.appended 3 rfl hown hg hat); clear hown hg hat))
  clear s0 s1 HE1 HE2
  have HE4 := Lib.hid (((HE3.out.box 31 #[.int .i64 R, .slice b1 n1 d1, .slice none 0 0, .slice none 0 0, .slice b4 n2 d4]).nilRow 3 1).nilRow 3 1); clear HE3
  obtain ⟨B8, hB8⟩ : ∃ B, B = w3.heap.size := ⟨_, rfl⟩
  rw [← hB8] at HE4 ⊢
  clear hB8
  generalize w3.alloc (.cells #[.int .i64 R, .slice b1 n1 d1, .slice none 0 0, .slice none 0 0, .slice b4 n2 d4] 31) = W4 at *
  go_wp2_with fail
  go_loopw [9] (fun i wr => ∃ k : Nat, (k : Int) ≤ n1 ∧ i = .int .i64 k ∧ Hid (FillL w R g1 n1 n2 c1 xs bs h b1 b4 d1 d4 B8 k wr)) (fun i _ => n1 - (intOf i).toNat)
  case atStart => exact ⟨0, by omega, rfl, Lib.hid ⟨none, none, 0, 0, HE4.out⟩⟩
  case round =>
    clear HE4
    obtain ⟨k, hk, rfl, HF⟩ := hrel
    obtain ⟨aM, aT, cM, cT, hH⟩ := HF.out
    have HH := Lib.hid hH
    obtain ⟨p0, p1⟩ := box2 (hH.nth 0 rfl)
    obtain ⟨o0, o1, o2, o3, o4⟩ := box5 (hH.nth 4 rfl)
    obtain ⟨f0, f1, f2, f3, f4⟩ := free5 (hH.nth 4 rfl)
    by_cases hlt : (k : Int) < n1
    · have HK := Lib.hid (show k < n1 by omega)
      obtain ⟨r, l, ix, hx⟩ := get_of_lt HR.out.len (k := k) HK.out
      obtain ⟨g, e, -, d0, d1', -⟩ := (HR.out.on hH.gr).at_ k _ hx
      cases e
      obtain ⟨y0, y1, y2, y3⟩ := root_lt HM.out hx
      dsimp only at d0 d1' y0 y1 y2 y3
      obtain ⟨rn, rfl⟩ := Int.eq_ofNat_of_zero_le y0
      have hrn : (rn : Int) < n2 := by omega
      obtain ⟨b, hb⟩ := getI HLB.out (k := rn) (by omega)
      obtain ⟨g', o', e, e0⟩ := (HB.out.on hH.gr).at_ rn _ hb
      cases e
      rw [Nat.zero_add] at e0
      have HX := Lib.hid hx; have HBB := Lib.hid hb
      clear hH hx hb
      by_cases hbh : b < h
      · go_upto_region 10 with fail
        have hD : 0 ≤ (h - if b < -1 then -1 else b) ∧ (h - if b < -1 then -1 else b) ≤ 2000001 := by split <;> omega
        have HD := Lib.hid (show (h - if b < -1 then -1 else b) = (if b < h then h - max b (-1) else 0) by rw [if_pos hbh]; split <;> omega)
        generalize (h - if b < -1 then -1 else b) = D at *
        obtain ⟨hD0, hD1⟩ := hD
        have HV := Lib.hid (show vals ((fillMs bs h xs).take k) ++ [Value.int .i64 (D / 2 ^ min (IntKind.u64.wrap l).toNat 64)] = vals ((fillMs bs h xs).take (k + 1)) by
          rw [fillMs_take HX.out]
          have e1 : min (IntKind.u64.wrap l).toNat 64 = l.toNat := by rcases Cell.lvl y2 y3 with rfl | rfl | rfl | rfl | rfl <;> rfl
          have e2 : bs.getD rn 0 = b := by rw [List.getD_eq_getElem?_getD, HBB.out]; rfl
          simp only [vals, List.map_append, List.map_cons, List.map_nil, fillMass, Int.toNat_natCast, e1, e2, ← HD.out])
        have HRM := Lib.hid (show wr.ownsRow 0 3 1 (.slice aM k cM) k (vals ((fillMs bs h xs).take k)) from HH.out.nth 5 rfl)
        have hca : ∀ o, (wr.alloc o).cell? ⟨B8, 2, none⟩ = some (.slice aM k cM) := fun o => (World.grownBy_alloc wr o none).cell o2 (by simp)
        go_region_law
          ((refine step_append_lies _ (by rfl) _ _ _ (by rfl) 0 3 i0 _ 1 8 Try.underlying27 hi0 hz0 hz1 hz2 rfl (by omega) _ _ _ (by rfl) (by first | exact (HRM.out.alloc _).drew | exact (HRM.out.drew).alloc _ | exact (HRM.out.drew.alloc _).drew | exact HRM.out.alloc _) ⟨wr.heap.size, 0, none⟩ 1 1 [.int .i64 (D / 2 ^ min (IntKind.u64.wrap l).toNat 64)] (by rfl) (by rfl) (World.news_of_block (cs := #[.int .i64 (D / 2 ^ min (IntKind.u64.wrap l).toNat 64)]) (t := 3) (fr := (0, 0)) (by first | exact heap_alloc_new wr _ | exact heap_alloc_new wr.drew _)) (by simp [Value.oneCell']) (by omega) (by have := HK.out; have := H1.out; unfold maxLen; omega) (by have := HK.out; have := H1.out; omega) (Nat.zero_le _) (wr.heap.size + 1) (by simp) ?_; intro gg cap w1 hown1 hgrow hat hlt2; rw [HV.out] at hown1; have hgg : (wr.alloc (.cells #[.int .i64 (D / 2 ^ min (IntKind.u64.wrap l).toNat 64)] 3)).grownBy w1 (Value.slice aM k cM).ownBlock := ⟨hgrow.os, hgrow.tape, hgrow.output, hgrow.size, hgrow.block⟩; have hE1 := (HH.out.on (World.grownBy_alloc wr _ none)).appended 5 rfl hown1 hgg (hat.imp (fun e => e.symm) (fun e => by rw [e]; simp [Value.ownBlock])); have m2 := (box5 (hE1.nth 4 rfl)).2.2.1; have m3 := (free5 (hE1.nth 4 rfl)).2.2.1; have HE1 := Lib.hid hE1; clear hown1 hgrow hgg hat hlt2 hE1))
        all_goals
          go_upto_region 11 with fail
          have HE2 := Lib.hid (HE1.out.put5c 4 rfl (.slice (some ⟨gg, 0, none⟩) (k + 1) cap))
          clear m2 m3 hca HE1 p0 p1 o0 o1 o2 o3 o4 f0 f1 f2 f3 f4 d0 d1' e0
          generalize w1.setCell ⟨B8, 2, none⟩ (.slice (some ⟨gg, 0, none⟩) (k + 1) cap) = W5 at *
          obtain ⟨-, -, -, o3, -⟩ := box5 (HE2.out.nth 4 rfl)
          go_wp2_with (at_builtin; refine wpList_append_own_at _ rfl _ _ 27 rfl 0 3 i0 (.int .i64 0) 1 8 Try.underlying27 hi0 hz0 hz1 hz2 rfl (by decide) _ k (vals (List.replicate k 0)) rfl (own_on (HE2.out.nth 6 rfl) (World.grownBy_alloc W5 _ none)) ⟨W5.heap.size, 0, none⟩ 1 1 [.int .i64 0] rfl rfl (cell_one_new _ _ _) (fun x hx => by simp at hx; subst hx; rfl) (by have := HK.out; have := H1.out; unfold maxLen; omega) (by have := HK.out; have := H1.out; omega) (Nat.zero_le _) ?_; intro v' w6 hown hg _ hat; rw [show vals (List.replicate k 0) ++ [Value.int .i64 0] = vals (List.replicate (k + 1) 0) by simp [vals, List.replicate_succ']] at hown; obtain ⟨aT', cT', rfl⟩ := own_shapeAny hown; have hE3 := (HE2.out.on (World.grownBy_alloc W5 _ none)).appended 6 rfl hown hg hat; have m2 := (box5 (hE3.nth 4 rfl)).2.2.2.1; have m3 := (free5 (hE3.nth 4 rfl)).2.2.2.1; have HE3 := Lib.hid hE3; clear hown hg hat hE3)
          exact ⟨⟨k + 1, by omega, by go_num, Lib.hid ⟨some ⟨gg, 0, none⟩, aT', cap, cT', HE3.out.put5d 4 rfl (.slice aT' (k + 1) cT')⟩⟩, by simp [intOf]; omega⟩
      · go_upto_region 10 with fail
        obtain ⟨D, hDe⟩ : ∃ D : Int, D = 0 := ⟨0, rfl⟩
        rw [← hDe]
        have HD := Lib.hid (show D = (if b < h then h - max b (-1) else 0) by rw [if_neg hbh]; exact hDe)
        have hD0 : 0 ≤ D := by omega
        have hD1 : D ≤ 2000001 := by omega
        clear hDe
        have HV := Lib.hid (show vals ((fillMs bs h xs).take k) ++ [Value.int .i64 (D / 2 ^ min (IntKind.u64.wrap l).toNat 64)] = vals ((fillMs bs h xs).take (k + 1)) by
          rw [fillMs_take HX.out]
          have e1 : min (IntKind.u64.wrap l).toNat 64 = l.toNat := by rcases Cell.lvl y2 y3 with rfl | rfl | rfl | rfl | rfl <;> rfl
          have e2 : bs.getD rn 0 = b := by rw [List.getD_eq_getElem?_getD, HBB.out]; rfl
          simp only [vals, List.map_append, List.map_cons, List.map_nil, fillMass, Int.toNat_natCast, e1, e2, ← HD.out])
        have HRM := Lib.hid (show wr.ownsRow 0 3 1 (.slice aM k cM) k (vals ((fillMs bs h xs).take k)) from HH.out.nth 5 rfl)
        have hca : ∀ o, (wr.alloc o).cell? ⟨B8, 2, none⟩ = some (.slice aM k cM) := fun o => (World.grownBy_alloc wr o none).cell o2 (by simp)
        go_region_law
          ((refine step_append_lies _ (by rfl) _ _ _ (by rfl) 0 3 i0 _ 1 8 Try.underlying27 hi0 hz0 hz1 hz2 rfl (by omega) _ _ _ (by rfl) (by first | exact (HRM.out.alloc _).drew | exact (HRM.out.drew).alloc _ | exact (HRM.out.drew.alloc _).drew | exact HRM.out.alloc _) ⟨wr.heap.size, 0, none⟩ 1 1 [.int .i64 (D / 2 ^ min (IntKind.u64.wrap l).toNat 64)] (by rfl) (by rfl) (World.news_of_block (cs := #[.int .i64 (D / 2 ^ min (IntKind.u64.wrap l).toNat 64)]) (t := 3) (fr := (0, 0)) (by first | exact heap_alloc_new wr _ | exact heap_alloc_new wr.drew _)) (by simp [Value.oneCell']) (by omega) (by have := HK.out; have := H1.out; unfold maxLen; omega) (by have := HK.out; have := H1.out; omega) (Nat.zero_le _) (wr.heap.size + 1) (by simp) ?_; intro gg cap w1 hown1 hgrow hat hlt2; rw [HV.out] at hown1; have hgg : (wr.alloc (.cells #[.int .i64 (D / 2 ^ min (IntKind.u64.wrap l).toNat 64)] 3)).grownBy w1 (Value.slice aM k cM).ownBlock := ⟨hgrow.os, hgrow.tape, hgrow.output, hgrow.size, hgrow.block⟩; have hE1 := (HH.out.on (World.grownBy_alloc wr _ none)).appended 5 rfl hown1 hgg (hat.imp (fun e => e.symm) (fun e => by rw [e]; simp [Value.ownBlock])); have m2 := (box5 (hE1.nth 4 rfl)).2.2.1; have m3 := (free5 (hE1.nth 4 rfl)).2.2.1; have HE1 := Lib.hid hE1; clear hown1 hgrow hgg hat hlt2 hE1))
        all_goals
          go_upto_region 11 with fail
          have HE2 := Lib.hid (HE1.out.put5c 4 rfl (.slice (some ⟨gg, 0, none⟩) (k + 1) cap))
          clear m2 m3 hca HE1 p0 p1 o0 o1 o2 o3 o4 f0 f1 f2 f3 f4 d0 d1' e0
          generalize w1.setCell ⟨B8, 2, none⟩ (.slice (some ⟨gg, 0, none⟩) (k + 1) cap) = W5 at *
          obtain ⟨-, -, -, o3, -⟩ := box5 (HE2.out.nth 4 rfl)
          go_wp2_with (at_builtin; refine wpList_append_own_at _ rfl _ _ 27 rfl 0 3 i0 (.int .i64 0) 1 8 Try.underlying27 hi0 hz0 hz1 hz2 rfl (by decide) _ k (vals (List.replicate k 0)) rfl (own_on (HE2.out.nth 6 rfl) (World.grownBy_alloc W5 _ none)) ⟨W5.heap.size, 0, none⟩ 1 1 [.int .i64 0] rfl rfl (cell_one_new _ _ _) (fun x hx => by simp at hx; subst hx; rfl) (by have := HK.out; have := H1.out; unfold maxLen; omega) (by have := HK.out; have := H1.out; omega) (Nat.zero_le _) ?_; intro v' w6 hown hg _ hat; rw [show vals (List.replicate k 0) ++ [Value.int .i64 0] = vals (List.replicate (k + 1) 0) by simp [vals, List.replicate_succ']] at hown; obtain ⟨aT', cT', rfl⟩ := own_shapeAny hown; have hE3 := (HE2.out.on (World.grownBy_alloc W5 _ none)).appended 6 rfl hown hg hat; have m2 := (box5 (hE3.nth 4 rfl)).2.2.2.1; have m3 := (free5 (hE3.nth 4 rfl)).2.2.2.1; have HE3 := Lib.hid hE3; clear hown hg hat hE3)
          exact ⟨⟨k + 1, by omega, by go_num, Lib.hid ⟨some ⟨gg, 0, none⟩, aT', cap, cT', HE3.out.put5d 4 rfl (.slice aT' (k + 1) cT')⟩⟩, by simp [intOf]; omega⟩
    · obtain rfl : n1 = k := by omega
      have hL : Held w wr [boxG w.heap.size 26 #[.int .i64 R, .slice (some ⟨g1, 0, none⟩) n1 c1], boxG (w.heap.size + 1) 31 #[.int .i64 0, .slice none 0 0, .slice none 0 0, .slice none 0 0, .slice none 0 0], rowG 63 3 (.slice b1 n1 d1) n1 (flatC xs), rowG 3 1 (.slice b4 n2 d4) n2 (vals bs), boxG B8 31 #[.int .i64 R, .slice b1 n1 d1, .slice aM n1 cM, .slice aT n1 cT, .slice b4 n2 d4], rowG 3 1 (.slice aM n1 cM) n1 (vals (fillMs bs h xs)), rowG 3 1 (.slice aT n1 cT) n1 (vals (List.replicate n1 0))] := by
        have := hH
        rw [take_all (by rw [fillMs_len, HR.out.len])] at this
        exact this
      have HL := Lib.hid hL
      have hok : ∀ u, wr.grownBy u none → Calls Try.prog 38 #[.agg #[.int .i64 R, .slice b1 n1 d1, .slice aM n1 cM, .slice aT n1 cT, .slice b4 n2 d4]] u fun e w' => e = .returned (.bool b) ∧ u.grownBy w' none := fun u hu =>
        HST.out ▸ specStateOk_is R b1 aM aT b4 n1 n1 n1 n2 d1 cM cT d4 xs (fillMs bs h xs) (List.replicate n1 0) bs u ((OwnS.reads (Held.ownS4 hL 2 5 6 3 (by decide) rfl rfl rfl rfl)).on hu) H1.out H1.out H1.out H2.out
      clear hH HF HH HST hL
      cases b with
      | true =>
        have HOK := Lib.hid hok; clear hok
        go_wp2_with (go_at_call 38; ((with_reducible refine (HOK.out _ (grown_refl _)).mono ?_); rintro e w7 ⟨rfl, hg⟩; have HE7 := Lib.hid (HL.out.on hg); obtain ⟨x0, x1, x2, x3, x4⟩ := box5 (HE7.out.nth 4 rfl); obtain ⟨r0, r1, r2, r3, r4⟩ := box5 (HE7.out.nth 1 rfl); obtain ⟨z0, z1, z2, z3, z4⟩ := free5 (HE7.out.nth 1 rfl); clear hg))
        have he := HE7.out.put5 1 rfl (.int .i64 R) (.slice b1 n1 d1) (.slice aM n1 cM) (.slice aT n1 cT) (.slice b4 n2 d4)
        exact bodyPost_ret_by (results_row_tmp rfl _ _ (w.heap.size + 1) _ _ (0, 0) _ rfl (he.nth 1 rfl) Try.underlying31 rfl (by kernel_rfl)) rfl (FillGives.yes ⟨b1, d1, aM, cM, aT, cT, b4, d4, rfl, Held.ownS4 he 2 5 6 3 (by decide) rfl rfl rfl rfl, he.gr⟩)
      | false =>
        have HOK := Lib.hid hok; clear hok
        go_wp2_with (go_at_call 38; ((with_reducible refine (HOK.out _ (grown_refl _)).mono ?_); rintro e w7 ⟨rfl, hg⟩; have HE7 := Lib.hid (HL.out.on hg); obtain ⟨x0, x1, x2, x3, x4⟩ := box5 (HE7.out.nth 4 rfl); obtain ⟨r0, r1, r2, r3, r4⟩ := box5 (HE7.out.nth 1 rfl); obtain ⟨z0, z1, z2, z3, z4⟩ := free5 (HE7.out.nth 1 rfl); clear hg))
        have he := HE7.out.put5 1 rfl (.int .i64 0) (.slice none 0 0) (.slice none 0 0) (.slice none 0 0) (.slice none 0 0)
        exact bodyPost_ret_by (results_row_tmp rfl _ _ (w.heap.size + 1) _ _ (0, 0) _ rfl (he.nth 1 rfl) Try.underlying31 rfl (by kernel_rfl)) rfl (FillGives.no ⟨none, 0, none, 0, none, 0, none, 0, rfl, nilS _ _, he.gr⟩)

/-- FillState of the reference model, whatever it is called with. -/
theorem specFillState_is (R : Int) (g1 g2 n1 n2 c1 c2 : Nat) (xs : List C3) (bs : List Int) (h : Int) (w : World) (hr : Reads w (some ⟨g1, 0, none⟩) n1 xs) (hb : ReadsI w (some ⟨g2, 0, none⟩) n2 bs) (h1 : n1 ≤ 1048576) (h2 : n2 ≤ 1048576) :
    Calls Try.prog 11 #[.agg #[.int .i64 R, .slice (some ⟨g1, 0, none⟩) n1 c1], .slice (some ⟨g2, 0, none⟩) n2 c2, .int .i64 h] w (FillGives (fillB R xs bs h) R n1 n2 xs bs h w) := by
  by_cases hno : balanced R xs = true ∧ (n2 : Int) = R ∧ 0 ≤ h ∧ h ≤ 2000000
  · obtain ⟨k1, k2, k3, k4⟩ := hno
    have e : fillB R xs bs h = stOk R xs (fillMs bs h xs) (List.replicate n1 0) bs := by
      unfold fillB
      rw [k1, decide_eq_true (by rw [hb.len]; exact k2), decide_eq_true ⟨k3, k4⟩, hr.len]
      simp
    rw [e]
    exact specFill_main R g1 g2 n1 n2 c1 c2 xs bs h w hr hb h1 h2 k1 k2 k3 k4 _ rfl
  · have e : fillB R xs bs h = false := by
      cases hf : fillB R xs bs h with
      | false => rfl
      | true =>
        unfold fillB at hf
        simp only [Bool.and_eq_true, decide_eq_true_eq] at hf
        exact absurd ⟨hf.1, by rw [← hb.len]; exact hf.2.1, hf.2.2.1.1, hf.2.2.1.2⟩ hno
    rw [e]
    exact (specFill_early R g1 g2 n1 n2 c1 c2 xs bs h w hr hb h1 h2 hno).mono fun _ _ g => FillGives.no g
end Go.Proofs.Ytnelgnfahkljmaa.State
