/- States: l08Split, a leaf split, of the reference model, as a contract, in memory of its own; nothing that was there is written (written by wip/tools/stspec.py).
   Conditions: a state that is valid but for the balance of its mesh. -/
import Derived.Test.YtfoilfgiablleaaStSpecT
import Derived.Test.YtfoilfgiablleaaStShare
set_option maxRecDepth 100000
namespace Go.Proofs.Ytfoilfgiablleaa.State
open Go.ChangeShapes Go.WideShapes Go.ChangeAt Go.RowKit Go.Joins Go.Proofs.Ytfoilfgiablleaa.Cell Go.Proofs.Ytfoilfgiablleaa.Mesh Go.Proofs.Ytfoilfgiablleaa.Law Go.Proofs.Ytfoilfgiablleaa.Ints Go.Proofs.Ytfoilfgiablleaa.Draws Go.Deep
set_option linter.unusedVariables false

set_option maxHeartbeats 16000000 in
theorem specStSplit_is (R : Int) (g1 g2 g3 g4 n1 n2 n3 n4 c1 c2 c3 c4 k : Nat) (xs : List C3) (ms ts bs : List Int) (x : C3) (w : World) (h : RoomS w (some ⟨g1, 0, none⟩) (some ⟨g2, 0, none⟩) (some ⟨g3, 0, none⟩) (some ⟨g4, 0, none⟩) n1 n2 n3 n4 c1 c2 c3 c4 xs ms ts bs)
    (hp : PreS R xs ms ts bs) (hx : xs[k]? = some x) (hl : x.2.1 < 4) :
    Calls Try.prog 67 #[.agg #[.int .i64 R, .slice (some ⟨g1, 0, none⟩) n1 c1, .slice (some ⟨g2, 0, none⟩) n2 c2, .slice (some ⟨g3, 0, none⟩) n3 c3, .slice (some ⟨g4, 0, none⟩) n4 c4], .int .i64 (k : Int)] w (GivesS R (n1 + 1) (n2 + 1) (n3 + 1) n4 (split2 xs k) (splitM ms k) (splitT ms ts k) bs w) := by
  obtain ⟨i0, hi0, hz0, hz1, hz2⟩ := info_parts infoInt
  obtain ⟨ho, hn1, hn1'⟩ := mesh_parts hp.mesh
  obtain ⟨r1, r2, -⟩ : 1 ≤ R ∧ R ≤ 8 ∧ run xs = some (R * 16) := of_decide_eq_true hp.mesh
  have e1 := h.r.l.len; have e2 := h.r.m.len; have e3 := h.r.t.len; have e4 := h.r.b.len
  have q1 := hp.lm; have q2 := hp.lt; have q3 := hp.lb
  have k2 := h.k2; have k3 := h.k3
  have hkx := (List.getElem?_eq_some_iff.1 hx).1
  obtain ⟨m, t, hm, ht, hmo⟩ := hp.at_ hkx
  obtain ⟨b1, b2, b3, b4⟩ : 0 ≤ m ∧ m ≤ 10000000 ∧ 0 ≤ t ∧ t ≤ 1000 * m := of_decide_eq_true hmo
  obtain ⟨-, -, b5, b6⟩ := mass_split hmo
  obtain ⟨b7, b8, -⟩ := leftM_bounds b1
  have hEV := fun u => specEven_is m b1 b2 u
  have hSH : ∀ u : World, Calls Try.prog 31 #[.int .i64 t, .int .i64 (leftM m), .int .i64 m] u fun e w' => e = .returned (.int .i64 (leftT m t)) ∧ u.grownBy w' none := fun u => (specShare_is t (leftM m) m u).mono fun _ _ ⟨he, hw⟩ => ⟨he, hw ▸ grown_refl _⟩
  have hSM : splitM ms k = ms.take k ++ [leftM m, m - leftM m] ++ ms.drop (k + 1) := by unfold splitM; rw [atI_of hm]; rfl
  have hST : splitT ms ts k = ts.take k ++ [leftT m t, t - leftT m t] ++ ts.drop (k + 1) := by unfold splitT; rw [atI_of hm, atI_of ht]; rfl
  obtain ⟨lm, hlm⟩ : ∃ q, q = leftM m := ⟨_, rfl⟩
  obtain ⟨tl, htl⟩ : ∃ q, q = leftT m t := ⟨_, rfl⟩
  rw [← hlm] at hSM b7 b8 hSH
  rw [← htl] at hST b5 b6 hSH
  obtain ⟨ml, hml⟩ : ∃ q, q = ms.take k ++ [lm, m - lm] := ⟨_, rfl⟩
  obtain ⟨tr, htr⟩ : ∃ q, q = ts.take k ++ [tl, t - tl] := ⟨_, rfl⟩
  obtain ⟨mf, hmf⟩ : ∃ q, q = ms.take k := ⟨_, rfl⟩
  obtain ⟨tf, htf⟩ : ∃ q, q = ts.take k := ⟨_, rfl⟩
  rw [← hml] at hSM
  rw [← htr] at hST
  have HEV := Lib.hid (show ∀ u : World, Calls Try.prog 109 #[.int .i64 m] u fun e w' => e = .returned (.tuple #[.int .i64 lm, .int .i64 (m - lm)]) ∧ u.grownBy w' none from fun u => (hEV u).mono fun _ _ ⟨he, hw⟩ => ⟨by rw [he, hlm], hw ▸ grown_refl _⟩)
  have HSH := Lib.hid hSH; have HSM := Lib.hid hSM; have HST := Lib.hid hST
  have HMF := Lib.hid (show vals mf = vals (ms.take k) by rw [hmf]); have HTF := Lib.hid (show vals tf = vals (ts.take k) by rw [htf])
  have HML := Lib.hid (show vals ml = vals mf ++ vals [lm, m - lm] by rw [hml, hmf, vals_append2]); have HTR := Lib.hid (show vals tr = vals tf ++ vals [tl, t - tl] by rw [htr, htf, vals_append2])
  have HLA := Lib.hid (show (vals (ms.take k)).length = k * 1 by rw [vals_len, List.length_take]; omega)
  have HLT := Lib.hid (show (vals (ts.take k)).length = k * 1 by rw [vals_len, List.length_take]; omega)
  have HL := Lib.hid (And.intro (show (ms.drop (k + 1)).length = n2 - (k + 1) by rw [List.length_drop]; omega) (show (ts.drop (k + 1)).length = n3 - (k + 1) by rw [List.length_drop]; omega))
  have HC := Lib.hid (And.intro (And.intro (show k + 1 ≤ n2 by omega) k2) (And.intro (show k + 1 ≤ n3 by omega) k3))
  have HSP := Lib.hid (show ∀ u, w.grownBy u none → Calls Try.prog 110 #[.agg #[.int .i64 R, .slice (some ⟨g1, 0, none⟩) n1 c1], .int .i64 (k : Int)] u fun e w' => ∃ v, e = .returned (.agg #[.int .i64 R, v]) ∧ w'.ownsRow u.heap.size 36 3 v (n1 + 1) (flatC (split2 xs k)) ∧ u.grownBy w' none from fun u hu => specSplit_is R g1 n1 c1 k xs x u (h.r.l.on hu) (by omega) h.k1 hx (ho _ _ hx) hl)
  have HR := Lib.hid h.r; have HM := Lib.hid (And.intro hm ht)
  have HB := Lib.hid (show 0 < n4 ∧ n4 ≤ 1048576 by omega)
  have HN := Lib.hid (show n1 ≤ 1000 ∧ n2 ≤ 1000 ∧ n3 ≤ 1000 ∧ k ≤ 1000 by omega)
  have i2 : (k : Int) < n2 := by omega
  have i3 : (k : Int) < n3 := by omega
  have i4 : (k : Int) ≤ c2 := by omega
  have i5 : (k : Int) ≤ c3 := by omega
  have j2 : (k : Int) + 1 ≤ n2 := by omega
  have j3 : (k : Int) + 1 ≤ n3 := by omega
  have j4 : (0 : Int) ≤ (k : Int) + 1 := by omega
  have j5 : ((k : Int) + 1).toNat = k + 1 := by omega
  have hw1 : IntKind.i64.wrap (t - tl) = t - tl := IntWalk.i64_in _ (by omega)
  have hw2 : IntKind.i64.wrap ((k : Int) + 1) = (k : Int) + 1 := IntWalk.i64_in _ (by omega)
  rw [show n2 + 1 = (k + 2) + (n2 - (k + 1)) by omega, show n3 + 1 = (k + 2) + (n3 - (k + 1)) by omega]
  have i6 : (k : Int) ≤ 1000 := by omega
  have he := ((Held.nil w).box 29 #[.int .i64 R, .slice (some ⟨g1, 0, none⟩) n1 c1, .slice (some ⟨g2, 0, none⟩) n2 c2, .slice (some ⟨g3, 0, none⟩) n3 c3, .slice (some ⟨g4, 0, none⟩) n4 c4]).box 29 #[.int .i64 0, .slice none 0 0, .slice none 0 0, .slice none 0 0, .slice none 0 0]
  simp only [World.size_alloc] at he
  have HE := Lib.hid he; clear he
  clear h hp hx hl ho hn1 hn1' r1 r2 hkx e1 e2 e3 e4 q1 q2 q3 hmo b1 b2 b3 b4 b5 b6 b7 b8 hEV hSH hSM hST hlm htl hm ht k2 k3 hml htr hmf htf
  go_enter Try.func67, Try.ntmps67
  go_upto_region 1 with fail
  generalize (w.alloc (.cells #[.int .i64 R, .slice (some ⟨g1, 0, none⟩) n1 c1, .slice (some ⟨g2, 0, none⟩) n2 c2, .slice (some ⟨g3, 0, none⟩) n3 c3, .slice (some ⟨g4, 0, none⟩) n4 c4] 29)).alloc (.cells #[.int .i64 0, .slice none 0 0, .slice none 0 0, .slice none 0 0, .slice none 0 0] 29) = W0 at *
  obtain ⟨z0, z1, z2, z3, z4⟩ := Law.box5 (HE.out.nth 0 rfl)
  have c7 := State.readsI_cell (HR.out.m.on HE.out.gr) HM.out.1
  go_upto_region 2 with (go_at_call 109; ((with_reducible refine (HEV.out _).mono ?_); rintro e w1 ⟨rfl, hg⟩; have HE1 := Lib.hid (HE.out.on hg); clear hg))
  clear z0 z1 z2 z3 z4 c7 HE HEV
  rename_i K hK
  refine Draws.wp_region_tabG (w := w) rfl (by kernel_rfl) (by kernel_rfl) State.SsShGDep (by kernel_rfl) [Law.boxG w.heap.size 29 #[.int .i64 R, .slice (some ⟨g1, 0, none⟩) n1 c1, .slice (some ⟨g2, 0, none⟩) n2 c2, .slice (some ⟨g3, 0, none⟩) n3 c3, .slice (some ⟨g4, 0, none⟩) n4 c4], Law.boxG (w.heap.size + 1) 29 #[.int .i64 0, .slice none 0 0, .slice none 0 0, .slice none 0 0, .slice none 0 0]] [] (fun _ => Law.emptyG) (State.SsShG R g1 g2 g3 g4 n1 n2 n3 n4 c1 c2 c3 c4 k w.heap.size xs ms ts bs m m t t lm tl) ?start ?step ?last
  case start => exact HE1.out.on (Mesh.gr_drew (Cell.grown_refl _))
  case step =>
    clear hK
    intro L a W val G i o hI ho hL hd
    have hi : i < 13 := by have := (Array.getElem?_eq_some_iff.1 ho).1; simpa using this
    have hloc := State.SsShG_local R g1 g2 g3 g4 n1 n2 n3 n4 c1 c2 c3 c4 k w.heap.size xs ms ts bs m m t t lm tl
    obtain ⟨z0, z1, z2, z3, z4⟩ := Law.box5 (hI.hd.nth 0 rfl)
    have c7 := State.readsI_cell (HR.out.m.on hI.hd.gr) HM.out.1
    have c8 := State.readsI_cell (HR.out.t.on hI.hd.gr) HM.out.2
    rcases (show i = 0 ∨ i = 1 ∨ i = 2 ∨ i = 3 ∨ i = 4 ∨ i = 5 ∨ i = 6 ∨ i = 7 ∨ i = 8 ∨ i = 9 ∨ i = 10 ∨ i = 11 ∨ i = 12 by omega) with rfl | rfl | rfl | rfl | rfl | rfl | rfl | rfl | rfl | rfl | rfl | rfl | rfl
    · obtain rfl := Option.some.inj ho
      have p2 := (hI.old 2 (by kernel_rfl) rfl).get
      refine Draws.wpOp_of (by rfl) rfl (State.wp_value (v := .pointer (some ⟨w.heap.size, 3, none⟩)) (w' := W) ?_ (hI.same hloc hL _ _ (Cell.grown_refl _) (Draws.upd_at _ _ _)))
      simp only [execOp]
      go_simp
    · obtain rfl := Option.some.inj ho
      have l0 := hd 0 (by simp [State.SsShGDep])
      have e0 := (hI.at_ 0 19 rfl l0).get
      rw [show val 0 = _ from hI.gd 0 l0] at e0
      refine Draws.wpOp_of (by rfl) rfl (State.wp_value (v := .slice (some ⟨g3, 0, none⟩) n3 c3) (w' := W) ?_ (hI.same hloc hL _ _ (Cell.grown_refl _) (Draws.upd_at _ _ _)))
      simp only [execOp]
      go_simp
    · obtain rfl := Option.some.inj ho
      have p1 := (hI.old 1 (by kernel_rfl) rfl).get
      refine Draws.wpOp_of (by rfl) rfl (State.wp_value (v := .int .i64 (k : Int)) (w' := W) ?_ (hI.same hloc hL _ _ (Cell.grown_refl _) (Draws.upd_at _ _ _)))
      simp only [execOp]
      go_simp
    · obtain rfl := Option.some.inj ho
      have l1 := hd 1 (by simp [State.SsShGDep])
      have e1 := (hI.at_ 1 20 rfl l1).get
      have l2 := hd 2 (by simp [State.SsShGDep])
      have e2 := (hI.at_ 2 21 rfl l2).get
      rw [show val 1 = _ from hI.gd 1 l1] at e1
      rw [show val 2 = _ from hI.gd 2 l2] at e2
      refine Draws.wpOp_of (by rfl) rfl (State.wp_value (v := .pointer (some ⟨g3, k, none⟩)) (w' := W) ?_ (hI.same hloc hL _ _ (Cell.grown_refl _) (Draws.upd_at _ _ _)))
      simp only [execOp]
      go_simp
    · obtain rfl := Option.some.inj ho
      have l3 := hd 3 (by simp [State.SsShGDep])
      have e3 := (hI.at_ 3 22 rfl l3).get
      rw [show val 3 = _ from hI.gd 3 l3] at e3
      refine Draws.wpOp_of (by rfl) rfl (State.wp_value (v := .int .i64 t) (w' := W) ?_ (hI.same hloc hL _ _ (Cell.grown_refl _) (Draws.upd_at _ _ _)))
      simp only [execOp]
      go_simp
    · obtain rfl := Option.some.inj ho
      have p5 := (hI.old 5 (by kernel_rfl) rfl).get
      refine Draws.wpOp_of (by rfl) rfl (State.wp_value (v := .int .i64 lm) (w' := W) ?_ (hI.same hloc hL _ _ (Cell.grown_refl _) (Draws.upd_at _ _ _)))
      simp only [execOp]
      go_simp
    · obtain rfl := Option.some.inj ho
      have p2 := (hI.old 2 (by kernel_rfl) rfl).get
      refine Draws.wpOp_of (by rfl) rfl (State.wp_value (v := .pointer (some ⟨w.heap.size, 2, none⟩)) (w' := W) ?_ (hI.same hloc hL _ _ (Cell.grown_refl _) (Draws.upd_at _ _ _)))
      simp only [execOp]
      go_simp
    · obtain rfl := Option.some.inj ho
      have l6 := hd 6 (by simp [State.SsShGDep])
      have e6 := (hI.at_ 6 25 rfl l6).get
      rw [show val 6 = _ from hI.gd 6 l6] at e6
      refine Draws.wpOp_of (by rfl) rfl (State.wp_value (v := .slice (some ⟨g2, 0, none⟩) n2 c2) (w' := W) ?_ (hI.same hloc hL _ _ (Cell.grown_refl _) (Draws.upd_at _ _ _)))
      simp only [execOp]
      go_simp
    · obtain rfl := Option.some.inj ho
      have p1 := (hI.old 1 (by kernel_rfl) rfl).get
      refine Draws.wpOp_of (by rfl) rfl (State.wp_value (v := .int .i64 (k : Int)) (w' := W) ?_ (hI.same hloc hL _ _ (Cell.grown_refl _) (Draws.upd_at _ _ _)))
      simp only [execOp]
      go_simp
    · obtain rfl := Option.some.inj ho
      have l7 := hd 7 (by simp [State.SsShGDep])
      have e7 := (hI.at_ 7 26 rfl l7).get
      have l8 := hd 8 (by simp [State.SsShGDep])
      have e8 := (hI.at_ 8 27 rfl l8).get
      rw [show val 7 = _ from hI.gd 7 l7] at e7
      rw [show val 8 = _ from hI.gd 8 l8] at e8
      refine Draws.wpOp_of (by rfl) rfl (State.wp_value (v := .pointer (some ⟨g2, k, none⟩)) (w' := W) ?_ (hI.same hloc hL _ _ (Cell.grown_refl _) (Draws.upd_at _ _ _)))
      simp only [execOp]
      go_simp
    · obtain rfl := Option.some.inj ho
      have l9 := hd 9 (by simp [State.SsShGDep])
      have e9 := (hI.at_ 9 28 rfl l9).get
      rw [show val 9 = _ from hI.gd 9 l9] at e9
      refine Draws.wpOp_of (by rfl) rfl (State.wp_value (v := .int .i64 m) (w' := W) ?_ (hI.same hloc hL _ _ (Cell.grown_refl _) (Draws.upd_at _ _ _)))
      simp only [execOp]
      go_simp
    · obtain rfl := Option.some.inj ho
      have l4 := hd 4 (by simp [State.SsShGDep])
      have e4 := (hI.at_ 4 23 rfl l4).get
      have l5 := hd 5 (by simp [State.SsShGDep])
      have e5 := (hI.at_ 5 24 rfl l5).get
      have l10 := hd 10 (by simp [State.SsShGDep])
      have e10 := (hI.at_ 10 29 rfl l10).get
      rw [show val 4 = _ from hI.gd 4 l4] at e4
      rw [show val 5 = _ from hI.gd 5 l5] at e5
      rw [show val 10 = _ from hI.gd 10 l10] at e10
      refine Draws.wpOp_of (by rfl) rfl ?_
      unfold Oper.wp
      simp only [execOp]
      go_simp
      refine Calls.mono (P := Try.prog) (HSH.out W) ?_
      rintro e w1 ⟨rfl, hg⟩
      exact hI.same hloc hL _ (.int .i64 tl) hg (Draws.upd_at _ _ _)
    · obtain rfl := Option.some.inj ho
      have l11 := hd 11 (by simp [State.SsShGDep])
      have e11 := (hI.at_ 11 30 rfl l11).get
      rw [show val 11 = _ from hI.gd 11 l11] at e11
      refine Draws.wpOp_of (by rfl) rfl (State.wp_value (v := .int .i64 tl) (w' := W) ?_ (hI.same hloc hL _ _ (Cell.grown_refl _) (Draws.upd_at _ _ _)))
      simp only [execOp]
      go_simp
  case last =>
    intro L a_ W val G hI hall
    have v12 : val 12 = .int .i64 tl := hI.gd 12 (hall 12 (by simp))
    have HE2 := Lib.hid (show Law.Held w W [Law.boxG w.heap.size 29 #[.int .i64 R, .slice (some ⟨g1, 0, none⟩) n1 c1, .slice (some ⟨g2, 0, none⟩) n2 c2, .slice (some ⟨g3, 0, none⟩) n3 c3, .slice (some ⟨g4, 0, none⟩) n4 c4], Law.boxG (w.heap.size + 1) 29 #[.int .i64 0, .slice none 0 0, .slice none 0 0, .slice none 0 0, .slice none 0 0]] from hI.hd)
    have ha := hI.frame (by kernel_rfl) hall
    refine hK _ _ ?_
    clear hK hI hall HE1 HSH
    simp [Draws.frameOf, Draws.slotOf, Act.put, List.range, List.range.loop] at ha
    subst ha
    rw [v12]
    clear v12
    obtain ⟨z0, z1, z2, z3, z4⟩ := Law.box5 ((HE2.out.on (World.grownBy_alloc W (.cells #[] 3) none)).nth 0 rfl)
    have HEM := Lib.hid (State.own_emptyI W W.heap.size (Nat.le_refl _))
    have HNA := Lib.hid (State.reads_cut ((HR.out.m.on HE2.out.gr).on (World.grownBy_alloc W (.cells #[] 3) none)) k)
    go_upto_region 4 with (at_builtin; refine wpList_append_own_at _ rfl _ _ 27 rfl W.heap.size 3 i0 (.int .i64 0) 1 8 Try.underlying27 hi0 hz0 hz1 hz2 rfl (by decide) _ _ _ rfl HEM.out ⟨g2, 0, none⟩ k c2 (vals (ms.take k)) rfl HLA.out HNA.out (vals_one _) (by unfold maxLen; omega) (by omega) (by simp) ?_; intro v' w3 hown' hgrow hnil hat; clear hnil; rw [Nat.zero_add, List.nil_append, ← HMF.out] at hown'; obtain ⟨b2, d2, rfl⟩ := own_shapeAny hown'; have HE3 := Lib.hid (HE2.out.row (grown_above (show World.grownBy _ w3 (some W.heap.size) from hgrow) (Nat.le_refl _) (World.grownBy_alloc W (.cells #[] 3) none)) hown'); clear hown' hgrow hat)
    clear z0 z1 z2 z3 z4 HEM HNA HE2
    obtain ⟨w_, hw_⟩ : ∃ q : World, q = w3 := ⟨_, rfl⟩
    rw [← hw_] at HE3 ⊢
    clear hw_
    have HOW := Lib.hid (show (w_.alloc (.cells #[.int .i64 lm, .int .i64 (m - lm)] 3)).ownsRow 0 3 1 (.slice b2 k d2) k _ from (HE3.out.on (World.grownBy_alloc w_ (.cells #[.int .i64 lm, .int .i64 (m - lm)] 3) none)).nth 2 rfl)
    have HPN := Lib.hid (World.news_of_block (cs := (vals [lm, (m - lm)]).toArray) (t := 3) (fr := (0, 0)) (show (w_.alloc (.cells #[.int .i64 lm, .int .i64 (m - lm)] 3)).heap[w_.heap.size]? = some (.cells (vals [lm, (m - lm)]).toArray 3 (0, 0)) from heap_alloc_new w_ _))
    go_upto_region 5 with (at_builtin; refine wpList_append_own_at _ rfl _ _ 27 rfl 0 3 i0 (.int .i64 0) 1 8 Try.underlying27 hi0 hz0 hz1 hz2 rfl (by decide) _ _ _ rfl HOW.out ⟨w_.heap.size, 0, none⟩ 2 2 (vals [lm, (m - lm)]) rfl rfl HPN.out (vals_one _) (by unfold maxLen; omega) (by omega) (Nat.zero_le _) ?_; intro v' w3 hown' hgrow hnil hat; clear hnil; rw [← HML.out] at hown'; obtain ⟨p2, h2, rfl⟩ := own_shapeAny hown'; have HE4 := Lib.hid ((HE3.out.on (World.grownBy_alloc w_ (.cells #[.int .i64 lm, .int .i64 (m - lm)] 3) none)).appended 2 rfl hown' hgrow hat); clear hown' hgrow hat)
    clear HOW HPN HE3
    obtain ⟨wq, hwq⟩ : ∃ q : World, q = w3 := ⟨_, rfl⟩
    rw [← hwq] at HE4 ⊢
    clear hwq w3
    obtain ⟨z0, z1, z2, z3, z4⟩ := Law.box5 ((HE4.out.on (World.grownBy_alloc wq (.cells #[] 3) none)).nth 0 rfl)
    have HEM := Lib.hid (State.own_emptyI wq wq.heap.size (Nat.le_refl _))
    have HNA := Lib.hid (State.reads_cut ((HR.out.t.on HE4.out.gr).on (World.grownBy_alloc wq (.cells #[] 3) none)) k)
    go_upto_region 6 with (at_builtin; refine wpList_append_own_at _ rfl _ _ 27 rfl wq.heap.size 3 i0 (.int .i64 0) 1 8 Try.underlying27 hi0 hz0 hz1 hz2 rfl (by decide) _ _ _ rfl HEM.out ⟨g3, 0, none⟩ k c3 (vals (ts.take k)) rfl HLT.out HNA.out (vals_one _) (by unfold maxLen; omega) (by omega) (by simp) ?_; intro v' w3 hown' hgrow hnil hat; clear hnil; rw [Nat.zero_add, List.nil_append, ← HTF.out] at hown'; obtain ⟨b2, d2, rfl⟩ := own_shapeAny hown'; have HE5 := Lib.hid (HE4.out.row (grown_above (show World.grownBy _ w3 (some wq.heap.size) from hgrow) (Nat.le_refl _) (World.grownBy_alloc wq (.cells #[] 3) none)) hown'); clear hown' hgrow hat)
    clear z0 z1 z2 z3 z4 HEM HNA HE4
    obtain ⟨w_, hw_⟩ : ∃ q : World, q = w3 := ⟨_, rfl⟩
    rw [← hw_] at HE5 ⊢
    clear hw_
    obtain ⟨z0, z1, z2, z3, z4⟩ := Law.box5 (HE5.out.nth 0 rfl)
    have c8 := State.readsI_cell (HR.out.t.on HE5.out.gr) HM.out.2
    have HOW := Lib.hid (show (w_.alloc (.cells #[.int .i64 tl, .int .i64 (t - tl)] 3)).ownsRow 0 3 1 (.slice b2 k d2) k _ from (HE5.out.on (World.grownBy_alloc w_ (.cells #[.int .i64 tl, .int .i64 (t - tl)] 3) none)).nth 3 rfl)
    have HPN := Lib.hid (World.news_of_block (cs := (vals [tl, (t - tl)]).toArray) (t := 3) (fr := (0, 0)) (show (w_.alloc (.cells #[.int .i64 tl, .int .i64 (t - tl)] 3)).heap[w_.heap.size]? = some (.cells (vals [tl, (t - tl)]).toArray 3 (0, 0)) from heap_alloc_new w_ _))
    go_upto_region 7 with (at_builtin; refine wpList_append_own_at _ rfl _ _ 27 rfl 0 3 i0 (.int .i64 0) 1 8 Try.underlying27 hi0 hz0 hz1 hz2 rfl (by decide) _ _ _ rfl HOW.out ⟨w_.heap.size, 0, none⟩ 2 2 (vals [tl, (t - tl)]) rfl rfl HPN.out (vals_one _) (by unfold maxLen; omega) (by omega) (Nat.zero_le _) ?_; intro v' w3 hown' hgrow hnil hat; clear hnil; rw [← HTR.out] at hown'; obtain ⟨p3, h3, rfl⟩ := own_shapeAny hown'; have HE6 := Lib.hid ((HE5.out.on (World.grownBy_alloc w_ (.cells #[.int .i64 tl, .int .i64 (t - tl)] 3) none)).appended 3 rfl hown' hgrow hat); clear hown' hgrow hat)
    clear HOW HPN HE5 z0 z1 z2 z3 z4 c8
    rename_i K hK
    refine Draws.wp_region_tabG (w := w) rfl (by kernel_rfl) (by kernel_rfl) State.SsMkGDep (by kernel_rfl) [Law.boxG w.heap.size 29 #[.int .i64 R, .slice (some ⟨g1, 0, none⟩) n1 c1, .slice (some ⟨g2, 0, none⟩) n2 c2, .slice (some ⟨g3, 0, none⟩) n3 c3, .slice (some ⟨g4, 0, none⟩) n4 c4]] [23, 10, 17, 3, 21] (fun j => match j with | 23 => Law.boxG (w.heap.size + 1) 29 #[.int .i64 0, .slice none 0 0, .slice none 0 0, .slice none 0 0, .slice none 0 0] | 10 => Law.rowG 3 1 (.slice p2 (k + 2) h2) ((k + 2)) (Ints.vals (ml)) | 17 => Law.rowG 3 1 (.slice p3 (k + 2) h3) ((k + 2)) (Ints.vals (tr)) | _ => Law.emptyG) (State.SsMkG R g1 g2 g3 g4 n1 n2 n3 n4 c1 c2 c3 c4 k w.heap.size xs ms ts bs m m t t lm tl p2 p3 h2 h3 ml tr) ?start ?step ?last
    case start => exact ((HE6.out.on (Mesh.gr_drew (Cell.grown_refl _))).addE).addE
    case step =>
      clear hK
      intro L a W val G i o hI ho hL hd
      have hi : i < 24 := by have := (Array.getElem?_eq_some_iff.1 ho).1; simpa using this
      have hloc := State.SsMkG_local R g1 g2 g3 g4 n1 n2 n3 n4 c1 c2 c3 c4 k w.heap.size xs ms ts bs m m t t lm tl p2 p3 h2 h3 ml tr
      obtain ⟨z0, z1, z2, z3, z4⟩ := Law.box5 (hI.hd.nth 0 rfl)
      rcases (show i = 0 ∨ i = 1 ∨ i = 2 ∨ i = 3 ∨ i = 4 ∨ i = 5 ∨ i = 6 ∨ i = 7 ∨ i = 8 ∨ i = 9 ∨ i = 10 ∨ i = 11 ∨ i = 12 ∨ i = 13 ∨ i = 14 ∨ i = 15 ∨ i = 16 ∨ i = 17 ∨ i = 18 ∨ i = 19 ∨ i = 20 ∨ i = 21 ∨ i = 22 ∨ i = 23 by omega) with rfl | rfl | rfl | rfl | rfl | rfl | rfl | rfl | rfl | rfl | rfl | rfl | rfl | rfl | rfl | rfl | rfl | rfl | rfl | rfl | rfl | rfl | rfl | rfl
      · obtain rfl := Option.some.inj ho
        have p2 := (hI.old 2 (by kernel_rfl) rfl).get
        refine Draws.wpOp_of (by rfl) rfl (State.wp_value (v := .pointer (some ⟨w.heap.size, 0, none⟩)) (w' := W) ?_ (hI.same hloc hL _ _ (Cell.grown_refl _) (Draws.upd_at _ _ _)))
        simp only [execOp]
        go_simp
      · obtain rfl := Option.some.inj ho
        have l0 := hd 0 (by simp [State.SsMkGDep])
        have e0 := (hI.at_ 0 59 rfl l0).get
        rw [show val 0 = _ from hI.gd 0 l0] at e0
        refine Draws.wpOp_of (by rfl) rfl (State.wp_value (v := .agg #[.int .i64 R, .slice (some ⟨g1, 0, none⟩) n1 c1]) (w' := W) ?_ (hI.same hloc hL _ _ (Cell.grown_refl _) (Draws.upd_at _ _ _)))
        simp only [execOp]
        go_simp
      · obtain rfl := Option.some.inj ho
        have p1 := (hI.old 1 (by kernel_rfl) rfl).get
        refine Draws.wpOp_of (by rfl) rfl (State.wp_value (v := .int .i64 (k : Int)) (w' := W) ?_ (hI.same hloc hL _ _ (Cell.grown_refl _) (Draws.upd_at _ _ _)))
        simp only [execOp]
        go_simp
      · obtain rfl := Option.some.inj ho
        have l1 := hd 1 (by simp [State.SsMkGDep])
        have e1 := (hI.at_ 1 60 rfl l1).get
        have l2 := hd 2 (by simp [State.SsMkGDep])
        have e2 := (hI.at_ 2 61 rfl l2).get
        rw [show val 1 = _ from hI.gd 1 l1] at e1
        rw [show val 2 = _ from hI.gd 2 l2] at e2
        refine Draws.wpOp_of (by rfl) rfl ?_
        unfold Oper.wp
        simp only [execOp]
        go_simp
        refine Calls.mono (P := Try.prog) (HSP.out W hI.hd.gr) ?_
        rintro e w1 ⟨v, rfl, ho, hg⟩
        obtain ⟨b1, d1, rfl⟩ := State.own_shapeAny ho
        exact hI.made hloc hL _ (.agg #[.int .i64 R, .slice b1 (n1 + 1) d1]) (Law.rowG 36 3 (.slice b1 (n1 + 1) d1) (n1 + 1) (Mesh.flatC (Mesh.split2 xs k))) (hI.hd.fill 4 (g' := Law.rowG 36 3 (.slice b1 (n1 + 1) d1) (n1 + 1) (Mesh.flatC (Mesh.split2 xs k))) (congrArg some (hI.no 3 hL)) hg (Law.own_zero ho) (fun b hb => ho.lt b (by simpa [Law.rowG] using hb))) ⟨b1, d1, Draws.upd_at _ _ _, Draws.upd_at _ _ _⟩
      · obtain rfl := Option.some.inj ho
        have p8 := (hI.old 8 (by kernel_rfl) rfl).get
        refine Draws.wpOp_of (by rfl) rfl (State.wp_value (v := .slice p2 (k + 2) h2) (w' := W) ?_ (hI.same hloc hL _ _ (Cell.grown_refl _) (Draws.upd_at _ _ _)))
        simp only [execOp]
        go_simp
      · obtain rfl := Option.some.inj ho
        have p2 := (hI.old 2 (by kernel_rfl) rfl).get
        refine Draws.wpOp_of (by rfl) rfl (State.wp_value (v := .pointer (some ⟨w.heap.size, 2, none⟩)) (w' := W) ?_ (hI.same hloc hL _ _ (Cell.grown_refl _) (Draws.upd_at _ _ _)))
        simp only [execOp]
        go_simp
      · obtain rfl := Option.some.inj ho
        have l5 := hd 5 (by simp [State.SsMkGDep])
        have e5 := (hI.at_ 5 64 rfl l5).get
        rw [show val 5 = _ from hI.gd 5 l5] at e5
        refine Draws.wpOp_of (by rfl) rfl (State.wp_value (v := .slice (some ⟨g2, 0, none⟩) n2 c2) (w' := W) ?_ (hI.same hloc hL _ _ (Cell.grown_refl _) (Draws.upd_at _ _ _)))
        simp only [execOp]
        go_simp
      · obtain rfl := Option.some.inj ho
        have p1 := (hI.old 1 (by kernel_rfl) rfl).get
        refine Draws.wpOp_of (by rfl) rfl (State.wp_value (v := .int .i64 (k : Int)) (w' := W) ?_ (hI.same hloc hL _ _ (Cell.grown_refl _) (Draws.upd_at _ _ _)))
        simp only [execOp]
        go_simp
      · obtain rfl := Option.some.inj ho
        have l7 := hd 7 (by simp [State.SsMkGDep])
        have e7 := (hI.at_ 7 66 rfl l7).get
        rw [show val 7 = _ from hI.gd 7 l7] at e7
        refine Draws.wpOp_of (by rfl) rfl (State.wp_value (v := .int .i64 ((k : Int) + 1)) (w' := W) ?_ (hI.same hloc hL _ _ (Cell.grown_refl _) (Draws.upd_at _ _ _)))
        simp only [execOp]
        go_simp
      · obtain rfl := Option.some.inj ho
        have l6 := hd 6 (by simp [State.SsMkGDep])
        have e6 := (hI.at_ 6 65 rfl l6).get
        have l8 := hd 8 (by simp [State.SsMkGDep])
        have e8 := (hI.at_ 8 67 rfl l8).get
        rw [show val 6 = _ from hI.gd 6 l6] at e6
        rw [show val 8 = _ from hI.gd 8 l8] at e8
        refine Draws.wpOp_of (by rfl) rfl (State.wp_value (v := State.cutV g2 n2 c2 (k + 1)) (w' := W) ?_ (hI.same hloc hL _ _ (Cell.grown_refl _) (Draws.upd_at _ _ _)))
        by_cases hc : c2 = k + 1
        · rw [State.cutV_full hc]
          simp only [execOp]
          have hc1 : ¬ c2 < k + 1 := by omega
          go_simp
        · rw [State.cutV_part hc]
          simp only [execOp]
          go_simp
      · obtain rfl := Option.some.inj ho
        have l4 := hd 4 (by simp [State.SsMkGDep])
        have e4 := (hI.at_ 4 63 rfl l4).get
        have l9 := hd 9 (by simp [State.SsMkGDep])
        have e9 := (hI.at_ 9 68 rfl l9).get
        rw [show val 4 = _ from hI.gd 4 l4] at e4
        rw [show val 9 = _ from hI.gd 9 l9] at e9
        obtain ⟨ad, cc, hcv, hcn⟩ := State.cutV_news (HR.out.m.on hI.hd.gr) HC.out.1
        refine Draws.wpOp_of (by rfl) rfl (State.wp_append_at rfl (u := .slice p2 (k + 2) h2) (Draws.eval_slot (hI.at_ 4 63 rfl l4) (hI.gd 4 l4)) (hI.hd.nth 2 (congrArg some (hI.no 10 hL))) ((Draws.eval_slot (hI.at_ 9 68 rfl l9) (hI.gd 9 l9)).trans hcv) HL.out.1 hcn (by have := HN.out; omega) ?_)
        intro v' w1 hown hg hb
        rw [← Ints.vals_append2] at hown
        obtain ⟨e2, f2, rfl⟩ := State.own_shapeAny hown
        exact hI.made hloc hL _ (.slice e2 ((k + 2) + (n2 - (k + 1))) f2) (Law.rowG 3 1 (.slice e2 ((k + 2) + (n2 - (k + 1))) f2) ((k + 2) + (n2 - (k + 1))) (Ints.vals (ml ++ ms.drop (k + 1)))) (hI.hd.appended 2 (congrArg some (hI.no 10 hL)) hown hg hb) ⟨e2, f2, Draws.upd_at _ _ _, Draws.upd_at _ _ _⟩
      · obtain rfl := Option.some.inj ho
        have p9 := (hI.old 9 (by kernel_rfl) rfl).get
        refine Draws.wpOp_of (by rfl) rfl (State.wp_value (v := .slice p3 (k + 2) h3) (w' := W) ?_ (hI.same hloc hL _ _ (Cell.grown_refl _) (Draws.upd_at _ _ _)))
        simp only [execOp]
        go_simp
      · obtain rfl := Option.some.inj ho
        have p2 := (hI.old 2 (by kernel_rfl) rfl).get
        refine Draws.wpOp_of (by rfl) rfl (State.wp_value (v := .pointer (some ⟨w.heap.size, 3, none⟩)) (w' := W) ?_ (hI.same hloc hL _ _ (Cell.grown_refl _) (Draws.upd_at _ _ _)))
        simp only [execOp]
        go_simp
      · obtain rfl := Option.some.inj ho
        have l12 := hd 12 (by simp [State.SsMkGDep])
        have e12 := (hI.at_ 12 71 rfl l12).get
        rw [show val 12 = _ from hI.gd 12 l12] at e12
        refine Draws.wpOp_of (by rfl) rfl (State.wp_value (v := .slice (some ⟨g3, 0, none⟩) n3 c3) (w' := W) ?_ (hI.same hloc hL _ _ (Cell.grown_refl _) (Draws.upd_at _ _ _)))
        simp only [execOp]
        go_simp
      · obtain rfl := Option.some.inj ho
        have p1 := (hI.old 1 (by kernel_rfl) rfl).get
        refine Draws.wpOp_of (by rfl) rfl (State.wp_value (v := .int .i64 (k : Int)) (w' := W) ?_ (hI.same hloc hL _ _ (Cell.grown_refl _) (Draws.upd_at _ _ _)))
        simp only [execOp]
        go_simp
      · obtain rfl := Option.some.inj ho
        have l14 := hd 14 (by simp [State.SsMkGDep])
        have e14 := (hI.at_ 14 73 rfl l14).get
        rw [show val 14 = _ from hI.gd 14 l14] at e14
        refine Draws.wpOp_of (by rfl) rfl (State.wp_value (v := .int .i64 ((k : Int) + 1)) (w' := W) ?_ (hI.same hloc hL _ _ (Cell.grown_refl _) (Draws.upd_at _ _ _)))
        simp only [execOp]
        go_simp
      · obtain rfl := Option.some.inj ho
        have l13 := hd 13 (by simp [State.SsMkGDep])
        have e13 := (hI.at_ 13 72 rfl l13).get
        have l15 := hd 15 (by simp [State.SsMkGDep])
        have e15 := (hI.at_ 15 74 rfl l15).get
        rw [show val 13 = _ from hI.gd 13 l13] at e13
        rw [show val 15 = _ from hI.gd 15 l15] at e15
        refine Draws.wpOp_of (by rfl) rfl (State.wp_value (v := State.cutV g3 n3 c3 (k + 1)) (w' := W) ?_ (hI.same hloc hL _ _ (Cell.grown_refl _) (Draws.upd_at _ _ _)))
        by_cases hc : c3 = k + 1
        · rw [State.cutV_full hc]
          simp only [execOp]
          have hc1 : ¬ c3 < k + 1 := by omega
          go_simp
        · rw [State.cutV_part hc]
          simp only [execOp]
          go_simp
      · obtain rfl := Option.some.inj ho
        have l11 := hd 11 (by simp [State.SsMkGDep])
        have e11 := (hI.at_ 11 70 rfl l11).get
        have l16 := hd 16 (by simp [State.SsMkGDep])
        have e16 := (hI.at_ 16 75 rfl l16).get
        rw [show val 11 = _ from hI.gd 11 l11] at e11
        rw [show val 16 = _ from hI.gd 16 l16] at e16
        obtain ⟨ad, cc, hcv, hcn⟩ := State.cutV_news (HR.out.t.on hI.hd.gr) HC.out.2
        refine Draws.wpOp_of (by rfl) rfl (State.wp_append_at rfl (u := .slice p3 (k + 2) h3) (Draws.eval_slot (hI.at_ 11 70 rfl l11) (hI.gd 11 l11)) (hI.hd.nth 3 (congrArg some (hI.no 17 hL))) ((Draws.eval_slot (hI.at_ 16 75 rfl l16) (hI.gd 16 l16)).trans hcv) HL.out.2 hcn (by have := HN.out; omega) ?_)
        intro v' w1 hown hg hb
        rw [← Ints.vals_append2] at hown
        obtain ⟨e3, f3, rfl⟩ := State.own_shapeAny hown
        exact hI.made hloc hL _ (.slice e3 ((k + 2) + (n3 - (k + 1))) f3) (Law.rowG 3 1 (.slice e3 ((k + 2) + (n3 - (k + 1))) f3) ((k + 2) + (n3 - (k + 1))) (Ints.vals (tr ++ ts.drop (k + 1)))) (hI.hd.appended 3 (congrArg some (hI.no 17 hL)) hown hg hb) ⟨e3, f3, Draws.upd_at _ _ _, Draws.upd_at _ _ _⟩
      · obtain rfl := Option.some.inj ho
        refine Draws.wpOp_of (by rfl) rfl (State.wp_value (v := .slice (some ⟨W.heap.size, 0, none⟩) 0 0) (w' := W.alloc (.cells #[] 3)) ?_ (hI.same hloc hL _ _ (World.grownBy_alloc W _ none) ⟨_, Draws.upd_at _ _ _⟩))
        simp only [execOp]
        go_simp
      · obtain rfl := Option.some.inj ho
        have p2 := (hI.old 2 (by kernel_rfl) rfl).get
        refine Draws.wpOp_of (by rfl) rfl (State.wp_value (v := .pointer (some ⟨w.heap.size, 4, none⟩)) (w' := W) ?_ (hI.same hloc hL _ _ (Cell.grown_refl _) (Draws.upd_at _ _ _)))
        simp only [execOp]
        go_simp
      · obtain rfl := Option.some.inj ho
        have l19 := hd 19 (by simp [State.SsMkGDep])
        have e19 := (hI.at_ 19 78 rfl l19).get
        rw [show val 19 = _ from hI.gd 19 l19] at e19
        refine Draws.wpOp_of (by rfl) rfl (State.wp_value (v := .slice (some ⟨g4, 0, none⟩) n4 c4) (w' := W) ?_ (hI.same hloc hL _ _ (Cell.grown_refl _) (Draws.upd_at _ _ _)))
        simp only [execOp]
        go_simp
      · obtain rfl := Option.some.inj ho
        have l18 := hd 18 (by simp [State.SsMkGDep])
        have e18 := (hI.at_ 18 77 rfl l18).get
        have l20 := hd 20 (by simp [State.SsMkGDep])
        have e20 := (hI.at_ 20 79 rfl l20).get
        obtain ⟨be, v18⟩ := hI.gd 18 l18
        rw [v18] at e18
        rw [show val 20 = _ from hI.gd 20 l20] at e20
        refine Draws.wpOp_of (by rfl) rfl (State.wp_append_new rfl (Draws.eval_slot (hI.at_ 18 77 rfl l18) v18) (Draws.eval_slot (hI.at_ 20 79 rfl l20) (hI.gd 20 l20)) (HR.out.b.on hI.hd.gr) HB.out ?_)
        intro v' w1 hown hg
        obtain ⟨b4, d4, rfl⟩ := State.own_shapeAny hown
        exact hI.made hloc hL _ (.slice b4 n4 d4) (Law.rowG 3 1 (.slice b4 n4 d4) (n4) (Ints.vals (bs))) (hI.hd.fill 5 (g' := Law.rowG 3 1 (.slice b4 n4 d4) (n4) (Ints.vals (bs))) (congrArg some (hI.no 21 hL)) hg (Law.own_zero hown) (fun b hb => hown.lt b (by simpa [Law.rowG] using hb))) ⟨b4, d4, Draws.upd_at _ _ _, Draws.upd_at _ _ _⟩
      · obtain rfl := Option.some.inj ho
        have l3 := hd 3 (by simp [State.SsMkGDep])
        have e3 := (hI.at_ 3 62 rfl l3).get
        have l10 := hd 10 (by simp [State.SsMkGDep])
        have e10 := (hI.at_ 10 69 rfl l10).get
        have l17 := hd 17 (by simp [State.SsMkGDep])
        have e17 := (hI.at_ 17 76 rfl l17).get
        have l21 := hd 21 (by simp [State.SsMkGDep])
        have e21 := (hI.at_ 21 80 rfl l21).get
        obtain ⟨b1, d1, v3, -⟩ := hI.gd 3 l3
        rw [v3] at e3
        obtain ⟨e2, f2, v10, -⟩ := hI.gd 10 l10
        rw [v10] at e10
        obtain ⟨e3, f3, v17, -⟩ := hI.gd 17 l17
        rw [v17] at e17
        obtain ⟨b4, d4, v21, -⟩ := hI.gd 21 l21
        rw [v21] at e21
        refine Draws.wpOp_of (by rfl) rfl (State.wp_value (v := .agg #[.int .i64 R, .slice b1 (n1 + 1) d1, .slice e2 ((k + 2) + (n2 - (k + 1))) f2, .slice e3 ((k + 2) + (n3 - (k + 1))) f3, .slice b4 n4 d4]) (w' := W) ?_ (hI.same hloc hL _ _ (Cell.grown_refl _) ⟨b1, d1, e2, f2, e3, f3, b4, d4, Draws.upd_at _ _ _, v3, v10, v17, v21⟩))
        simp only [execOp]
        go_simp
      · obtain rfl := Option.some.inj ho
        have l22 := hd 22 (by simp [State.SsMkGDep])
        have e22 := (hI.at_ 22 81 rfl l22).get
        obtain ⟨b1, d1, e2, f2, e3, f3, b4, d4, v22, -⟩ := hI.gd 22 l22
        rw [v22] at e22
        have p4 := (hI.old 4 (by kernel_rfl) rfl).get
        have hz : ([Law.boxG w.heap.size 29 #[.int .i64 R, .slice (some ⟨g1, 0, none⟩) n1 c1, .slice (some ⟨g2, 0, none⟩) n2 c2, .slice (some ⟨g3, 0, none⟩) n3 c3, .slice (some ⟨g4, 0, none⟩) n4 c4]] ++ [23, 10, 17, 3, 21].map G)[1]? = some (Law.boxG (w.heap.size + 1) 29 #[.int .i64 0, .slice none 0 0, .slice none 0 0, .slice none 0 0, .slice none 0 0]) := congrArg some (hI.no 23 hL)
        obtain ⟨y0, y1, y2, y3, y4⟩ := Law.box5 (hI.hd.nth 1 hz)
        obtain ⟨f0, f1, f2_, f3_, f4⟩ := Law.free5 (hI.hd.nth 1 hz)
        refine Draws.wpOp_of (by rfl) rfl (State.wp_skip (w' := ((((W.setCell ⟨(w.heap.size + 1), 0, none⟩ (.int .i64 R)).setCell ⟨(w.heap.size + 1), 1, none⟩ (.slice b1 (n1 + 1) d1)).setCell ⟨(w.heap.size + 1), 2, none⟩ (.slice e2 ((k + 2) + (n2 - (k + 1))) f2)).setCell ⟨(w.heap.size + 1), 3, none⟩ (.slice e3 ((k + 2) + (n3 - (k + 1))) f3)).setCell ⟨(w.heap.size + 1), 4, none⟩ (.slice b4 n4 d4)) ?_ ?_)
        · simp only [execOp]
          go_simp
        exact hI.made hloc hL _ undef (Law.boxG (w.heap.size + 1) 29 #[.int .i64 R, .slice b1 (n1 + 1) d1, .slice e2 ((k + 2) + (n2 - (k + 1))) f2, .slice e3 ((k + 2) + (n3 - (k + 1))) f3, .slice b4 n4 d4]) (hI.hd.put5 1 hz (.int .i64 R) (.slice b1 (n1 + 1) d1) (.slice e2 ((k + 2) + (n2 - (k + 1))) f2) (.slice e3 ((k + 2) + (n3 - (k + 1))) f3) (.slice b4 n4 d4)) ⟨b1, d1, e2, f2, e3, f3, b4, d4, (Draws.upd_off _ _ (by decide)).trans v22, Draws.upd_at _ _ _⟩
    case last =>
      intro L a_ W val G hI hall
      have al : ∀ i, i < 24 → L i = true := fun i hi => hall i (by simpa using hi)
      obtain ⟨b1, d1, e2, f2, e3, f3, b4, d4, v22, v3, v10, v17, v21⟩ := hI.gd 22 (al 22 (by decide))
      obtain ⟨b1', d1', e2', f2', e3', f3', b4', d4', u, r23⟩ := hI.gd 23 (al 23 (by decide))
      rw [v22] at u
      cases u
      obtain ⟨b1', d1', u, r3⟩ := hI.gd 3 (al 3 (by decide))
      rw [v3] at u
      cases u
      obtain ⟨e2', f2', u, r10⟩ := hI.gd 10 (al 10 (by decide))
      rw [v10] at u
      cases u
      obtain ⟨e3', f3', u, r17⟩ := hI.gd 17 (al 17 (by decide))
      rw [v17] at u
      cases u
      obtain ⟨b4', d4', u, r21⟩ := hI.gd 21 (al 21 (by decide))
      rw [v21] at u
      cases u
      have hH : Law.Held w W [Law.boxG w.heap.size 29 #[.int .i64 R, .slice (some ⟨g1, 0, none⟩) n1 c1, .slice (some ⟨g2, 0, none⟩) n2 c2, .slice (some ⟨g3, 0, none⟩) n3 c3, .slice (some ⟨g4, 0, none⟩) n4 c4], G 23, G 10, G 17, G 3, G 21] := hI.hd
      rw [r23, r10, r17, r3, r21] at hH
      have HE7 := Lib.hid hH
      have ha := hI.frame (by kernel_rfl) hall
      refine hK _ _ ?_
      clear hK hI hH r23 r10 r17 r3 r21 hall al HE6 v22 v3 v10 v17 v21
      simp [Draws.frameOf, Draws.slotOf, Act.put, List.range, List.range.loop] at ha
      subst ha
      go_wp2_with fail
      rw [HSM.out, HST.out]
      exact bodyPost_ret_by (results_cell_row (fn := Try.f67) rfl _ _ (w.heap.size + 1) _ _ (0, 0) _ rfl (HE7.out.nth 1 rfl) Try.underlying29 rfl (by kernel_rfl)) rfl ⟨b1, d1, e2, f2, e3, f3, b4, d4, rfl, State.Held.ownS4 HE7.out 4 2 3 5 (by decide) rfl rfl rfl rfl, HE7.out.gr⟩
end Go.Proofs.Ytfoilfgiablleaa.State
