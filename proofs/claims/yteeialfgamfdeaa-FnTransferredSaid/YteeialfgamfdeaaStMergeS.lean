/- States: l08Merge, two leaves put together, of the reference model, as a contract, in memory of its own; nothing that was there is written (written by wip/tools/stspec.py).
   Conditions: a state that is valid but for the balance of its mesh. -/
import Derived.Test.YteeialfgamfdeaaStSpecT
import Derived.Test.YteeialfgamfdeaaStShare
set_option maxRecDepth 100000
namespace Go.Proofs.Yteeialfgamfdeaa.State
open Go.ChangeShapes Go.WideShapes Go.ChangeAt Go.RowKit Go.Joins Go.Proofs.Yteeialfgamfdeaa.Cell Go.Proofs.Yteeialfgamfdeaa.Mesh Go.Proofs.Yteeialfgamfdeaa.Law Go.Proofs.Yteeialfgamfdeaa.Ints Go.Proofs.Yteeialfgamfdeaa.Draws Go.Deep
set_option linter.unusedVariables false

theorem Held.sub {w W : World} {gs gs' : List Grp} (h : Held w W gs) (hs : gs'.Sublist gs) : Held w W gs' :=
  ⟨fun g hg => h.p g (hs.subset hg), fun g hg => h.lo g (hs.subset hg), h.dis.sublist hs, h.gr⟩

set_option maxHeartbeats 16000000 in
theorem specStMerge_is (R : Int) (g1 g2 g3 g4 n1 n2 n3 n4 c1 c2 c3 c4 k : Nat) (xs : List C3) (ms ts bs : List Int) (x y : C3) (w : World) (h : RoomS w (some ⟨g1, 0, none⟩) (some ⟨g2, 0, none⟩) (some ⟨g3, 0, none⟩) (some ⟨g4, 0, none⟩) n1 n2 n3 n4 c1 c2 c3 c4 xs ms ts bs)
    (hp : PreS R xs ms ts bs) (hx : xs[k]? = some x) (hy : xs[k + 1]? = some y) (hs : sibOf x y = true) :
    Calls Try.prog 64 #[.agg #[.int .i64 R, .slice (some ⟨g1, 0, none⟩) n1 c1, .slice (some ⟨g2, 0, none⟩) n2 c2, .slice (some ⟨g3, 0, none⟩) n3 c3, .slice (some ⟨g4, 0, none⟩) n4 c4], .int .i64 (k : Int)] w (GivesS R (n1 - 1) (n2 - 1) (n3 - 1) n4 (merge2 xs k) (joinI ms k) (joinI ts k) bs w) := by
  obtain ⟨i0, hi0, hz0, hz1, hz2⟩ := info_parts infoInt
  obtain ⟨ho, hn1, hn1'⟩ := mesh_parts hp.mesh
  obtain ⟨r1, r2, -⟩ : 1 ≤ R ∧ R ≤ 8 ∧ run xs = some (R * 16) := of_decide_eq_true hp.mesh
  have e1 := h.r.l.len; have e2 := h.r.m.len; have e3 := h.r.t.len; have e4 := h.r.b.len
  have q1 := hp.lm; have q2 := hp.lt; have q3 := hp.lb
  have k2 := h.k2; have k3 := h.k3
  obtain ⟨-, -, -, -, hl1⟩ := sib_kids hs
  have hkx := (List.getElem?_eq_some_iff.1 hy).1
  obtain ⟨m, t, hm, ht, hmo⟩ := hp.at_ (k := k) (by omega)
  obtain ⟨m2, t2, hm2, ht2, hmo2⟩ := hp.at_ (k := k + 1) hkx
  obtain ⟨b1, b2, b3, b4⟩ : 0 ≤ m ∧ m ≤ 10000000 ∧ 0 ≤ t ∧ t ≤ 1000 * m := of_decide_eq_true hmo
  obtain ⟨b5, b6, b7, b8⟩ : 0 ≤ m2 ∧ m2 ≤ 10000000 ∧ 0 ≤ t2 ∧ t2 ≤ 1000 * m2 := of_decide_eq_true hmo2
  have hSM : joinI ms k = ms.take k ++ [m + m2] ++ ms.drop (k + 2) := by unfold joinI; rw [atI_of hm, atI_of hm2]; rfl
  have hST : joinI ts k = ts.take k ++ [t + t2] ++ ts.drop (k + 2) := by unfold joinI; rw [atI_of ht, atI_of ht2]; rfl
  obtain ⟨mf, hmf⟩ : ∃ q, q = ms.take k := ⟨_, rfl⟩
  obtain ⟨tf, htf⟩ : ∃ q, q = ts.take k := ⟨_, rfl⟩
  rw [← hmf] at hSM
  rw [← htf] at hST
  have HMF := Lib.hid (show vals mf = vals (ms.take k) by rw [hmf]); have HTF := Lib.hid (show vals tf = vals (ts.take k) by rw [htf])
  obtain ⟨mn, hmn⟩ : ∃ q, q = mf ++ [m + m2] := ⟨_, rfl⟩
  obtain ⟨tn, htn⟩ : ∃ q, q = tf ++ [t + t2] := ⟨_, rfl⟩
  rw [← hmn] at hSM
  rw [← htn] at hST
  have HMN := Lib.hid hmn; have HTN := Lib.hid htn
  have HSM := Lib.hid hSM; have HST := Lib.hid hST
  have HLA := Lib.hid (show (vals (ms.take k)).length = k * 1 by rw [vals_len, List.length_take]; omega)
  have HLT := Lib.hid (show (vals (ts.take k)).length = k * 1 by rw [vals_len, List.length_take]; omega)
  have HL := Lib.hid (And.intro (show (ms.drop (k + 2)).length = n2 - (k + 2) by rw [List.length_drop]; omega) (show (ts.drop (k + 2)).length = n3 - (k + 2) by rw [List.length_drop]; omega))
  have HC := Lib.hid (And.intro (And.intro (show k + 2 ≤ n2 by omega) k2) (And.intro (show k + 2 ≤ n3 by omega) k3))
  have HSP := Lib.hid (show ∀ u, w.grownBy u none → Calls Try.prog 97 #[.agg #[.int .i64 R, .slice (some ⟨g1, 0, none⟩) n1 c1], .int .i64 (k : Int)] u fun e w' => ∃ v, e = .returned (.agg #[.int .i64 R, v]) ∧ w'.ownsRow u.heap.size 36 3 v (k + 1 + (n1 - (k + 2))) (flatC (merge2 xs k)) ∧ u.grownBy w' none from fun u hu => specMerge_is R g1 n1 c1 k xs x u (h.r.l.on hu) (by omega) h.k1 hx (ho _ _ hx) hl1 (by omega))
  have HR := Lib.hid h.r; have HM := Lib.hid (And.intro (And.intro hm hm2) (And.intro ht ht2))
  have HB := Lib.hid (show 0 < n4 ∧ n4 ≤ 1048576 by omega)
  have HN := Lib.hid (show n1 ≤ 1000 ∧ n2 ≤ 1000 ∧ n3 ≤ 1000 ∧ k ≤ 1000 by omega)
  have i2 : (k : Int) < n2 := by omega
  have i3 : (k : Int) < n3 := by omega
  have i4 : (k : Int) ≤ c2 := by omega
  have i5 : (k : Int) ≤ c3 := by omega
  have j2 : (k : Int) + 2 ≤ n2 := by omega
  have j3 : (k : Int) + 2 ≤ n3 := by omega
  have j4 : (0 : Int) ≤ (k : Int) + 1 := by omega
  have j5 : ((k : Int) + 1).toNat = k + 1 := by omega
  have j6 : (0 : Int) ≤ (k : Int) + 2 := by omega
  have j7 : ((k : Int) + 2).toNat = k + 2 := by omega
  have j8 : (k : Int) + 1 < n2 := by omega
  have j9 : (k : Int) + 1 < n3 := by omega
  have hw1 : IntKind.i64.wrap (m + m2) = m + m2 := IntWalk.i64_in _ (by omega)
  have hw2 : IntKind.i64.wrap ((k : Int) + 1) = (k : Int) + 1 := IntWalk.i64_in _ (by omega)
  have hw3 : IntKind.i64.wrap (t + t2) = t + t2 := IntWalk.i64_in _ (by omega)
  have hw4 : IntKind.i64.wrap ((k : Int) + 2) = (k : Int) + 2 := IntWalk.i64_in _ (by omega)
  have i6 : (k : Int) ≤ 1000 := by omega
  rw [show n1 - 1 = k + 1 + (n1 - (k + 2)) by omega, show n2 - 1 = (k + 1) + (n2 - (k + 2)) by omega, show n3 - 1 = (k + 1) + (n3 - (k + 2)) by omega]
  have he := ((Held.nil w).box 29 #[.int .i64 R, .slice (some ⟨g1, 0, none⟩) n1 c1, .slice (some ⟨g2, 0, none⟩) n2 c2, .slice (some ⟨g3, 0, none⟩) n3 c3, .slice (some ⟨g4, 0, none⟩) n4 c4]).box 29 #[.int .i64 0, .slice none 0 0, .slice none 0 0, .slice none 0 0, .slice none 0 0]
  simp only [World.size_alloc] at he
  have HE := Lib.hid he; clear he
  clear h hp hx hy hs ho hn1 hn1' r1 r2 hkx e1 e2 e3 e4 q1 q2 q3 hmo hmo2 b1 b2 b3 b4 b5 b6 b7 b8 hSM hST hm ht hm2 ht2 k2 k3 hmf htf hmn htn hl1
  go_enter Try.func64, Try.ntmps64
  go_upto_region 1 with fail
  generalize (w.alloc (.cells #[.int .i64 R, .slice (some ⟨g1, 0, none⟩) n1 c1, .slice (some ⟨g2, 0, none⟩) n2 c2, .slice (some ⟨g3, 0, none⟩) n3 c3, .slice (some ⟨g4, 0, none⟩) n4 c4] 29)).alloc (.cells #[.int .i64 0, .slice none 0 0, .slice none 0 0, .slice none 0 0, .slice none 0 0] 29) = W0 at *
  obtain ⟨z0, z1, z2, z3, z4⟩ := Law.box5 ((HE.out.on (World.grownBy_alloc W0 (.cells #[] 3) none)).nth 0 rfl)
  have HEM := Lib.hid (State.own_emptyI W0 W0.heap.size (Nat.le_refl _))
  have HNA := Lib.hid (State.reads_cut ((HR.out.m.on HE.out.gr).on (World.grownBy_alloc W0 (.cells #[] 3) none)) k)
  go_upto_region 2 with (at_builtin; refine wpList_append_own_at _ rfl _ _ 27 rfl W0.heap.size 3 i0 (.int .i64 0) 1 8 Try.underlying27 hi0 hz0 hz1 hz2 rfl (by decide) _ _ _ rfl HEM.out ⟨g2, 0, none⟩ k c2 (vals (ms.take k)) rfl HLA.out HNA.out (vals_one _) (by unfold maxLen; omega) (by omega) (by simp) ?_; intro v' w3 hown' hgrow hnil hat; clear hnil; rw [Nat.zero_add, List.nil_append, ← HMF.out] at hown'; obtain ⟨b2, d2, rfl⟩ := own_shapeAny hown'; have HE1 := Lib.hid (HE.out.row (grown_above (show World.grownBy _ w3 (some W0.heap.size) from hgrow) (Nat.le_refl _) (World.grownBy_alloc W0 (.cells #[] 3) none)) hown'); clear hown' hgrow hat)
  clear z0 z1 z2 z3 z4 HEM HNA HE
  rename_i K hK
  refine Draws.wp_region_tabG (w := w) rfl (by kernel_rfl) (by kernel_rfl) State.SmMaGDep (by kernel_rfl) [Law.boxG w.heap.size 29 #[.int .i64 R, .slice (some ⟨g1, 0, none⟩) n1 c1, .slice (some ⟨g2, 0, none⟩) n2 c2, .slice (some ⟨g3, 0, none⟩) n3 c3, .slice (some ⟨g4, 0, none⟩) n4 c4], Law.boxG (w.heap.size + 1) 29 #[.int .i64 0, .slice none 0 0, .slice none 0 0, .slice none 0 0, .slice none 0 0]] [14, 13] (fun j => match j with | 14 => Law.rowG 3 1 (.slice b2 k d2) (k) (Ints.vals (mf)) | _ => Law.emptyG) (State.SmMaG R g1 g2 g3 g4 n1 n2 n3 n4 c1 c2 c3 c4 k w.heap.size xs ms ts bs m m2 t t2 m t b2 d2 mf) ?start ?step ?last
  case start => exact (HE1.out.on (Mesh.gr_drew (Cell.grown_refl _))).addE
  case step =>
    clear hK
    intro L a W val G i o hI ho hL hd
    have hi : i < 16 := by have := (Array.getElem?_eq_some_iff.1 ho).1; simpa using this
    have hloc := State.SmMaG_local R g1 g2 g3 g4 n1 n2 n3 n4 c1 c2 c3 c4 k w.heap.size xs ms ts bs m m2 t t2 m t b2 d2 mf
    obtain ⟨z0, z1, z2, z3, z4⟩ := Law.box5 (hI.hd.nth 0 rfl)
    have c7 := State.readsI_cell (HR.out.m.on hI.hd.gr) HM.out.1.1
    have c8 := State.readsI_cell (HR.out.m.on hI.hd.gr) HM.out.1.2
    rcases (show i = 0 ∨ i = 1 ∨ i = 2 ∨ i = 3 ∨ i = 4 ∨ i = 5 ∨ i = 6 ∨ i = 7 ∨ i = 8 ∨ i = 9 ∨ i = 10 ∨ i = 11 ∨ i = 12 ∨ i = 13 ∨ i = 14 ∨ i = 15 by omega) with rfl | rfl | rfl | rfl | rfl | rfl | rfl | rfl | rfl | rfl | rfl | rfl | rfl | rfl | rfl | rfl
    · obtain rfl := Option.some.inj ho
      have p5 := (hI.oldAt 5 15 (by kernel_rfl) (hI.not_yet (i := 14) (j := 15) (by simp [State.SmMaGDep]) (hI.not_yet (i := 0) (j := 14) (by simp [State.SmMaGDep]) hL)) rfl).get
      refine Draws.wpOp_of (by rfl) rfl (State.wp_value (v := .slice b2 k d2) (w' := W) ?_ (hI.same hloc hL _ _ (Cell.grown_refl _) (Draws.upd_at _ _ _)))
      simp only [execOp]
      go_simp
    · obtain rfl := Option.some.inj ho
      have p2 := (hI.old 2 (by kernel_rfl) rfl).get
      refine Draws.wpOp_of (by rfl) rfl (State.wp_value (v := .pointer (some ⟨w.heap.size, 2, none⟩)) (w' := W) ?_ (hI.same hloc hL _ _ (Cell.grown_refl _) (Draws.upd_at _ _ _)))
      simp only [execOp]
      go_simp
    · obtain rfl := Option.some.inj ho
      have l1 := hd 1 (by simp [State.SmMaGDep])
      have e1 := (hI.at_ 1 14 rfl l1).get
      rw [show val 1 = _ from hI.gd 1 l1] at e1
      refine Draws.wpOp_of (by rfl) rfl (State.wp_value (v := .slice (some ⟨g2, 0, none⟩) n2 c2) (w' := W) ?_ (hI.same hloc hL _ _ (Cell.grown_refl _) (Draws.upd_at _ _ _)))
      simp only [execOp]
      go_simp
    · obtain rfl := Option.some.inj ho
      have p1 := (hI.old 1 (by kernel_rfl) rfl).get
      refine Draws.wpOp_of (by rfl) rfl (State.wp_value (v := .int .i64 (k : Int)) (w' := W) ?_ (hI.same hloc hL _ _ (Cell.grown_refl _) (Draws.upd_at _ _ _)))
      simp only [execOp]
      go_simp
    · obtain rfl := Option.some.inj ho
      have l2 := hd 2 (by simp [State.SmMaGDep])
      have e2 := (hI.at_ 2 15 rfl l2).get
      have l3 := hd 3 (by simp [State.SmMaGDep])
      have e3 := (hI.at_ 3 16 rfl l3).get
      rw [show val 2 = _ from hI.gd 2 l2] at e2
      rw [show val 3 = _ from hI.gd 3 l3] at e3
      refine Draws.wpOp_of (by rfl) rfl (State.wp_value (v := .pointer (some ⟨g2, k, none⟩)) (w' := W) ?_ (hI.same hloc hL _ _ (Cell.grown_refl _) (Draws.upd_at _ _ _)))
      simp only [execOp]
      go_simp
    · obtain rfl := Option.some.inj ho
      have l4 := hd 4 (by simp [State.SmMaGDep])
      have e4 := (hI.at_ 4 17 rfl l4).get
      rw [show val 4 = _ from hI.gd 4 l4] at e4
      refine Draws.wpOp_of (by rfl) rfl (State.wp_value (v := .int .i64 m) (w' := W) ?_ (hI.same hloc hL _ _ (Cell.grown_refl _) (Draws.upd_at _ _ _)))
      simp only [execOp]
      go_simp
    · obtain rfl := Option.some.inj ho
      have p2 := (hI.old 2 (by kernel_rfl) rfl).get
      refine Draws.wpOp_of (by rfl) rfl (State.wp_value (v := .pointer (some ⟨w.heap.size, 2, none⟩)) (w' := W) ?_ (hI.same hloc hL _ _ (Cell.grown_refl _) (Draws.upd_at _ _ _)))
      simp only [execOp]
      go_simp
    · obtain rfl := Option.some.inj ho
      have l6 := hd 6 (by simp [State.SmMaGDep])
      have e6 := (hI.at_ 6 19 rfl l6).get
      rw [show val 6 = _ from hI.gd 6 l6] at e6
      refine Draws.wpOp_of (by rfl) rfl (State.wp_value (v := .slice (some ⟨g2, 0, none⟩) n2 c2) (w' := W) ?_ (hI.same hloc hL _ _ (Cell.grown_refl _) (Draws.upd_at _ _ _)))
      simp only [execOp]
      go_simp
    · obtain rfl := Option.some.inj ho
      have p1 := (hI.old 1 (by kernel_rfl) rfl).get
      refine Draws.wpOp_of (by rfl) rfl (State.wp_value (v := .int .i64 (k : Int)) (w' := W) ?_ (hI.same hloc hL _ _ (Cell.grown_refl _) (Draws.upd_at _ _ _)))
      simp only [execOp]
      go_simp
    · obtain rfl := Option.some.inj ho
      have l8 := hd 8 (by simp [State.SmMaGDep])
      have e8 := (hI.at_ 8 21 rfl l8).get
      rw [show val 8 = _ from hI.gd 8 l8] at e8
      refine Draws.wpOp_of (by rfl) rfl (State.wp_value (v := .int .i64 ((k : Int) + 1)) (w' := W) ?_ (hI.same hloc hL _ _ (Cell.grown_refl _) (Draws.upd_at _ _ _)))
      simp only [execOp]
      go_simp
    · obtain rfl := Option.some.inj ho
      have l7 := hd 7 (by simp [State.SmMaGDep])
      have e7 := (hI.at_ 7 20 rfl l7).get
      have l9 := hd 9 (by simp [State.SmMaGDep])
      have e9 := (hI.at_ 9 22 rfl l9).get
      rw [show val 7 = _ from hI.gd 7 l7] at e7
      rw [show val 9 = _ from hI.gd 9 l9] at e9
      refine Draws.wpOp_of (by rfl) rfl (State.wp_value (v := .pointer (some ⟨g2, (k + 1), none⟩)) (w' := W) ?_ (hI.same hloc hL _ _ (Cell.grown_refl _) (Draws.upd_at _ _ _)))
      simp only [execOp]
      go_simp
    · obtain rfl := Option.some.inj ho
      have l10 := hd 10 (by simp [State.SmMaGDep])
      have e10 := (hI.at_ 10 23 rfl l10).get
      rw [show val 10 = _ from hI.gd 10 l10] at e10
      refine Draws.wpOp_of (by rfl) rfl (State.wp_value (v := .int .i64 m2) (w' := W) ?_ (hI.same hloc hL _ _ (Cell.grown_refl _) (Draws.upd_at _ _ _)))
      simp only [execOp]
      go_simp
    · obtain rfl := Option.some.inj ho
      have l5 := hd 5 (by simp [State.SmMaGDep])
      have e5 := (hI.at_ 5 18 rfl l5).get
      have l11 := hd 11 (by simp [State.SmMaGDep])
      have e11 := (hI.at_ 11 24 rfl l11).get
      rw [show val 5 = _ from hI.gd 5 l5] at e5
      rw [show val 11 = _ from hI.gd 11 l11] at e11
      refine Draws.wpOp_of (by rfl) rfl (State.wp_value (v := .int .i64 (m + m2)) (w' := W) ?_ (hI.same hloc hL _ _ (Cell.grown_refl _) (Draws.upd_at _ _ _)))
      simp only [execOp]
      go_simp
    · obtain rfl := Option.some.inj ho
      have l12 := hd 12 (by simp [State.SmMaGDep])
      have e12 := (hI.at_ 12 25 rfl l12).get
      rw [show val 12 = _ from hI.gd 12 l12] at e12
      refine Draws.wpOp_of (by rfl) rfl (State.wp_value (v := .slice (some ⟨W.heap.size, 0, none⟩) 1 1) (w' := W.alloc (.cells #[.int .i64 (m + m2)] 3)) ?_ ?_)
      · simp only [execOp]
        go_simp
      exact hI.made hloc hL _ _ (Law.rowG 3 1 (.slice (some ⟨W.heap.size, 0, none⟩) 1 1) (1) (Ints.vals ([m + m2]))) (hI.hd.fill 3 (g' := Law.rowG 3 1 (.slice (some ⟨W.heap.size, 0, none⟩) 1 1) (1) (Ints.vals ([m + m2]))) (congrArg some (hI.no 13 hL)) (World.grownBy_alloc W _ none) (State.built_one W (m + m2)) (fun b hb => by have : b = W.heap.size := (by simpa [Law.rowG, Value.ownBlock] using hb); subst this; simp)) ⟨W.heap.size, Draws.upd_at _ _ _, Draws.upd_at _ _ _⟩
    · obtain rfl := Option.some.inj ho
      have l0 := hd 0 (by simp [State.SmMaGDep])
      have e0 := (hI.at_ 0 13 rfl l0).get
      have l13 := hd 13 (by simp [State.SmMaGDep])
      have e13 := (hI.at_ 13 26 rfl l13).get
      rw [show val 0 = _ from hI.gd 0 l0] at e0
      obtain ⟨be, v13, -⟩ := hI.gd 13 l13
      rw [v13] at e13
      obtain ⟨be', v13', g13⟩ := hI.gd 13 l13
      rw [v13] at v13'
      cases v13'
      refine Draws.wpOp_of (by rfl) rfl (State.wp_append_at rfl (u := .slice b2 k d2) (Draws.eval_slot (hI.at_ 0 13 rfl l0) (hI.gd 0 l0)) (hI.hd.nth 2 (congrArg some (hI.no 14 hL))) (Draws.eval_slot (hI.at_ 13 26 rfl l13) v13) rfl (State.readsI_newsA (Ints.own_readsI (hI.hd.nth 3 (congrArg some g13)))) (by have := HN.out; omega) ?_)
      intro v' w1 hown hg hb
      rw [← Ints.vals_append2] at hown
      obtain ⟨e2, f2, rfl⟩ := State.own_shapeAny hown
      exact hI.made hloc hL _ (.slice e2 (k + 1) f2) (Law.rowG 3 1 (.slice e2 (k + 1) f2) (k + 1) (Ints.vals (mf ++ [m + m2]))) (hI.hd.appended 2 (congrArg some (hI.no 14 hL)) hown hg hb) ⟨e2, f2, Draws.upd_at _ _ _, Draws.upd_at _ _ _⟩
    · obtain rfl := Option.some.inj ho
      have l14 := hd 14 (by simp [State.SmMaGDep])
      have e14 := (hI.at_ 14 27 rfl l14).get
      obtain ⟨e2, f2, v14, -⟩ := hI.gd 14 l14
      rw [v14] at e14
      refine Draws.wpOp_of (by rfl) rfl (State.wp_value (v := .slice e2 (k + 1) f2) (w' := W) ?_ (hI.same hloc hL _ _ (Cell.grown_refl _) ⟨e2, f2, Draws.upd_at _ _ _, v14⟩))
      simp only [execOp]
      go_simp
  case last =>
    intro L a_ W val G hI hall
    have v15 := hI.gd 15 (hall 15 (by simp))
    obtain ⟨e2, f2, v15, v14⟩ := v15
    obtain ⟨e2', f2', u, r14⟩ := hI.gd 14 (hall 14 (by simp))
    rw [v14] at u
    cases u
    obtain ⟨be, -, r13⟩ := hI.gd 13 (hall 13 (by simp))
    have hH : Law.Held w W [Law.boxG w.heap.size 29 #[.int .i64 R, .slice (some ⟨g1, 0, none⟩) n1 c1, .slice (some ⟨g2, 0, none⟩) n2 c2, .slice (some ⟨g3, 0, none⟩) n3 c3, .slice (some ⟨g4, 0, none⟩) n4 c4], Law.boxG (w.heap.size + 1) 29 #[.int .i64 0, .slice none 0 0, .slice none 0 0, .slice none 0 0, .slice none 0 0], G 14, G 13] := hI.hd
    rw [r14, r13] at hH
    have HE2 := Lib.hid hH
    have ha := hI.frame (by kernel_rfl) hall
    refine hK _ _ ?_
    clear hK hI hH r14 r13 hall HE1 v14
    simp [Draws.frameOf, Draws.slotOf, Act.put, List.range, List.range.loop] at ha
    subst ha
    rw [v15]
    clear v15
    obtain ⟨p2, hp2⟩ : ∃ q, q = e2 := ⟨_, rfl⟩
    obtain ⟨h2, hh2⟩ : ∃ q, q = f2 := ⟨_, rfl⟩
    obtain ⟨be2, hbe⟩ : ∃ q, q = be := ⟨_, rfl⟩
    rw [← hp2, ← hh2, ← hbe, ← HMN.out] at HE2
    rw [← hp2, ← hh2]
    clear hp2 hh2 hbe e2 f2 be
    obtain ⟨z0, z1, z2, z3, z4⟩ := Law.box5 ((HE2.out.on (World.grownBy_alloc W (.cells #[] 3) none)).nth 0 rfl)
    have HEM := Lib.hid (State.own_emptyI W W.heap.size (Nat.le_refl _))
    have HNA := Lib.hid (State.reads_cut ((HR.out.t.on HE2.out.gr).on (World.grownBy_alloc W (.cells #[] 3) none)) k)
    go_upto_region 4 with (at_builtin; refine wpList_append_own_at _ rfl _ _ 27 rfl W.heap.size 3 i0 (.int .i64 0) 1 8 Try.underlying27 hi0 hz0 hz1 hz2 rfl (by decide) _ _ _ rfl HEM.out ⟨g3, 0, none⟩ k c3 (vals (ts.take k)) rfl HLT.out HNA.out (vals_one _) (by unfold maxLen; omega) (by omega) (by simp) ?_; intro v' w3 hown' hgrow hnil hat; clear hnil; rw [Nat.zero_add, List.nil_append, ← HTF.out] at hown'; obtain ⟨b2, d2, rfl⟩ := own_shapeAny hown'; have HE3 := Lib.hid (HE2.out.row (grown_above (show World.grownBy _ w3 (some W.heap.size) from hgrow) (Nat.le_refl _) (World.grownBy_alloc W (.cells #[] 3) none)) hown'); clear hown' hgrow hat)
    clear z0 z1 z2 z3 z4 HEM HNA HE2
    rename_i K hK
    refine Draws.wp_region_tabG (w := w) rfl (by kernel_rfl) (by kernel_rfl) State.SmTrGDep (by kernel_rfl) [Law.boxG w.heap.size 29 #[.int .i64 R, .slice (some ⟨g1, 0, none⟩) n1 c1, .slice (some ⟨g2, 0, none⟩) n2 c2, .slice (some ⟨g3, 0, none⟩) n3 c3, .slice (some ⟨g4, 0, none⟩) n4 c4], Law.boxG (w.heap.size + 1) 29 #[.int .i64 0, .slice none 0 0, .slice none 0 0, .slice none 0 0, .slice none 0 0], Law.rowG 3 1 (.slice p2 (k + 1) h2) (k + 1) (Ints.vals mn), Law.rowG 3 1 (.slice (some ⟨be2, 0, none⟩) 1 1) 1 (Ints.vals [m + m2])] [14, 13] (fun j => match j with | 14 => Law.rowG 3 1 (.slice b2 k d2) (k) (Ints.vals (tf)) | _ => Law.emptyG) (State.SmTrG R g1 g2 g3 g4 n1 n2 n3 n4 c1 c2 c3 c4 k w.heap.size xs ms ts bs m m2 t t2 m t b2 d2 tf) ?start ?step ?last
    case start => exact (HE3.out.on (Mesh.gr_drew (Cell.grown_refl _))).addE
    case step =>
      clear hK
      intro L a W val G i o hI ho hL hd
      have hi : i < 16 := by have := (Array.getElem?_eq_some_iff.1 ho).1; simpa using this
      have hloc := State.SmTrG_local R g1 g2 g3 g4 n1 n2 n3 n4 c1 c2 c3 c4 k w.heap.size xs ms ts bs m m2 t t2 m t b2 d2 tf
      obtain ⟨z0, z1, z2, z3, z4⟩ := Law.box5 (hI.hd.nth 0 rfl)
      have c7 := State.readsI_cell (HR.out.t.on hI.hd.gr) HM.out.2.1
      have c8 := State.readsI_cell (HR.out.t.on hI.hd.gr) HM.out.2.2
      rcases (show i = 0 ∨ i = 1 ∨ i = 2 ∨ i = 3 ∨ i = 4 ∨ i = 5 ∨ i = 6 ∨ i = 7 ∨ i = 8 ∨ i = 9 ∨ i = 10 ∨ i = 11 ∨ i = 12 ∨ i = 13 ∨ i = 14 ∨ i = 15 by omega) with rfl | rfl | rfl | rfl | rfl | rfl | rfl | rfl | rfl | rfl | rfl | rfl | rfl | rfl | rfl | rfl
      · obtain rfl := Option.some.inj ho
        have p6 := (hI.oldAt 6 15 (by kernel_rfl) (hI.not_yet (i := 14) (j := 15) (by simp [State.SmTrGDep]) (hI.not_yet (i := 0) (j := 14) (by simp [State.SmTrGDep]) hL)) rfl).get
        refine Draws.wpOp_of (by rfl) rfl (State.wp_value (v := .slice b2 k d2) (w' := W) ?_ (hI.same hloc hL _ _ (Cell.grown_refl _) (Draws.upd_at _ _ _)))
        simp only [execOp]
        go_simp
      · obtain rfl := Option.some.inj ho
        have p2 := (hI.old 2 (by kernel_rfl) rfl).get
        refine Draws.wpOp_of (by rfl) rfl (State.wp_value (v := .pointer (some ⟨w.heap.size, 3, none⟩)) (w' := W) ?_ (hI.same hloc hL _ _ (Cell.grown_refl _) (Draws.upd_at _ _ _)))
        simp only [execOp]
        go_simp
      · obtain rfl := Option.some.inj ho
        have l1 := hd 1 (by simp [State.SmTrGDep])
        have e1 := (hI.at_ 1 35 rfl l1).get
        rw [show val 1 = _ from hI.gd 1 l1] at e1
        refine Draws.wpOp_of (by rfl) rfl (State.wp_value (v := .slice (some ⟨g3, 0, none⟩) n3 c3) (w' := W) ?_ (hI.same hloc hL _ _ (Cell.grown_refl _) (Draws.upd_at _ _ _)))
        simp only [execOp]
        go_simp
      · obtain rfl := Option.some.inj ho
        have p1 := (hI.old 1 (by kernel_rfl) rfl).get
        refine Draws.wpOp_of (by rfl) rfl (State.wp_value (v := .int .i64 (k : Int)) (w' := W) ?_ (hI.same hloc hL _ _ (Cell.grown_refl _) (Draws.upd_at _ _ _)))
        simp only [execOp]
        go_simp
      · obtain rfl := Option.some.inj ho
        have l2 := hd 2 (by simp [State.SmTrGDep])
        have e2 := (hI.at_ 2 36 rfl l2).get
        have l3 := hd 3 (by simp [State.SmTrGDep])
        have e3 := (hI.at_ 3 37 rfl l3).get
        rw [show val 2 = _ from hI.gd 2 l2] at e2
        rw [show val 3 = _ from hI.gd 3 l3] at e3
        refine Draws.wpOp_of (by rfl) rfl (State.wp_value (v := .pointer (some ⟨g3, k, none⟩)) (w' := W) ?_ (hI.same hloc hL _ _ (Cell.grown_refl _) (Draws.upd_at _ _ _)))
        simp only [execOp]
        go_simp
      · obtain rfl := Option.some.inj ho
        have l4 := hd 4 (by simp [State.SmTrGDep])
        have e4 := (hI.at_ 4 38 rfl l4).get
        rw [show val 4 = _ from hI.gd 4 l4] at e4
        refine Draws.wpOp_of (by rfl) rfl (State.wp_value (v := .int .i64 t) (w' := W) ?_ (hI.same hloc hL _ _ (Cell.grown_refl _) (Draws.upd_at _ _ _)))
        simp only [execOp]
        go_simp
      · obtain rfl := Option.some.inj ho
        have p2 := (hI.old 2 (by kernel_rfl) rfl).get
        refine Draws.wpOp_of (by rfl) rfl (State.wp_value (v := .pointer (some ⟨w.heap.size, 3, none⟩)) (w' := W) ?_ (hI.same hloc hL _ _ (Cell.grown_refl _) (Draws.upd_at _ _ _)))
        simp only [execOp]
        go_simp
      · obtain rfl := Option.some.inj ho
        have l6 := hd 6 (by simp [State.SmTrGDep])
        have e6 := (hI.at_ 6 40 rfl l6).get
        rw [show val 6 = _ from hI.gd 6 l6] at e6
        refine Draws.wpOp_of (by rfl) rfl (State.wp_value (v := .slice (some ⟨g3, 0, none⟩) n3 c3) (w' := W) ?_ (hI.same hloc hL _ _ (Cell.grown_refl _) (Draws.upd_at _ _ _)))
        simp only [execOp]
        go_simp
      · obtain rfl := Option.some.inj ho
        have p1 := (hI.old 1 (by kernel_rfl) rfl).get
        refine Draws.wpOp_of (by rfl) rfl (State.wp_value (v := .int .i64 (k : Int)) (w' := W) ?_ (hI.same hloc hL _ _ (Cell.grown_refl _) (Draws.upd_at _ _ _)))
        simp only [execOp]
        go_simp
      · obtain rfl := Option.some.inj ho
        have l8 := hd 8 (by simp [State.SmTrGDep])
        have e8 := (hI.at_ 8 42 rfl l8).get
        rw [show val 8 = _ from hI.gd 8 l8] at e8
        refine Draws.wpOp_of (by rfl) rfl (State.wp_value (v := .int .i64 ((k : Int) + 1)) (w' := W) ?_ (hI.same hloc hL _ _ (Cell.grown_refl _) (Draws.upd_at _ _ _)))
        simp only [execOp]
        go_simp
      · obtain rfl := Option.some.inj ho
        have l7 := hd 7 (by simp [State.SmTrGDep])
        have e7 := (hI.at_ 7 41 rfl l7).get
        have l9 := hd 9 (by simp [State.SmTrGDep])
        have e9 := (hI.at_ 9 43 rfl l9).get
        rw [show val 7 = _ from hI.gd 7 l7] at e7
        rw [show val 9 = _ from hI.gd 9 l9] at e9
        refine Draws.wpOp_of (by rfl) rfl (State.wp_value (v := .pointer (some ⟨g3, (k + 1), none⟩)) (w' := W) ?_ (hI.same hloc hL _ _ (Cell.grown_refl _) (Draws.upd_at _ _ _)))
        simp only [execOp]
        go_simp
      · obtain rfl := Option.some.inj ho
        have l10 := hd 10 (by simp [State.SmTrGDep])
        have e10 := (hI.at_ 10 44 rfl l10).get
        rw [show val 10 = _ from hI.gd 10 l10] at e10
        refine Draws.wpOp_of (by rfl) rfl (State.wp_value (v := .int .i64 t2) (w' := W) ?_ (hI.same hloc hL _ _ (Cell.grown_refl _) (Draws.upd_at _ _ _)))
        simp only [execOp]
        go_simp
      · obtain rfl := Option.some.inj ho
        have l5 := hd 5 (by simp [State.SmTrGDep])
        have e5 := (hI.at_ 5 39 rfl l5).get
        have l11 := hd 11 (by simp [State.SmTrGDep])
        have e11 := (hI.at_ 11 45 rfl l11).get
        rw [show val 5 = _ from hI.gd 5 l5] at e5
        rw [show val 11 = _ from hI.gd 11 l11] at e11
        refine Draws.wpOp_of (by rfl) rfl (State.wp_value (v := .int .i64 (t + t2)) (w' := W) ?_ (hI.same hloc hL _ _ (Cell.grown_refl _) (Draws.upd_at _ _ _)))
        simp only [execOp]
        go_simp
      · obtain rfl := Option.some.inj ho
        have l12 := hd 12 (by simp [State.SmTrGDep])
        have e12 := (hI.at_ 12 46 rfl l12).get
        rw [show val 12 = _ from hI.gd 12 l12] at e12
        refine Draws.wpOp_of (by rfl) rfl (State.wp_value (v := .slice (some ⟨W.heap.size, 0, none⟩) 1 1) (w' := W.alloc (.cells #[.int .i64 (t + t2)] 3)) ?_ ?_)
        · simp only [execOp]
          go_simp
        exact hI.made hloc hL _ _ (Law.rowG 3 1 (.slice (some ⟨W.heap.size, 0, none⟩) 1 1) (1) (Ints.vals ([t + t2]))) (hI.hd.fill 5 (g' := Law.rowG 3 1 (.slice (some ⟨W.heap.size, 0, none⟩) 1 1) (1) (Ints.vals ([t + t2]))) (congrArg some (hI.no 13 hL)) (World.grownBy_alloc W _ none) (State.built_one W (t + t2)) (fun b hb => by have : b = W.heap.size := (by simpa [Law.rowG, Value.ownBlock] using hb); subst this; simp)) ⟨W.heap.size, Draws.upd_at _ _ _, Draws.upd_at _ _ _⟩
      · obtain rfl := Option.some.inj ho
        have l0 := hd 0 (by simp [State.SmTrGDep])
        have e0 := (hI.at_ 0 34 rfl l0).get
        have l13 := hd 13 (by simp [State.SmTrGDep])
        have e13 := (hI.at_ 13 47 rfl l13).get
        rw [show val 0 = _ from hI.gd 0 l0] at e0
        obtain ⟨be, v13, -⟩ := hI.gd 13 l13
        rw [v13] at e13
        obtain ⟨be', v13', g13⟩ := hI.gd 13 l13
        rw [v13] at v13'
        cases v13'
        refine Draws.wpOp_of (by rfl) rfl (State.wp_append_at rfl (u := .slice b2 k d2) (Draws.eval_slot (hI.at_ 0 34 rfl l0) (hI.gd 0 l0)) (hI.hd.nth 4 (congrArg some (hI.no 14 hL))) (Draws.eval_slot (hI.at_ 13 47 rfl l13) v13) rfl (State.readsI_newsA (Ints.own_readsI (hI.hd.nth 5 (congrArg some g13)))) (by have := HN.out; omega) ?_)
        intro v' w1 hown hg hb
        rw [← Ints.vals_append2] at hown
        obtain ⟨e2, f2, rfl⟩ := State.own_shapeAny hown
        exact hI.made hloc hL _ (.slice e2 (k + 1) f2) (Law.rowG 3 1 (.slice e2 (k + 1) f2) (k + 1) (Ints.vals (tf ++ [t + t2]))) (hI.hd.appended 4 (congrArg some (hI.no 14 hL)) hown hg hb) ⟨e2, f2, Draws.upd_at _ _ _, Draws.upd_at _ _ _⟩
      · obtain rfl := Option.some.inj ho
        have l14 := hd 14 (by simp [State.SmTrGDep])
        have e14 := (hI.at_ 14 48 rfl l14).get
        obtain ⟨e2, f2, v14, -⟩ := hI.gd 14 l14
        rw [v14] at e14
        refine Draws.wpOp_of (by rfl) rfl (State.wp_value (v := .slice e2 (k + 1) f2) (w' := W) ?_ (hI.same hloc hL _ _ (Cell.grown_refl _) ⟨e2, f2, Draws.upd_at _ _ _, v14⟩))
        simp only [execOp]
        go_simp
    case last =>
      intro L a_ W val G hI hall
      have v15 := hI.gd 15 (hall 15 (by simp))
      obtain ⟨e2, f2, v15, v14⟩ := v15
      obtain ⟨e2', f2', u, r14⟩ := hI.gd 14 (hall 14 (by simp))
      rw [v14] at u
      cases u
      obtain ⟨be, -, r13⟩ := hI.gd 13 (hall 13 (by simp))
      have hH : Law.Held w W [Law.boxG w.heap.size 29 #[.int .i64 R, .slice (some ⟨g1, 0, none⟩) n1 c1, .slice (some ⟨g2, 0, none⟩) n2 c2, .slice (some ⟨g3, 0, none⟩) n3 c3, .slice (some ⟨g4, 0, none⟩) n4 c4], Law.boxG (w.heap.size + 1) 29 #[.int .i64 0, .slice none 0 0, .slice none 0 0, .slice none 0 0, .slice none 0 0], Law.rowG 3 1 (.slice p2 (k + 1) h2) (k + 1) (Ints.vals mn), Law.rowG 3 1 (.slice (some ⟨be2, 0, none⟩) 1 1) 1 (Ints.vals [m + m2]), G 14, G 13] := hI.hd
      rw [r14, r13] at hH
      have HE4 := Lib.hid hH
      have ha := hI.frame (by kernel_rfl) hall
      refine hK _ _ ?_
      clear hK hI hH r14 r13 hall HE3 v14
      simp [Draws.frameOf, Draws.slotOf, Act.put, List.range, List.range.loop] at ha
      subst ha
      rw [v15]
      clear v15
      obtain ⟨p3, hp3⟩ : ∃ q, q = e2 := ⟨_, rfl⟩
      obtain ⟨h3, hh3⟩ : ∃ q, q = f2 := ⟨_, rfl⟩
      rw [← hp3, ← hh3, ← HTN.out] at HE4
      rw [← hp3, ← hh3]
      clear hp3 hh3 e2 f2
      have HE5 := Lib.hid (State.Held.sub (gs' := [Law.boxG w.heap.size 29 #[.int .i64 R, .slice (some ⟨g1, 0, none⟩) n1 c1, .slice (some ⟨g2, 0, none⟩) n2 c2, .slice (some ⟨g3, 0, none⟩) n3 c3, .slice (some ⟨g4, 0, none⟩) n4 c4], Law.boxG (w.heap.size + 1) 29 #[.int .i64 0, .slice none 0 0, .slice none 0 0, .slice none 0 0, .slice none 0 0], Law.rowG 3 1 (.slice p2 (k + 1) h2) (k + 1) (Ints.vals mn), Law.rowG 3 1 (.slice p3 (k + 1) h3) (k + 1) (Ints.vals tn)]) HE4.out (by exact .cons_cons _ (.cons_cons _ (.cons_cons _ (.cons _ (.cons_cons _ (.cons _ .slnil)))))))
      clear HE4
      go_upto_region 5 with fail
      rename_i K hK
      refine Draws.wp_region_tabG (w := w) rfl (by kernel_rfl) (by kernel_rfl) State.SmMkGDep (by kernel_rfl) [Law.boxG w.heap.size 29 #[.int .i64 R, .slice (some ⟨g1, 0, none⟩) n1 c1, .slice (some ⟨g2, 0, none⟩) n2 c2, .slice (some ⟨g3, 0, none⟩) n3 c3, .slice (some ⟨g4, 0, none⟩) n4 c4]] [23, 10, 17, 3, 21] (fun j => match j with | 23 => Law.boxG (w.heap.size + 1) 29 #[.int .i64 0, .slice none 0 0, .slice none 0 0, .slice none 0 0, .slice none 0 0] | 10 => Law.rowG 3 1 (.slice p2 (k + 1) h2) ((k + 1)) (Ints.vals (mn)) | 17 => Law.rowG 3 1 (.slice p3 (k + 1) h3) ((k + 1)) (Ints.vals (tn)) | _ => Law.emptyG) (State.SmMkG R g1 g2 g3 g4 n1 n2 n3 n4 c1 c2 c3 c4 k w.heap.size xs ms ts bs m m2 t t2 m t p2 p3 h2 h3 mn tn) ?start ?step ?last
      case start => exact ((HE5.out.on (Mesh.gr_drew (Cell.grown_refl _))).addE).addE
      case step =>
        clear hK
        intro L a W val G i o hI ho hL hd
        have hi : i < 24 := by have := (Array.getElem?_eq_some_iff.1 ho).1; simpa using this
        have hloc := State.SmMkG_local R g1 g2 g3 g4 n1 n2 n3 n4 c1 c2 c3 c4 k w.heap.size xs ms ts bs m m2 t t2 m t p2 p3 h2 h3 mn tn
        obtain ⟨z0, z1, z2, z3, z4⟩ := Law.box5 (hI.hd.nth 0 rfl)
        rcases (show i = 0 ∨ i = 1 ∨ i = 2 ∨ i = 3 ∨ i = 4 ∨ i = 5 ∨ i = 6 ∨ i = 7 ∨ i = 8 ∨ i = 9 ∨ i = 10 ∨ i = 11 ∨ i = 12 ∨ i = 13 ∨ i = 14 ∨ i = 15 ∨ i = 16 ∨ i = 17 ∨ i = 18 ∨ i = 19 ∨ i = 20 ∨ i = 21 ∨ i = 22 ∨ i = 23 by omega) with rfl | rfl | rfl | rfl | rfl | rfl | rfl | rfl | rfl | rfl | rfl | rfl | rfl | rfl | rfl | rfl | rfl | rfl | rfl | rfl | rfl | rfl | rfl | rfl
        · obtain rfl := Option.some.inj ho
          have p2 := (hI.old 2 (by kernel_rfl) rfl).get
          refine Draws.wpOp_of (by rfl) rfl (State.wp_value (v := .pointer (some ⟨w.heap.size, 0, none⟩)) (w' := W) ?_ (hI.same hloc hL _ _ (Cell.grown_refl _) (Draws.upd_at _ _ _)))
          simp only [execOp]
          go_simp
        · obtain rfl := Option.some.inj ho
          have l0 := hd 0 (by simp [State.SmMkGDep])
          have e0 := (hI.at_ 0 49 rfl l0).get
          rw [show val 0 = _ from hI.gd 0 l0] at e0
          refine Draws.wpOp_of (by rfl) rfl (State.wp_value (v := .agg #[.int .i64 R, .slice (some ⟨g1, 0, none⟩) n1 c1]) (w' := W) ?_ (hI.same hloc hL _ _ (Cell.grown_refl _) (Draws.upd_at _ _ _)))
          simp only [execOp]
          go_simp
        · obtain rfl := Option.some.inj ho
          have p1 := (hI.old 1 (by kernel_rfl) rfl).get
          refine Draws.wpOp_of (by rfl) rfl (State.wp_value (v := .int .i64 (k : Int)) (w' := W) ?_ (hI.same hloc hL _ _ (Cell.grown_refl _) (Draws.upd_at _ _ _)))
          simp only [execOp]
          go_simp
        · obtain rfl := Option.some.inj ho
          have l1 := hd 1 (by simp [State.SmMkGDep])
          have e1 := (hI.at_ 1 50 rfl l1).get
          have l2 := hd 2 (by simp [State.SmMkGDep])
          have e2 := (hI.at_ 2 51 rfl l2).get
          rw [show val 1 = _ from hI.gd 1 l1] at e1
          rw [show val 2 = _ from hI.gd 2 l2] at e2
          refine Draws.wpOp_of (by rfl) rfl ?_
          unfold Oper.wp
          simp only [execOp]
          go_simp
          refine Calls.mono (P := Try.prog) (HSP.out W hI.hd.gr) ?_
          rintro e w1 ⟨v, rfl, ho, hg⟩
          obtain ⟨b1, d1, rfl⟩ := State.own_shapeAny ho
          exact hI.made hloc hL _ (.agg #[.int .i64 R, .slice b1 (k + 1 + (n1 - (k + 2))) d1]) (Law.rowG 36 3 (.slice b1 (k + 1 + (n1 - (k + 2))) d1) (k + 1 + (n1 - (k + 2))) (Mesh.flatC (Mesh.merge2 xs k))) (hI.hd.fill 4 (g' := Law.rowG 36 3 (.slice b1 (k + 1 + (n1 - (k + 2))) d1) (k + 1 + (n1 - (k + 2))) (Mesh.flatC (Mesh.merge2 xs k))) (congrArg some (hI.no 3 hL)) hg (Law.own_zero ho) (fun b hb => ho.lt b (by simpa [Law.rowG] using hb))) ⟨b1, d1, Draws.upd_at _ _ _, Draws.upd_at _ _ _⟩
        · obtain rfl := Option.some.inj ho
          have p5 := (hI.old 5 (by kernel_rfl) rfl).get
          refine Draws.wpOp_of (by rfl) rfl (State.wp_value (v := .slice p2 (k + 1) h2) (w' := W) ?_ (hI.same hloc hL _ _ (Cell.grown_refl _) (Draws.upd_at _ _ _)))
          simp only [execOp]
          go_simp
        · obtain rfl := Option.some.inj ho
          have p2 := (hI.old 2 (by kernel_rfl) rfl).get
          refine Draws.wpOp_of (by rfl) rfl (State.wp_value (v := .pointer (some ⟨w.heap.size, 2, none⟩)) (w' := W) ?_ (hI.same hloc hL _ _ (Cell.grown_refl _) (Draws.upd_at _ _ _)))
          simp only [execOp]
          go_simp
        · obtain rfl := Option.some.inj ho
          have l5 := hd 5 (by simp [State.SmMkGDep])
          have e5 := (hI.at_ 5 54 rfl l5).get
          rw [show val 5 = _ from hI.gd 5 l5] at e5
          refine Draws.wpOp_of (by rfl) rfl (State.wp_value (v := .slice (some ⟨g2, 0, none⟩) n2 c2) (w' := W) ?_ (hI.same hloc hL _ _ (Cell.grown_refl _) (Draws.upd_at _ _ _)))
          simp only [execOp]
          go_simp
        · obtain rfl := Option.some.inj ho
          have p1 := (hI.old 1 (by kernel_rfl) rfl).get
          refine Draws.wpOp_of (by rfl) rfl (State.wp_value (v := .int .i64 (k : Int)) (w' := W) ?_ (hI.same hloc hL _ _ (Cell.grown_refl _) (Draws.upd_at _ _ _)))
          simp only [execOp]
          go_simp
        · obtain rfl := Option.some.inj ho
          have l7 := hd 7 (by simp [State.SmMkGDep])
          have e7 := (hI.at_ 7 56 rfl l7).get
          rw [show val 7 = _ from hI.gd 7 l7] at e7
          refine Draws.wpOp_of (by rfl) rfl (State.wp_value (v := .int .i64 ((k : Int) + 2)) (w' := W) ?_ (hI.same hloc hL _ _ (Cell.grown_refl _) (Draws.upd_at _ _ _)))
          simp only [execOp]
          go_simp
        · obtain rfl := Option.some.inj ho
          have l6 := hd 6 (by simp [State.SmMkGDep])
          have e6 := (hI.at_ 6 55 rfl l6).get
          have l8 := hd 8 (by simp [State.SmMkGDep])
          have e8 := (hI.at_ 8 57 rfl l8).get
          rw [show val 6 = _ from hI.gd 6 l6] at e6
          rw [show val 8 = _ from hI.gd 8 l8] at e8
          refine Draws.wpOp_of (by rfl) rfl (State.wp_value (v := State.cutV g2 n2 c2 (k + 2)) (w' := W) ?_ (hI.same hloc hL _ _ (Cell.grown_refl _) (Draws.upd_at _ _ _)))
          by_cases hc : c2 = k + 2
          · rw [State.cutV_full hc]
            simp only [execOp]
            have hc1 : ¬ c2 < k + 2 := by omega
            go_simp
          · rw [State.cutV_part hc]
            simp only [execOp]
            go_simp
        · obtain rfl := Option.some.inj ho
          have l4 := hd 4 (by simp [State.SmMkGDep])
          have e4 := (hI.at_ 4 53 rfl l4).get
          have l9 := hd 9 (by simp [State.SmMkGDep])
          have e9 := (hI.at_ 9 58 rfl l9).get
          rw [show val 4 = _ from hI.gd 4 l4] at e4
          rw [show val 9 = _ from hI.gd 9 l9] at e9
          obtain ⟨ad, cc, hcv, hcn⟩ := State.cutV_news (HR.out.m.on hI.hd.gr) HC.out.1
          refine Draws.wpOp_of (by rfl) rfl (State.wp_append_at rfl (u := .slice p2 (k + 1) h2) (Draws.eval_slot (hI.at_ 4 53 rfl l4) (hI.gd 4 l4)) (hI.hd.nth 2 (congrArg some (hI.no 10 hL))) ((Draws.eval_slot (hI.at_ 9 58 rfl l9) (hI.gd 9 l9)).trans hcv) HL.out.1 hcn (by have := HN.out; omega) ?_)
          intro v' w1 hown hg hb
          rw [← Ints.vals_append2] at hown
          obtain ⟨e2, f2, rfl⟩ := State.own_shapeAny hown
          exact hI.made hloc hL _ (.slice e2 ((k + 1) + (n2 - (k + 2))) f2) (Law.rowG 3 1 (.slice e2 ((k + 1) + (n2 - (k + 2))) f2) ((k + 1) + (n2 - (k + 2))) (Ints.vals (mn ++ ms.drop (k + 2)))) (hI.hd.appended 2 (congrArg some (hI.no 10 hL)) hown hg hb) ⟨e2, f2, Draws.upd_at _ _ _, Draws.upd_at _ _ _⟩
        · obtain rfl := Option.some.inj ho
          have p6 := (hI.old 6 (by kernel_rfl) rfl).get
          refine Draws.wpOp_of (by rfl) rfl (State.wp_value (v := .slice p3 (k + 1) h3) (w' := W) ?_ (hI.same hloc hL _ _ (Cell.grown_refl _) (Draws.upd_at _ _ _)))
          simp only [execOp]
          go_simp
        · obtain rfl := Option.some.inj ho
          have p2 := (hI.old 2 (by kernel_rfl) rfl).get
          refine Draws.wpOp_of (by rfl) rfl (State.wp_value (v := .pointer (some ⟨w.heap.size, 3, none⟩)) (w' := W) ?_ (hI.same hloc hL _ _ (Cell.grown_refl _) (Draws.upd_at _ _ _)))
          simp only [execOp]
          go_simp
        · obtain rfl := Option.some.inj ho
          have l12 := hd 12 (by simp [State.SmMkGDep])
          have e12 := (hI.at_ 12 61 rfl l12).get
          rw [show val 12 = _ from hI.gd 12 l12] at e12
          refine Draws.wpOp_of (by rfl) rfl (State.wp_value (v := .slice (some ⟨g3, 0, none⟩) n3 c3) (w' := W) ?_ (hI.same hloc hL _ _ (Cell.grown_refl _) (Draws.upd_at _ _ _)))
          simp only [execOp]
          go_simp
        · obtain rfl := Option.some.inj ho
          have p1 := (hI.old 1 (by kernel_rfl) rfl).get
          refine Draws.wpOp_of (by rfl) rfl (State.wp_value (v := .int .i64 (k : Int)) (w' := W) ?_ (hI.same hloc hL _ _ (Cell.grown_refl _) (Draws.upd_at _ _ _)))
          simp only [execOp]
          go_simp
        · obtain rfl := Option.some.inj ho
          have l14 := hd 14 (by simp [State.SmMkGDep])
          have e14 := (hI.at_ 14 63 rfl l14).get
          rw [show val 14 = _ from hI.gd 14 l14] at e14
          refine Draws.wpOp_of (by rfl) rfl (State.wp_value (v := .int .i64 ((k : Int) + 2)) (w' := W) ?_ (hI.same hloc hL _ _ (Cell.grown_refl _) (Draws.upd_at _ _ _)))
          simp only [execOp]
          go_simp
        · obtain rfl := Option.some.inj ho
          have l13 := hd 13 (by simp [State.SmMkGDep])
          have e13 := (hI.at_ 13 62 rfl l13).get
          have l15 := hd 15 (by simp [State.SmMkGDep])
          have e15 := (hI.at_ 15 64 rfl l15).get
          rw [show val 13 = _ from hI.gd 13 l13] at e13
          rw [show val 15 = _ from hI.gd 15 l15] at e15
          refine Draws.wpOp_of (by rfl) rfl (State.wp_value (v := State.cutV g3 n3 c3 (k + 2)) (w' := W) ?_ (hI.same hloc hL _ _ (Cell.grown_refl _) (Draws.upd_at _ _ _)))
          by_cases hc : c3 = k + 2
          · rw [State.cutV_full hc]
            simp only [execOp]
            have hc1 : ¬ c3 < k + 2 := by omega
            go_simp
          · rw [State.cutV_part hc]
            simp only [execOp]
            go_simp
        · obtain rfl := Option.some.inj ho
          have l11 := hd 11 (by simp [State.SmMkGDep])
          have e11 := (hI.at_ 11 60 rfl l11).get
          have l16 := hd 16 (by simp [State.SmMkGDep])
          have e16 := (hI.at_ 16 65 rfl l16).get
          rw [show val 11 = _ from hI.gd 11 l11] at e11
          rw [show val 16 = _ from hI.gd 16 l16] at e16
          obtain ⟨ad, cc, hcv, hcn⟩ := State.cutV_news (HR.out.t.on hI.hd.gr) HC.out.2
          refine Draws.wpOp_of (by rfl) rfl (State.wp_append_at rfl (u := .slice p3 (k + 1) h3) (Draws.eval_slot (hI.at_ 11 60 rfl l11) (hI.gd 11 l11)) (hI.hd.nth 3 (congrArg some (hI.no 17 hL))) ((Draws.eval_slot (hI.at_ 16 65 rfl l16) (hI.gd 16 l16)).trans hcv) HL.out.2 hcn (by have := HN.out; omega) ?_)
          intro v' w1 hown hg hb
          rw [← Ints.vals_append2] at hown
          obtain ⟨e3, f3, rfl⟩ := State.own_shapeAny hown
          exact hI.made hloc hL _ (.slice e3 ((k + 1) + (n3 - (k + 2))) f3) (Law.rowG 3 1 (.slice e3 ((k + 1) + (n3 - (k + 2))) f3) ((k + 1) + (n3 - (k + 2))) (Ints.vals (tn ++ ts.drop (k + 2)))) (hI.hd.appended 3 (congrArg some (hI.no 17 hL)) hown hg hb) ⟨e3, f3, Draws.upd_at _ _ _, Draws.upd_at _ _ _⟩
        · obtain rfl := Option.some.inj ho
          refine Draws.wpOp_of (by rfl) rfl (State.wp_value (v := .slice (some ⟨W.heap.size, 0, none⟩) 0 0) (w' := W.alloc (.cells #[] 3)) ?_ (hI.same hloc hL _ _ (World.grownBy_alloc W _ none) ⟨_, Draws.upd_at _ _ _⟩))
          simp only [execOp]
          go_simp
        · obtain rfl := Option.some.inj ho
          have p2 := (hI.old 2 (by kernel_rfl) rfl).get
          refine Draws.wpOp_of (by rfl) rfl (State.wp_value (v := .pointer (some ⟨w.heap.size, 4, none⟩)) (w' := W) ?_ (hI.same hloc hL _ _ (Cell.grown_refl _) (Draws.upd_at _ _ _)))
          simp only [execOp]
          go_simp
        · obtain rfl := Option.some.inj ho
          have l19 := hd 19 (by simp [State.SmMkGDep])
          have e19 := (hI.at_ 19 68 rfl l19).get
          rw [show val 19 = _ from hI.gd 19 l19] at e19
          refine Draws.wpOp_of (by rfl) rfl (State.wp_value (v := .slice (some ⟨g4, 0, none⟩) n4 c4) (w' := W) ?_ (hI.same hloc hL _ _ (Cell.grown_refl _) (Draws.upd_at _ _ _)))
          simp only [execOp]
          go_simp
        · obtain rfl := Option.some.inj ho
          have l18 := hd 18 (by simp [State.SmMkGDep])
          have e18 := (hI.at_ 18 67 rfl l18).get
          have l20 := hd 20 (by simp [State.SmMkGDep])
          have e20 := (hI.at_ 20 69 rfl l20).get
          obtain ⟨be, v18⟩ := hI.gd 18 l18
          rw [v18] at e18
          rw [show val 20 = _ from hI.gd 20 l20] at e20
          refine Draws.wpOp_of (by rfl) rfl (State.wp_append_new rfl (Draws.eval_slot (hI.at_ 18 67 rfl l18) v18) (Draws.eval_slot (hI.at_ 20 69 rfl l20) (hI.gd 20 l20)) (HR.out.b.on hI.hd.gr) HB.out ?_)
          intro v' w1 hown hg
          obtain ⟨b4, d4, rfl⟩ := State.own_shapeAny hown
          exact hI.made hloc hL _ (.slice b4 n4 d4) (Law.rowG 3 1 (.slice b4 n4 d4) (n4) (Ints.vals (bs))) (hI.hd.fill 5 (g' := Law.rowG 3 1 (.slice b4 n4 d4) (n4) (Ints.vals (bs))) (congrArg some (hI.no 21 hL)) hg (Law.own_zero hown) (fun b hb => hown.lt b (by simpa [Law.rowG] using hb))) ⟨b4, d4, Draws.upd_at _ _ _, Draws.upd_at _ _ _⟩
        · obtain rfl := Option.some.inj ho
          have l3 := hd 3 (by simp [State.SmMkGDep])
          have e3 := (hI.at_ 3 52 rfl l3).get
          have l10 := hd 10 (by simp [State.SmMkGDep])
          have e10 := (hI.at_ 10 59 rfl l10).get
          have l17 := hd 17 (by simp [State.SmMkGDep])
          have e17 := (hI.at_ 17 66 rfl l17).get
          have l21 := hd 21 (by simp [State.SmMkGDep])
          have e21 := (hI.at_ 21 70 rfl l21).get
          obtain ⟨b1, d1, v3, -⟩ := hI.gd 3 l3
          rw [v3] at e3
          obtain ⟨e2, f2, v10, -⟩ := hI.gd 10 l10
          rw [v10] at e10
          obtain ⟨e3, f3, v17, -⟩ := hI.gd 17 l17
          rw [v17] at e17
          obtain ⟨b4, d4, v21, -⟩ := hI.gd 21 l21
          rw [v21] at e21
          refine Draws.wpOp_of (by rfl) rfl (State.wp_value (v := .agg #[.int .i64 R, .slice b1 (k + 1 + (n1 - (k + 2))) d1, .slice e2 ((k + 1) + (n2 - (k + 2))) f2, .slice e3 ((k + 1) + (n3 - (k + 2))) f3, .slice b4 n4 d4]) (w' := W) ?_ (hI.same hloc hL _ _ (Cell.grown_refl _) ⟨b1, d1, e2, f2, e3, f3, b4, d4, Draws.upd_at _ _ _, v3, v10, v17, v21⟩))
          simp only [execOp]
          go_simp
        · obtain rfl := Option.some.inj ho
          have l22 := hd 22 (by simp [State.SmMkGDep])
          have e22 := (hI.at_ 22 71 rfl l22).get
          obtain ⟨b1, d1, e2, f2, e3, f3, b4, d4, v22, -⟩ := hI.gd 22 l22
          rw [v22] at e22
          have p4 := (hI.old 4 (by kernel_rfl) rfl).get
          have hz : ([Law.boxG w.heap.size 29 #[.int .i64 R, .slice (some ⟨g1, 0, none⟩) n1 c1, .slice (some ⟨g2, 0, none⟩) n2 c2, .slice (some ⟨g3, 0, none⟩) n3 c3, .slice (some ⟨g4, 0, none⟩) n4 c4]] ++ [23, 10, 17, 3, 21].map G)[1]? = some (Law.boxG (w.heap.size + 1) 29 #[.int .i64 0, .slice none 0 0, .slice none 0 0, .slice none 0 0, .slice none 0 0]) := congrArg some (hI.no 23 hL)
          obtain ⟨y0, y1, y2, y3, y4⟩ := Law.box5 (hI.hd.nth 1 hz)
          obtain ⟨f0, f1, f2_, f3_, f4⟩ := Law.free5 (hI.hd.nth 1 hz)
          refine Draws.wpOp_of (by rfl) rfl (State.wp_skip (w' := ((((W.setCell ⟨(w.heap.size + 1), 0, none⟩ (.int .i64 R)).setCell ⟨(w.heap.size + 1), 1, none⟩ (.slice b1 (k + 1 + (n1 - (k + 2))) d1)).setCell ⟨(w.heap.size + 1), 2, none⟩ (.slice e2 ((k + 1) + (n2 - (k + 2))) f2)).setCell ⟨(w.heap.size + 1), 3, none⟩ (.slice e3 ((k + 1) + (n3 - (k + 2))) f3)).setCell ⟨(w.heap.size + 1), 4, none⟩ (.slice b4 n4 d4)) ?_ ?_)
          · simp only [execOp]
            go_simp
          exact hI.made hloc hL _ undef (Law.boxG (w.heap.size + 1) 29 #[.int .i64 R, .slice b1 (k + 1 + (n1 - (k + 2))) d1, .slice e2 ((k + 1) + (n2 - (k + 2))) f2, .slice e3 ((k + 1) + (n3 - (k + 2))) f3, .slice b4 n4 d4]) (hI.hd.put5 1 hz (.int .i64 R) (.slice b1 (k + 1 + (n1 - (k + 2))) d1) (.slice e2 ((k + 1) + (n2 - (k + 2))) f2) (.slice e3 ((k + 1) + (n3 - (k + 2))) f3) (.slice b4 n4 d4)) ⟨b1, d1, e2, f2, e3, f3, b4, d4, (Draws.upd_off _ _ (by decide)).trans v22, Draws.upd_at _ _ _⟩
      case last =>
        intro L a_ W val G hI hall
        have al : ∀ i, i < 24 → L i = true := fun i hi => hall i (by simpa using hi)
        obtain ⟨b1, d1, e2, f2, e3, f3, b4, d4, v22, v3, v10, v17, v21⟩ := hI.gd 22 (al 22 (by decide))
        obtain ⟨b1', d1', e2', f2', e3', f3', b4', d4', u, r23⟩ := hI.gd 23 (al 23 (by decide))
        rw [v22] at u
        cases u
        obtain ⟨b1', d1', u, r3⟩ := hI.gd 3 (al 3 (by decide))
        rw [v3] at u
        cases u
        obtain ⟨e2', f2', u, r10⟩ := hI.gd 10 (al 10 (by decide))
        rw [v10] at u
        cases u
        obtain ⟨e3', f3', u, r17⟩ := hI.gd 17 (al 17 (by decide))
        rw [v17] at u
        cases u
        obtain ⟨b4', d4', u, r21⟩ := hI.gd 21 (al 21 (by decide))
        rw [v21] at u
        cases u
        have hH : Law.Held w W [Law.boxG w.heap.size 29 #[.int .i64 R, .slice (some ⟨g1, 0, none⟩) n1 c1, .slice (some ⟨g2, 0, none⟩) n2 c2, .slice (some ⟨g3, 0, none⟩) n3 c3, .slice (some ⟨g4, 0, none⟩) n4 c4], G 23, G 10, G 17, G 3, G 21] := hI.hd
        rw [r23, r10, r17, r3, r21] at hH
        have HE7 := Lib.hid hH
        have ha := hI.frame (by kernel_rfl) hall
        refine hK _ _ ?_
        clear hK hI hH r23 r10 r17 r3 r21 hall al HE5 v22 v3 v10 v17 v21
        simp [Draws.frameOf, Draws.slotOf, Act.put, List.range, List.range.loop] at ha
        subst ha
        go_wp2_with fail
        rw [HSM.out, HST.out]
        exact bodyPost_ret_by (results_cell_row (fn := Try.f64) rfl _ _ (w.heap.size + 1) _ _ (0, 0) _ rfl (HE7.out.nth 1 rfl) Try.underlying29 rfl (by kernel_rfl)) rfl ⟨b1, d1, e2, f2, e3, f3, b4, d4, rfl, State.Held.ownS4 HE7.out 4 2 3 5 (by decide) rfl rfl rfl rfl, HE7.out.gr⟩
end Go.Proofs.Yteeialfgamfdeaa.State
