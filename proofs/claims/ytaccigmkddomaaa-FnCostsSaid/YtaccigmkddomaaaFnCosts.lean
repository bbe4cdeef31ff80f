/- Proved: for every slice of bytes the law FnCosts returns true: for a drawn mesh, a drawn level from 0 to 4 and a drawn leaf: the program's CostOf of the uniform mesh of as many roots and that level is (roots * 2^level - 1) * 2^level; its SavedBy of the finest such mesh is 0; its SavedBy of the drawn mesh is CostOf of the finest less CostOf of the drawn one, and not negative; where the leaf may be refined, CostOf of the refined mesh is greater.
   Conditions: none besides those that the given row prints. -/
import Derived.Test.YtaccigmkddomaaaRows
import Derived.WalkKit
import Derived.ProofKit
import Derived.OpenShut
import Derived.ShutString
import Derived.Test.YtaccigmkddomaaaStCriI
import Derived.Test.YtaccigmkddomaaaMNewS
import Derived.Test.YtaccigmkddomaaaStCriL
import Derived.Test.YtaccigmkddomaaaStLaw
import Derived.ChangeOld
import Derived.Below
set_option maxRecDepth 100000
namespace Go.Proofs.Ytaccigmkddomaaa.fnCosts
open Go.ChangeShapes Go.WideShapes Go.ChangeAt Go.RowKit
open Go.ChangeMaps (open_string shut_string)
set_option linter.unusedVariables false

theorem own : ownKnob Try.prog.godebug = none := by kernel_rfl
theorem laidOut : laidOutB Try.prog = true := by kernel_rfl

def IsRow (k : IntKind) (w : World) (a : Option Addr) (len cap : Nat) (zs : List Int) : Prop :=
  (a = none ∧ len = 0 ∧ cap = 0 ∧ zs = []) ∨
  ∃ x, a = some x ∧ len ≤ cap ∧ cap ≤ maxLen ∧ zs.length = cap ∧ (∀ i, i < zs.length → w.cell? (x.add i) = some (.int k (zs.getD i 0))) ∧ ∀ n ∈ zs, (Lit.int k n).wf = true

set_option maxHeartbeats 32000000 in
theorem walk (a0 : Option Addr) (len0 cap0 : Nat) (z0 : List Int) (w : World) (w0 : IsRow .u8 w a0 len0 cap0 z0) :
    Calls Try.prog 4 #[.slice a0 len0 cap0] w fun e w' => e = .returned (.bool true) ∧ Below w.heap.size w w' := by
  have hb := Draw.bytes_of w0
  have HB := Lib.hid hb; clear hb
  clear w0
  by_cases hlen : 1048576 < len0
  · have hd : decide (1048576 < (len0 : Int)) = true := by simp; omega
    go_enter Try.func4, Try.ntmps4
    go_wp2_with fail
    refine Draw.big_any.mono ?_; rintro e w1 ⟨rfl, rfl⟩
    rw [hd]
    go_wp2_with fail
    go_ret
    exact ⟨rfl, Below.refl _ _⟩
  · have hd : decide (1048576 < (len0 : Int)) = false := by simp; omega
    have hlen' : len0 ≤ 1048576 := by omega
    have HLen := Lib.hid hlen'; clear hlen'
    go_enter Try.func4, Try.ntmps4
    go_wp2_with fail
    refine Draw.big_any.mono ?_; rintro e w1 ⟨rfl, rfl⟩
    rw [hd]
    clear hd hlen
    go_wp2_with fail
    refine (Mesh.draw_is HLen.out HB.out).mono ?_
    rintro e w1 ⟨R, xs, a1, c1, rfl, r1, r3, hm, ho, hb⟩
    have hg := Mesh.below_grown hb
    obtain ⟨-, hl1, hl2⟩ := Mesh.mesh_parts hm
    obtain ⟨n, hn⟩ : ∃ n, xs.length = n := ⟨_, rfl⟩
    rw [hn] at ho hl1 hl2 ⊢
    obtain ⟨g1, c1', hv⟩ := Mesh.own_at1 ho (by omega)
    cases hv
    have hcap := State.own_capC ho hl1
    have HE1 := Lib.hid (((Law.Held.nil w).row hg ho).box 26 #[.int .i64 R, .slice (some ⟨g1, 0, none⟩) n c1])
    have HBW := Lib.hid (HB.out.kept (fun b hb' => (hg.block b hb' (by simp))))
    have HSZ := Lib.hid hg.size
    have H1 := Lib.hid (show n ≤ 1048576 by omega)
    have HN := Lib.hid hn
    have HM := Lib.hid hm
    have hn1 : 1 ≤ (n : Int) := by omega
    have hn1' : (n : Int) ≤ 128 := by omega
    clear ho hb hg hm hn HB hl1 hl2
    go_upto_region 4 with fail
    obtain ⟨B3, hB3⟩ : ∃ B, B = w1.heap.size := ⟨_, rfl⟩
    rw [← hB3] at HE1 ⊢
    clear hB3
    have HBX := Lib.hid (HBW.out.kept (fun b hb' => (World.grownBy_alloc w1 (.cells #[.int .i64 R, .slice (some ⟨g1, 0, none⟩) n c1] 26) none).block b (by have := HSZ.out; omega) (by simp)))
    have HSX := Lib.hid (Nat.le_trans HSZ.out (World.grownBy_alloc w1 (.cells #[.int .i64 R, .slice (some ⟨g1, 0, none⟩) n c1] 26) none).size)
    clear HBW HSZ
    generalize w1.alloc (.cells #[.int .i64 R, .slice (some ⟨g1, 0, none⟩) n c1] 26) = W1 at *
    go_upto_region 5 with (go_at_call 12; ((with_reducible refine (State.places_new HLen.out HBX.out HSX.out).mono ?_); rintro e w2 ⟨gp, cp, p0, p1, p2, rfl, q0, q1, q2, hp, hlo, hg⟩; have HE2 := Lib.hid (HE1.out.add hg hp (fun b hb => by rw [List.mem_singleton.1 hb]; exact hlo)); clear hp hlo hg))
    clear HE1 HBX HSX HLen q2

    have hm0 : p0.tmod 5 = p0 % 5 := Int.tmod_eq_emod_of_nonneg q0.1
    have hm1 : IntKind.i64.wrap (p0 % 5) = p0 % 5 := IntWalk.i64_in _ (by omega)
    have l0 : 0 ≤ p0 % 5 := by omega
    have l4 : p0 % 5 ≤ 4 := by omega
    generalize p0 % 5 = lv at *
    have hk0 : p1.tmod (n : Int) = ((p1 % n : Int).toNat : Int) := by
      rw [Int.tmod_eq_emod_of_nonneg q1.1, Int.toNat_of_nonneg (Int.emod_nonneg _ (by omega))]
    have HK := Lib.hid (show (p1 % n : Int).toNat < n by have := Int.emod_lt_of_pos p1 (show (0 : Int) < n by omega); have := Int.emod_nonneg p1 (show (n : Int) ≠ 0 by omega); omega)
    have hki : (((p1 % n : Int).toNat : Nat) : Int) < n := by have := HK.out; omega
    generalize (p1 % n : Int).toNat = k at *
    have hn0 : ¬ (n : Int) = 0 := by omega
    have hn00 : ¬ n = 0 := by omega
    have hL : Mesh.newOk R lv = true := decide_eq_true ⟨⟨r1, by omega⟩, l0, l4⟩
    have h4 : Mesh.newOk R 4 = true := decide_eq_true ⟨⟨r1, by omega⟩, by omega, by omega⟩
    have hxs := HN.out

    obtain ⟨nu, hnu⟩ : ∃ z, (Mesh.newC R lv).length = z := ⟨_, rfl⟩
    obtain ⟨nf, hnf⟩ : ∃ z, (Mesh.newC R 4).length = z := ⟨_, rfl⟩
    have hnu' : nu ≤ 1048576 := by have := Mesh.newC_len (R := R) (L := lv); omega
    have hnf' : nf ≤ 1048576 := by have := Mesh.newC_len (R := R) (L := 4); omega
    have hcu := State.cost_new hL
    have hsf := State.saved_finest h4
    rw [(Mesh.new_good hL).1] at hcu
    rw [(Mesh.new_good h4).1] at hsf
    obtain ⟨CF, hCF⟩ : ∃ z, State.costG R (Mesh.newC R 4) = z := ⟨_, rfl⟩
    obtain ⟨CM, hCM⟩ : ∃ z, State.costG R xs = z := ⟨_, rfl⟩
    have cfb := State.costG_range R (Mesh.newC R 4)
    have cmb := State.costG_range R xs
    have hsm : State.savedG R xs = CF - CM := by rw [State.savedG, if_pos HM.out, (Mesh.new_good h4).1, hCF, hCM]
    have hsn := State.saved_nonneg R xs
    rw [hsm] at hsn
    rw [hCF] at cfb
    rw [hCM] at cmb
    have HNU := Lib.hid (show ∀ u, Calls Try.prog 17 #[.int .i64 R, .int .i64 lv] u (fun e w' => ∃ q d, e = .returned (.tuple #[.agg #[.int .i64 R, .slice q nu d], .bool true]) ∧ w'.ownsRow u.heap.size 35 3 (.slice q nu d) nu (Mesh.flatC (Mesh.newC R lv)) ∧ u.grownBy w' none) from fun u => (Mesh.specNew_is R lv u).mono fun e w' hh => by
      obtain ⟨v, rfl, ho, hg⟩ := hh
      obtain ⟨q, d, rfl⟩ := Mesh.own_form ho
      rw [hnu] at ho ⊢
      rw [(Mesh.new_good hL).1, hL]
      exact ⟨q, d, rfl, ho, hg⟩)
    have HNF := Lib.hid (show ∀ u, Calls Try.prog 17 #[.int .i64 R, .int .i64 4] u (fun e w' => ∃ q d, e = .returned (.tuple #[.agg #[.int .i64 R, .slice q nf d], .bool true]) ∧ w'.ownsRow u.heap.size 35 3 (.slice q nf d) nf (Mesh.flatC (Mesh.newC R 4)) ∧ u.grownBy w' none) from fun u => (Mesh.specNew_is R 4 u).mono fun e w' hh => by
      obtain ⟨v, rfl, ho, hg⟩ := hh
      obtain ⟨q, d, rfl⟩ := Mesh.own_form ho
      rw [hnf] at ho ⊢
      rw [(Mesh.new_good h4).1, h4]
      exact ⟨q, d, rfl, ho, hg⟩)
    have HCU := Lib.hid (show ∀ u q d, Mesh.Reads u q nu (Mesh.newC R lv) → Calls Try.prog 18 #[.agg #[.int .i64 R, .slice q nu d]] u fun e w' => e = .returned (.int .i64 ((R * 2 ^ lv.toNat - 1) * 2 ^ lv.toNat)) ∧ u.grownBy w' none from fun u q d h => hcu ▸ State.costOf_is R q nu d (Mesh.newC R lv) u h hnu')
    have HCF := Lib.hid (show ∀ u q d, Mesh.Reads u q nf (Mesh.newC R 4) → Calls Try.prog 18 #[.agg #[.int .i64 R, .slice q nf d]] u fun e w' => e = .returned (.int .i64 CF) ∧ u.grownBy w' none from fun u q d h => hCF ▸ State.costOf_is R q nf d (Mesh.newC R 4) u h hnf')
    have HSF := Lib.hid (show ∀ u q d, Mesh.Reads u q nf (Mesh.newC R 4) → Calls Try.prog 20 #[.agg #[.int .i64 R, .slice q nf d]] u fun e w' => e = .returned (.int .i64 0) ∧ u.grownBy w' none from fun u q d h => hsf ▸ State.savedBy_is R q nf d (Mesh.newC R 4) u h hnf')
    have HCM := Lib.hid (show ∀ u, Mesh.Reads u (some ⟨g1, 0, none⟩) n xs → Calls Try.prog 18 #[.agg #[.int .i64 R, .slice (some ⟨g1, 0, none⟩) n c1]] u fun e w' => e = .returned (.int .i64 CM) ∧ u.grownBy w' none from fun u h => hCM ▸ State.costOf_is R _ n c1 xs u h H1.out)
    have HSM := Lib.hid (show ∀ u, Mesh.Reads u (some ⟨g1, 0, none⟩) n xs → Calls Try.prog 20 #[.agg #[.int .i64 R, .slice (some ⟨g1, 0, none⟩) n c1]] u fun e w' => e = .returned (.int .i64 (CF - CM)) ∧ u.grownBy w' none from fun u h => hsm ▸ State.savedBy_is R _ n c1 xs u h H1.out)

    obtain ⟨zs, hzs⟩ : ∃ z, Mesh.refOf R xs (k : Int) = z := ⟨_, rfl⟩
    obtain ⟨nz, hnz⟩ : ∃ z, zs.length = z := ⟨_, rfl⟩
    obtain ⟨b, hb⟩ : ∃ z, Mesh.mayRef R xs (k : Int) = z := ⟨_, rfl⟩
    have hnz' : nz ≤ 1048576 := by
      rw [← hnz, ← hzs]
      exact State.ref_shortC (by omega)
    have HRF := Lib.hid (show ∀ u, Mesh.Reads u (some ⟨g1, 0, none⟩) n xs → Calls Try.prog 19 #[.agg #[.int .i64 R, .slice (some ⟨g1, 0, none⟩) n c1], .int .i64 (k : Int)] u (fun e w' => ∃ q d, e = .returned (.tuple #[.agg #[.int .i64 R, .slice q nz d], .bool b]) ∧ w'.ownsRow u.heap.size 35 3 (.slice q nz d) nz (Mesh.flatC zs) ∧ u.grownBy w' none) from fun u h => (Mesh.specRefine_is R (k : Int) g1 n c1 xs u h H1.out hcap).mono fun e w' hh => by
      have q := State.gives_tC e w' hh
      rw [hb, hzs, hnz] at q
      exact q)
    obtain ⟨CX, hCX⟩ : ∃ z, State.costG R zs = z := ⟨_, rfl⟩
    have cxb := State.costG_range R zs
    rw [hCX] at cxb
    have HCX := Lib.hid (show ∀ u q d, Mesh.Reads u q nz zs → Calls Try.prog 18 #[.agg #[.int .i64 R, .slice q nz d]] u fun e w' => e = .returned (.int .i64 CX) ∧ u.grownBy w' none from fun u q d h => hCX ▸ State.costOf_is R q nz d zs u h hnz')
    have hmore : b = true → CM < CX := fun hbt => by
      rw [hbt] at hb
      rw [← hCM, ← hCX, ← hzs]
      exact State.ref_more hb
    clear hCF hCM hsm hsf hcu hzs hnz hnz' hb hCX hnu hnu' hnf hnf' hL h4 hxs hcap HM H1
    obtain ⟨z0, z1⟩ := Law.box2 (HE2.out.nth 1 rfl)
    obtain ⟨c4', c5', c6'⟩ := HE2.out.nth 2 rfl
    go_upto_region 6 with fail
    clear hm0 hm1 q0
    go_upto_region 7 with (go_at_call 17; ((with_reducible refine (HNU.out _).mono ?_); rintro e w3 ⟨qu, du, rfl, ho, hg⟩; have HE3 := Lib.hid (HE2.out.row hg ho); clear ho hg))
    clear z0 z1 c4' c5' c6' HE2 HNU
    have he := HE3.out.box 26 #[.int .i64 R, .slice qu nu du]
    obtain ⟨B6, hB6⟩ : ∃ B, B = w3.heap.size := ⟨_, rfl⟩
    rw [← hB6] at he ⊢
    have HE4 := Lib.hid he
    clear he hB6 HE3
    generalize w3.alloc (.cells #[.int .i64 R, .slice qu nu du] 26) = W3 at *
    obtain ⟨z0, z1⟩ := Law.box2 (HE4.out.nth 1 rfl)
    go_upto_region 8 with (go_at_call 17; ((with_reducible refine (HNF.out _).mono ?_); rintro e w4 ⟨qf, df, rfl, ho, hg⟩; have HE5 := Lib.hid (HE4.out.row hg ho); clear ho hg))
    clear z0 z1 HE4 HNF
    have he := HE5.out.box 26 #[.int .i64 R, .slice qf nf df]
    obtain ⟨B8, hB8⟩ : ∃ B, B = w4.heap.size := ⟨_, rfl⟩
    rw [← hB8] at he ⊢
    have HE6 := Lib.hid he
    clear he hB8 HE5
    generalize w4.alloc (.cells #[.int .i64 R, .slice qf nf df] 26) = W4 at *
    obtain ⟨z0, z1⟩ := Law.box2 (HE6.out.nth 1 rfl)
    generalize Mesh.newC R lv = us at *
    generalize Mesh.newC R 4 = fs at *
    go_upto_region 9 with (go_at_call 18; ((with_reducible refine (HCM.out _ (Mesh.own_reads (HE6.out.nth 0 rfl))).mono ?_); rintro e w5 ⟨rfl, hg⟩; have HE7 := Lib.hid (HE6.out.on hg); clear hg))
    clear z0 z1 HE6
    rename_i KK hKK
    refine Draws.wp_region_tabG (w := w) rfl (by kernel_rfl) (by kernel_rfl) State.RefGDep (by kernel_rfl) [Law.rowG 35 3 (.slice (some ⟨g1, 0, none⟩) n c1) n (Mesh.flatC xs), Law.boxG B3 26 #[.int .i64 R, .slice (some ⟨g1, 0, none⟩) n c1], State.placesG gp p0 p1 p2, Law.rowG 35 3 (.slice qu nu du) nu (Mesh.flatC us), Law.boxG B6 26 #[.int .i64 R, .slice qu nu du], Law.rowG 35 3 (.slice qf nf df) nf (Mesh.flatC fs), Law.boxG B8 26 #[.int .i64 R, .slice qf nf df]] [8, 12] (fun _ => Law.emptyG) (State.RefG R p0 p1 p2 g1 n c1 B3 gp cp nz k b zs) ?start ?step ?last
    case start => exact (HE7.out.on (Mesh.gr_drew (Cell.grown_refl _))).addE.addE
    case step =>
      clear hKK
      intro L a W val G i o hI ho hL hd
      have hi : i < 15 := by have := (Array.getElem?_eq_some_iff.1 ho).1; simpa using this
      have hloc := State.RefG_local R p0 p1 p2 g1 n c1 B3 gp cp nz k b zs
      obtain ⟨z0, z1⟩ := Law.box2 (hI.hd.nth 1 rfl)
      obtain ⟨c4', c5', c6'⟩ := hI.hd.nth 2 rfl
      rcases (show i = 0 ∨ i = 1 ∨ i = 2 ∨ i = 3 ∨ i = 4 ∨ i = 5 ∨ i = 6 ∨ i = 7 ∨ i = 8 ∨ i = 9 ∨ i = 10 ∨ i = 11 ∨ i = 12 ∨ i = 13 ∨ i = 14 by omega) with rfl | rfl | rfl | rfl | rfl | rfl | rfl | rfl | rfl | rfl | rfl | rfl | rfl | rfl | rfl
      · obtain rfl := Option.some.inj ho
        have p3 := (hI.old 3 (by kernel_rfl) rfl).get
        refine Draws.wpOp_of (by rfl) rfl (State.wp_value (v := .agg #[.int .i64 R, .slice (some ⟨g1, 0, none⟩) n c1]) (w' := W) ?_ (hI.same hloc hL _ _ (Cell.grown_refl _) (Draws.upd_at _ _ _)))
        simp only [execOp]
        go_simp
      · obtain rfl := Option.some.inj ho
        have p4 := (hI.old 4 (by kernel_rfl) rfl).get
        refine Draws.wpOp_of (by rfl) rfl (State.wp_value (v := .slice (some ⟨gp, 0, none⟩) 12 cp) (w' := W) ?_ (hI.same hloc hL _ _ (Cell.grown_refl _) (Draws.upd_at _ _ _)))
        simp only [execOp]
        go_simp
      · obtain rfl := Option.some.inj ho
        have l1 := hd 1 (by simp [State.RefGDep])
        have e1 := (hI.at_ 1 40 rfl l1).get
        rw [show val 1 = _ from hI.gd 1 l1] at e1
        refine Draws.wpOp_of (by rfl) rfl (State.wp_value (v := .pointer (some ⟨gp, 1, none⟩)) (w' := W) ?_ (hI.same hloc hL _ _ (Cell.grown_refl _) (Draws.upd_at _ _ _)))
        simp only [execOp]
        go_simp
      · obtain rfl := Option.some.inj ho
        have l2 := hd 2 (by simp [State.RefGDep])
        have e2 := (hI.at_ 2 41 rfl l2).get
        rw [show val 2 = _ from hI.gd 2 l2] at e2
        refine Draws.wpOp_of (by rfl) rfl (State.wp_value (v := .int .i64 p1) (w' := W) ?_ (hI.same hloc hL _ _ (Cell.grown_refl _) (Draws.upd_at _ _ _)))
        simp only [execOp]
        go_simp
      · obtain rfl := Option.some.inj ho
        have p3 := (hI.old 3 (by kernel_rfl) rfl).get
        refine Draws.wpOp_of (by rfl) rfl (State.wp_value (v := .pointer (some ⟨B3, 1, none⟩)) (w' := W) ?_ (hI.same hloc hL _ _ (Cell.grown_refl _) (Draws.upd_at _ _ _)))
        simp only [execOp]
        go_simp
      · obtain rfl := Option.some.inj ho
        have l4 := hd 4 (by simp [State.RefGDep])
        have e4 := (hI.at_ 4 43 rfl l4).get
        rw [show val 4 = _ from hI.gd 4 l4] at e4
        refine Draws.wpOp_of (by rfl) rfl (State.wp_value (v := .slice (some ⟨g1, 0, none⟩) n c1) (w' := W) ?_ (hI.same hloc hL _ _ (Cell.grown_refl _) (Draws.upd_at _ _ _)))
        simp only [execOp]
        go_simp
      · obtain rfl := Option.some.inj ho
        have l5 := hd 5 (by simp [State.RefGDep])
        have e5 := (hI.at_ 5 44 rfl l5).get
        rw [show val 5 = _ from hI.gd 5 l5] at e5
        refine Draws.wpOp_of (by rfl) rfl (State.wp_value (v := .int .i64 (n : Int)) (w' := W) ?_ (hI.same hloc hL _ _ (Cell.grown_refl _) (Draws.upd_at _ _ _)))
        simp only [execOp]
        go_simp
      · obtain rfl := Option.some.inj ho
        have l3 := hd 3 (by simp [State.RefGDep])
        have e3 := (hI.at_ 3 42 rfl l3).get
        have l6 := hd 6 (by simp [State.RefGDep])
        have e6 := (hI.at_ 6 45 rfl l6).get
        rw [show val 3 = _ from hI.gd 3 l3] at e3
        rw [show val 6 = _ from hI.gd 6 l6] at e6
        refine Draws.wpOp_of (by rfl) rfl (State.wp_value (v := .int .i64 (k : Int)) (w' := W) ?_ (hI.same hloc hL _ _ (Cell.grown_refl _) (Draws.upd_at _ _ _)))
        simp only [execOp]
        go_simp
      · obtain rfl := Option.some.inj ho
        have l0 := hd 0 (by simp [State.RefGDep])
        have e0 := (hI.at_ 0 39 rfl l0).get
        have l7 := hd 7 (by simp [State.RefGDep])
        have e7 := (hI.at_ 7 46 rfl l7).get
        rw [show val 0 = _ from hI.gd 0 l0] at e0
        rw [show val 7 = _ from hI.gd 7 l7] at e7
        refine Draws.wpOp_of (by rfl) rfl ?_
        unfold Oper.wp
        simp only [execOp]
        go_simp
        refine Calls.mono (P := Try.prog) (HRF.out W (Mesh.own_reads (hI.hd.nth 0 rfl))) ?_
        rintro e w1 ⟨q, d, rfl, ho, hg⟩
        exact hI.made hloc hL _ (.tuple #[.agg #[.int .i64 R, .slice q nz d], .bool b]) (Law.rowG 35 3 (.slice q nz d) nz (Mesh.flatC zs)) (hI.hd.fill 7 (g' := Law.rowG 35 3 (.slice q nz d) nz (Mesh.flatC zs)) (congrArg some (hI.no 8 hL)) hg (Law.own_zero ho) (fun b hb => ho.lt b (by simpa [Law.rowG] using hb))) ⟨q, d, Draws.upd_at _ _ _, Draws.upd_at _ _ _⟩
      · obtain rfl := Option.some.inj ho
        have l8 := hd 8 (by simp [State.RefGDep])
        have e8 := (hI.at_ 8 47 rfl l8).get
        obtain ⟨q, d, v8, -⟩ := hI.gd 8 l8
        rw [v8] at e8
        refine Draws.wpOp_of (by rfl) rfl (State.wp_value (v := .tuple #[.agg #[.int .i64 R, .slice q nz d], .bool b]) (w' := W) ?_ (hI.same hloc hL _ _ (Cell.grown_refl _) ⟨q, d, Draws.upd_at _ _ _, v8⟩))
        simp only [execOp]
        go_simp
      · obtain rfl := Option.some.inj ho
        have l9 := hd 9 (by simp [State.RefGDep])
        have e9 := (hI.at_ 9 38 rfl l9).get
        obtain ⟨q, d, v9, -⟩ := hI.gd 9 l9
        rw [v9] at e9
        refine Draws.wpOp_of (by rfl) rfl (State.wp_value (v := .agg #[.int .i64 R, .slice q nz d]) (w' := W) ?_ (hI.same hloc hL _ _ (Cell.grown_refl _) ⟨q, d, Draws.upd_at _ _ _, v9⟩))
        simp only [execOp]
        go_simp
      · obtain rfl := Option.some.inj ho
        have l9 := hd 9 (by simp [State.RefGDep])
        have e9 := (hI.at_ 9 38 rfl l9).get
        obtain ⟨q, d, v9, -⟩ := hI.gd 9 l9
        rw [v9] at e9
        refine Draws.wpOp_of (by rfl) rfl (State.wp_value (v := .bool b) (w' := W) ?_ (hI.same hloc hL _ _ (Cell.grown_refl _) (Draws.upd_at _ _ _)))
        simp only [execOp]
        go_simp
      · obtain rfl := Option.some.inj ho
        refine Draws.wpOp_of (by rfl) rfl (State.wp_value (v := .pointer (some ⟨W.heap.size, 0, none⟩)) (w' := W.alloc (.cells #[.int .i64 0, .slice none 0 0] 26)) ?_ ?_)
        · simp only [execOp]
          go_simp
        exact hI.made hloc hL _ _ (Law.boxG W.heap.size 26 #[.int .i64 0, .slice none 0 0]) (hI.hd.fill 8 (g' := Law.boxG W.heap.size 26 #[.int .i64 0, .slice none 0 0]) (congrArg some (hI.no 12 hL)) (World.grownBy_alloc W _ none) (World.alloc_heap_new W _) (fun b hb => by have : b = W.heap.size := (by simpa [Law.boxG] using hb); subst this; simp)) ⟨W.heap.size, _, _, Draws.upd_at _ _ _, Draws.upd_at _ _ _⟩
      · obtain rfl := Option.some.inj ho
        have l12 := hd 12 (by simp [State.RefGDep])
        have e12 := (hI.at_ 12 11 rfl l12).get
        have l10 := hd 10 (by simp [State.RefGDep])
        have e10 := (hI.at_ 10 48 rfl l10).get
        obtain ⟨BX, o0, o1, v12, -⟩ := hI.gd 12 l12
        rw [v12] at e12
        obtain ⟨q, d, v10, -⟩ := hI.gd 10 l10
        rw [v10] at e10
        obtain ⟨BX', o0, o1, v12', g12⟩ := hI.gd 12 l12
        rw [v12] at v12'
        cases v12'
        obtain ⟨y0, y1⟩ := Law.box2 (hI.hd.nth 8 (congrArg some g12))
        obtain ⟨f0, f1⟩ := State.free2C (hI.hd.nth 8 (congrArg some g12))
        refine Draws.wpOp_of (by rfl) rfl (State.wp_skip (w' := (W.setCell ⟨BX, 0, none⟩ (.int .i64 R)).setCell ⟨BX, 1, none⟩ (.slice q nz d)) ?_ ?_)
        · simp only [execOp]
          go_simp
        exact hI.turned (c := 12) hloc hL _ undef (Law.boxG BX 26 #[.int .i64 R, .slice q nz d]) (State.put2C hI.hd 8 (congrArg some g12) (.int .i64 R) (.slice q nz d)) l12 (by kernel_rfl) ⟨BX, _, _, v12, Draws.upd_at _ _ _⟩ ⟨BX, q, d, v12, v10, Draws.upd_at _ _ _⟩
      · obtain rfl := Option.some.inj ho
        have l11 := hd 11 (by simp [State.RefGDep])
        have e11 := (hI.at_ 11 49 rfl l11).get
        rw [show val 11 = _ from hI.gd 11 l11] at e11
        refine Draws.wpOp_of (by rfl) rfl (State.wp_value (v := .bool b) (w' := W) ?_ (hI.same hloc hL _ _ (Cell.grown_refl _) (Draws.upd_at _ _ _)))
        simp only [execOp]
        go_simp
    case last =>
    intro L a W val G hI hall
    have al : ∀ i, i < 15 → L i = true := fun i hi => hall i (by simpa using hi)
    obtain ⟨q, d, v8, r8⟩ := hI.gd 8 (al 8 (by decide))
    obtain ⟨q', d', v9, u⟩ := hI.gd 9 (al 9 (by decide))
    rw [v8] at u
    cases u
    obtain ⟨q', d', v10, u⟩ := hI.gd 10 (al 10 (by decide))
    rw [v9] at u
    cases u
    obtain ⟨BX, q', d', v12, u, r12⟩ := hI.gd 13 (al 13 (by decide))
    rw [v10] at u
    cases u
    have v14 : val 14 = .bool b := hI.gd 14 (al 14 (by decide))
    have hH : Law.Held w W [Law.rowG 35 3 (.slice (some ⟨g1, 0, none⟩) n c1) n (Mesh.flatC xs), Law.boxG B3 26 #[.int .i64 R, .slice (some ⟨g1, 0, none⟩) n c1], State.placesG gp p0 p1 p2, Law.rowG 35 3 (.slice qu nu du) nu (Mesh.flatC us), Law.boxG B6 26 #[.int .i64 R, .slice qu nu du], Law.rowG 35 3 (.slice qf nf df) nf (Mesh.flatC fs), Law.boxG B8 26 #[.int .i64 R, .slice qf nf df], G 8, G 12] := hI.hd
    rw [r8, r12] at hH
    have HE8 := Lib.hid hH
    have ha := hI.frame (by kernel_rfl) hall
    refine hKK _ _ ?_
    clear hKK hI hH hall al r8 r12 HE7
    simp [Draws.frameOf, Draws.slotOf, Act.put, List.range, List.range.loop] at ha
    subst ha
    rw [v12, v14]
    clear v8 v9 v10 v12 v14 HRF
    clear hk0 HK hki hn0 hn00 q1
    obtain ⟨A, hA⟩ : ∃ A, A = R * 2 ^ lv.toNat := ⟨_, rfl⟩
    obtain ⟨B, hB⟩ : ∃ B, B = (A - 1) * 2 ^ lv.toNat := ⟨_, rfl⟩
    rw [← hA, ← hB] at HCU
    have HNUM := Lib.hid (show IntKind.u64.wrap lv = lv ∧ min lv.toNat 64 = lv.toNat ∧ R * 2 ^ lv.toNat = A ∧ IntKind.i64.wrap A = A ∧ IntKind.i64.wrap (A - 1) = A - 1 ∧ (A - 1) * 2 ^ lv.toNat = B ∧ IntKind.i64.wrap B = B from by
      refine ⟨?_, by omega, hA.symm, ?_, ?_, hB.symm, ?_⟩
      · rcases Cell.lvl l0 l4 with rfl | rfl | rfl | rfl | rfl <;> rfl
      all_goals
        rw [IntWalk.i64_in]
        rcases Cell.lvl l0 l4 with rfl | rfl | rfl | rfl | rfl
        all_goals
          simp at hA hB
          omega)
    have eC : IntKind.i64.wrap (CF - CM) = CF - CM := IntWalk.i64_in _ (by omega)
    have hle : CM ≤ CF := by omega
    clear hA hB
    cases b with
    | true =>
      have hlt : CM < CX := hmore rfl
      go_upto_region 10 with fail
      rename_i KK hKK
      refine Draws.wp_region_tabG (w := w) rfl (by kernel_rfl) (by kernel_rfl) State.CostTDep (by kernel_rfl) [Law.rowG 35 3 (.slice (some ⟨g1, 0, none⟩) n c1) n (Mesh.flatC xs), Law.boxG B3 26 #[.int .i64 R, .slice (some ⟨g1, 0, none⟩) n c1], State.placesG gp p0 p1 p2, Law.rowG 35 3 (.slice qu nu du) nu (Mesh.flatC us), Law.boxG B6 26 #[.int .i64 R, .slice qu nu du], Law.rowG 35 3 (.slice qf nf df) nf (Mesh.flatC fs), Law.boxG B8 26 #[.int .i64 R, .slice qf nf df], Law.rowG 35 3 (.slice q nz d) nz (Mesh.flatC zs), Law.boxG BX 26 #[.int .i64 R, .slice q nz d]] [] (fun _ => Law.emptyG) (State.CostT R lv A B CF CM CX g1 n c1 nu nf nz B3 B6 B8 BX du df d qu qf q) ?startCostT ?stepCostT ?lastCostT
      case startCostT => exact HE8.out.on (Mesh.gr_drew (Cell.grown_refl _))
      case stepCostT =>
        clear hKK
        intro L a W val G i o hI ho hL hd
        have hi : i < 42 := by have := (Array.getElem?_eq_some_iff.1 ho).1; simpa using this
        have hloc := State.CostT_local R lv A B CF CM CX g1 n c1 nu nf nz B3 B6 B8 BX du df d qu qf q
        obtain ⟨z0, z1⟩ := Law.box2 (hI.hd.nth 1 rfl)
        obtain ⟨x0, x1⟩ := Law.box2 (hI.hd.nth 4 rfl)
        obtain ⟨y0, y1⟩ := Law.box2 (hI.hd.nth 6 rfl)
        obtain ⟨t0, t1⟩ := Law.box2 (hI.hd.nth 8 rfl)
        obtain ⟨u1, u2, u3, u4, u5, u6, u7⟩ := HNUM.out
        rcases (show i = 0 ∨ i = 1 ∨ i = 2 ∨ i = 3 ∨ i = 4 ∨ i = 5 ∨ i = 6 ∨ i = 7 ∨ i = 8 ∨ i = 9 ∨ i = 10 ∨ i = 11 ∨ i = 12 ∨ i = 13 ∨ i = 14 ∨ i = 15 ∨ i = 16 ∨ i = 17 ∨ i = 18 ∨ i = 19 ∨ i = 20 ∨ i = 21 ∨ i = 22 ∨ i = 23 ∨ i = 24 ∨ i = 25 ∨ i = 26 ∨ i = 27 ∨ i = 28 ∨ i = 29 ∨ i = 30 ∨ i = 31 ∨ i = 32 ∨ i = 33 ∨ i = 34 ∨ i = 35 ∨ i = 36 ∨ i = 37 ∨ i = 38 ∨ i = 39 ∨ i = 40 ∨ i = 41 by omega) with rfl | rfl | rfl | rfl | rfl | rfl | rfl | rfl | rfl | rfl | rfl | rfl | rfl | rfl | rfl | rfl | rfl | rfl | rfl | rfl | rfl | rfl | rfl | rfl | rfl | rfl | rfl | rfl | rfl | rfl | rfl | rfl | rfl | rfl | rfl | rfl | rfl | rfl | rfl | rfl | rfl | rfl
        · obtain rfl := Option.some.inj ho
          have p6 := (hI.old 6 (by kernel_rfl) rfl).get
          refine Draws.wpOp_of (by rfl) rfl (State.wp_value (v := .agg #[.int .i64 R, .slice qu nu du]) (w' := W) ?_ (hI.same hloc hL _ _ (Cell.grown_refl _) (Draws.upd_at _ _ _)))
          simp only [execOp]
          go_simp
        · obtain rfl := Option.some.inj ho
          have l0 := hd 0 (by simp [State.CostTDep])
          have e0 := (hI.at_ 0 50 rfl l0).get
          rw [show val 0 = _ from hI.gd 0 l0] at e0
          refine Draws.wpOp_of (by rfl) rfl ?_
          unfold Oper.wp
          simp only [execOp]
          go_simp
          refine Calls.mono (P := Try.prog) (HCU.out W qu du (Mesh.own_reads (hI.hd.nth 3 rfl))) ?_
          rintro e w1 ⟨rfl, hg⟩
          exact hI.same hloc hL _ (.int .i64 B) hg (Draws.upd_at _ _ _)
        · obtain rfl := Option.some.inj ho
          have p3 := (hI.old 3 (by kernel_rfl) rfl).get
          refine Draws.wpOp_of (by rfl) rfl (State.wp_value (v := .pointer (some ⟨B3, 0, none⟩)) (w' := W) ?_ (hI.same hloc hL _ _ (Cell.grown_refl _) (Draws.upd_at _ _ _)))
          simp only [execOp]
          go_simp
        · obtain rfl := Option.some.inj ho
          have l2 := hd 2 (by simp [State.CostTDep])
          have e2 := (hI.at_ 2 52 rfl l2).get
          rw [show val 2 = _ from hI.gd 2 l2] at e2
          refine Draws.wpOp_of (by rfl) rfl (State.wp_value (v := .int .i64 R) (w' := W) ?_ (hI.same hloc hL _ _ (Cell.grown_refl _) (Draws.upd_at _ _ _)))
          simp only [execOp]
          go_simp
        · obtain rfl := Option.some.inj ho
          have p5 := (hI.old 5 (by kernel_rfl) rfl).get
          refine Draws.wpOp_of (by rfl) rfl (State.wp_value (v := .int .i64 lv) (w' := W) ?_ (hI.same hloc hL _ _ (Cell.grown_refl _) (Draws.upd_at _ _ _)))
          simp only [execOp]
          go_simp
        · obtain rfl := Option.some.inj ho
          have l4 := hd 4 (by simp [State.CostTDep])
          have e4 := (hI.at_ 4 54 rfl l4).get
          rw [show val 4 = _ from hI.gd 4 l4] at e4
          refine Draws.wpOp_of (by rfl) rfl (State.wp_value (v := .int .u64 lv) (w' := W) ?_ (hI.same hloc hL _ _ (Cell.grown_refl _) (Draws.upd_at _ _ _)))
          simp only [execOp]
          go_simp
        · obtain rfl := Option.some.inj ho
          have l3 := hd 3 (by simp [State.CostTDep])
          have e3 := (hI.at_ 3 53 rfl l3).get
          have l5 := hd 5 (by simp [State.CostTDep])
          have e5 := (hI.at_ 5 55 rfl l5).get
          rw [show val 3 = _ from hI.gd 3 l3] at e3
          rw [show val 5 = _ from hI.gd 5 l5] at e5
          refine Draws.wpOp_of (by rfl) rfl (State.wp_value (v := .int .i64 A) (w' := W) ?_ (hI.same hloc hL _ _ (Cell.grown_refl _) (Draws.upd_at _ _ _)))
          simp only [execOp]
          go_simp
        · obtain rfl := Option.some.inj ho
          have l6 := hd 6 (by simp [State.CostTDep])
          have e6 := (hI.at_ 6 56 rfl l6).get
          rw [show val 6 = _ from hI.gd 6 l6] at e6
          refine Draws.wpOp_of (by rfl) rfl (State.wp_value (v := .int .i64 (A - 1)) (w' := W) ?_ (hI.same hloc hL _ _ (Cell.grown_refl _) (Draws.upd_at _ _ _)))
          simp only [execOp]
          go_simp
        · obtain rfl := Option.some.inj ho
          have p5 := (hI.old 5 (by kernel_rfl) rfl).get
          refine Draws.wpOp_of (by rfl) rfl (State.wp_value (v := .int .i64 lv) (w' := W) ?_ (hI.same hloc hL _ _ (Cell.grown_refl _) (Draws.upd_at _ _ _)))
          simp only [execOp]
          go_simp
        · obtain rfl := Option.some.inj ho
          have l8 := hd 8 (by simp [State.CostTDep])
          have e8 := (hI.at_ 8 58 rfl l8).get
          rw [show val 8 = _ from hI.gd 8 l8] at e8
          refine Draws.wpOp_of (by rfl) rfl (State.wp_value (v := .int .u64 lv) (w' := W) ?_ (hI.same hloc hL _ _ (Cell.grown_refl _) (Draws.upd_at _ _ _)))
          simp only [execOp]
          go_simp
        · obtain rfl := Option.some.inj ho
          have l7 := hd 7 (by simp [State.CostTDep])
          have e7 := (hI.at_ 7 57 rfl l7).get
          have l9 := hd 9 (by simp [State.CostTDep])
          have e9 := (hI.at_ 9 59 rfl l9).get
          rw [show val 7 = _ from hI.gd 7 l7] at e7
          rw [show val 9 = _ from hI.gd 9 l9] at e9
          refine Draws.wpOp_of (by rfl) rfl (State.wp_value (v := .int .i64 B) (w' := W) ?_ (hI.same hloc hL _ _ (Cell.grown_refl _) (Draws.upd_at _ _ _)))
          simp only [execOp]
          go_simp
        · obtain rfl := Option.some.inj ho
          have l1 := hd 1 (by simp [State.CostTDep])
          have e1 := (hI.at_ 1 51 rfl l1).get
          have l10 := hd 10 (by simp [State.CostTDep])
          have e10 := (hI.at_ 10 60 rfl l10).get
          rw [show val 1 = _ from hI.gd 1 l1] at e1
          rw [show val 10 = _ from hI.gd 10 l10] at e10
          refine Draws.wpOp_of (by rfl) rfl (State.wp_value (v := .bool true) (w' := W) ?_ (hI.same hloc hL _ _ (Cell.grown_refl _) (Draws.upd_at _ _ _)))
          simp only [execOp]
          go_simp
        · obtain rfl := Option.some.inj ho
          have l11 := hd 11 (by simp [State.CostTDep])
          have e11 := (hI.at_ 11 61 rfl l11).get
          rw [show val 11 = _ from hI.gd 11 l11] at e11
          refine Draws.wpOp_of (by rfl) rfl (State.wp_value (v := .bool true) (w' := W) ?_ (hI.same hloc hL _ _ (Cell.grown_refl _) (Draws.upd_at _ _ _)))
          simp only [execOp]
          go_simp
        · obtain rfl := Option.some.inj ho
          have l12 := hd 12 (by simp [State.CostTDep])
          have e12 := (hI.at_ 12 62 rfl l12).get
          rw [show val 12 = _ from hI.gd 12 l12] at e12
          have ag := hI.at_ 12 62 rfl l12
          rw [show val 12 = _ from hI.gd 12 l12] at ag
          have p8 := (hI.old 8 (by kernel_rfl) rfl).get
          refine Draws.wpOp_want (by rfl) (Draws.want_at 12 62 rfl rfl ag) (State.wp_value (v := .agg #[.int .i64 R, .slice qf nf df]) (w' := W) ?_ (hI.same hloc hL _ _ (Cell.grown_refl _) (Draws.upd_at _ _ _)))
          simp only [execOp]
          go_simp
        · obtain rfl := Option.some.inj ho
          have l13 := hd 13 (by simp [State.CostTDep])
          have e13 := (hI.at_ 13 63 rfl l13).get
          have l12 := hd 12 (by simp [State.CostTDep])
          have e12 := (hI.at_ 12 62 rfl l12).get
          rw [show val 13 = _ from hI.gd 13 l13] at e13
          rw [show val 12 = _ from hI.gd 12 l12] at e12
          have ag := hI.at_ 12 62 rfl l12
          rw [show val 12 = _ from hI.gd 12 l12] at ag
          refine Draws.wpOp_want (by rfl) (Draws.want_at 12 62 rfl rfl ag) ?_
          unfold Oper.wp
          simp only [execOp]
          go_simp
          refine Calls.mono (P := Try.prog) (HSF.out W qf df (Mesh.own_reads (hI.hd.nth 5 rfl))) ?_
          rintro e w1 ⟨rfl, hg⟩
          exact hI.same hloc hL _ (.int .i64 0) hg (Draws.upd_at _ _ _)
        · obtain rfl := Option.some.inj ho
          have l14 := hd 14 (by simp [State.CostTDep])
          have e14 := (hI.at_ 14 64 rfl l14).get
          have l12 := hd 12 (by simp [State.CostTDep])
          have e12 := (hI.at_ 12 62 rfl l12).get
          rw [show val 14 = _ from hI.gd 14 l14] at e14
          rw [show val 12 = _ from hI.gd 12 l12] at e12
          have ag := hI.at_ 12 62 rfl l12
          rw [show val 12 = _ from hI.gd 12 l12] at ag
          refine Draws.wpOp_want (by rfl) (Draws.want_at 12 62 rfl rfl ag) (State.wp_value (v := .bool true) (w' := W) ?_ (hI.same hloc hL _ _ (Cell.grown_refl _) (Draws.upd_at _ _ _)))
          simp only [execOp]
          go_simp
        · obtain rfl := Option.some.inj ho
          have l12 := hd 12 (by simp [State.CostTDep])
          have e12 := (hI.at_ 12 62 rfl l12).get
          have l15 := hd 15 (by simp [State.CostTDep])
          have e15 := (hI.at_ 15 65 rfl l15).get
          rw [show val 12 = _ from hI.gd 12 l12] at e12
          rw [show val 15 = _ from hI.gd 15 l15] at e15
          refine Draws.wpOp_of (by rfl) rfl (State.wp_value (v := .bool true) (w' := W) ?_ (hI.same hloc hL _ _ (Cell.grown_refl _) (Draws.upd_at _ _ _)))
          simp only [execOp]
          go_simp
        · obtain rfl := Option.some.inj ho
          have l16 := hd 16 (by simp [State.CostTDep])
          have e16 := (hI.at_ 16 66 rfl l16).get
          rw [show val 16 = _ from hI.gd 16 l16] at e16
          refine Draws.wpOp_of (by rfl) rfl (State.wp_value (v := .bool true) (w' := W) ?_ (hI.same hloc hL _ _ (Cell.grown_refl _) (Draws.upd_at _ _ _)))
          simp only [execOp]
          go_simp
        · obtain rfl := Option.some.inj ho
          have l17 := hd 17 (by simp [State.CostTDep])
          have e17 := (hI.at_ 17 67 rfl l17).get
          rw [show val 17 = _ from hI.gd 17 l17] at e17
          have ag := hI.at_ 17 67 rfl l17
          rw [show val 17 = _ from hI.gd 17 l17] at ag
          have p3 := (hI.old 3 (by kernel_rfl) rfl).get
          refine Draws.wpOp_want (by rfl) (Draws.want_at 17 67 rfl rfl ag) (State.wp_value (v := .agg #[.int .i64 R, .slice (some ⟨g1, 0, none⟩) n c1]) (w' := W) ?_ (hI.same hloc hL _ _ (Cell.grown_refl _) (Draws.upd_at _ _ _)))
          simp only [execOp]
          go_simp
        · obtain rfl := Option.some.inj ho
          have l18 := hd 18 (by simp [State.CostTDep])
          have e18 := (hI.at_ 18 68 rfl l18).get
          have l17 := hd 17 (by simp [State.CostTDep])
          have e17 := (hI.at_ 17 67 rfl l17).get
          rw [show val 18 = _ from hI.gd 18 l18] at e18
          rw [show val 17 = _ from hI.gd 17 l17] at e17
          have ag := hI.at_ 17 67 rfl l17
          rw [show val 17 = _ from hI.gd 17 l17] at ag
          refine Draws.wpOp_want (by rfl) (Draws.want_at 17 67 rfl rfl ag) ?_
          unfold Oper.wp
          simp only [execOp]
          go_simp
          refine Calls.mono (P := Try.prog) (HSM.out W (Mesh.own_reads (hI.hd.nth 0 rfl))) ?_
          rintro e w1 ⟨rfl, hg⟩
          exact hI.same hloc hL _ (.int .i64 (CF - CM)) hg (Draws.upd_at _ _ _)
        · obtain rfl := Option.some.inj ho
          have l17 := hd 17 (by simp [State.CostTDep])
          have e17 := (hI.at_ 17 67 rfl l17).get
          rw [show val 17 = _ from hI.gd 17 l17] at e17
          have ag := hI.at_ 17 67 rfl l17
          rw [show val 17 = _ from hI.gd 17 l17] at ag
          have p8 := (hI.old 8 (by kernel_rfl) rfl).get
          refine Draws.wpOp_want (by rfl) (Draws.want_at 17 67 rfl rfl ag) (State.wp_value (v := .agg #[.int .i64 R, .slice qf nf df]) (w' := W) ?_ (hI.same hloc hL _ _ (Cell.grown_refl _) (Draws.upd_at _ _ _)))
          simp only [execOp]
          go_simp
        · obtain rfl := Option.some.inj ho
          have l20 := hd 20 (by simp [State.CostTDep])
          have e20 := (hI.at_ 20 70 rfl l20).get
          have l17 := hd 17 (by simp [State.CostTDep])
          have e17 := (hI.at_ 17 67 rfl l17).get
          rw [show val 20 = _ from hI.gd 20 l20] at e20
          rw [show val 17 = _ from hI.gd 17 l17] at e17
          have ag := hI.at_ 17 67 rfl l17
          rw [show val 17 = _ from hI.gd 17 l17] at ag
          refine Draws.wpOp_want (by rfl) (Draws.want_at 17 67 rfl rfl ag) ?_
          unfold Oper.wp
          simp only [execOp]
          go_simp
          refine Calls.mono (P := Try.prog) (HCF.out W qf df (Mesh.own_reads (hI.hd.nth 5 rfl))) ?_
          rintro e w1 ⟨rfl, hg⟩
          exact hI.same hloc hL _ (.int .i64 CF) hg (Draws.upd_at _ _ _)
        · obtain rfl := Option.some.inj ho
          have l17 := hd 17 (by simp [State.CostTDep])
          have e17 := (hI.at_ 17 67 rfl l17).get
          rw [show val 17 = _ from hI.gd 17 l17] at e17
          have ag := hI.at_ 17 67 rfl l17
          rw [show val 17 = _ from hI.gd 17 l17] at ag
          have p10 := (hI.old 10 (by kernel_rfl) rfl).get
          refine Draws.wpOp_want (by rfl) (Draws.want_at 17 67 rfl rfl ag) (State.wp_value (v := .int .i64 CM) (w' := W) ?_ (hI.same hloc hL _ _ (Cell.grown_refl _) (Draws.upd_at _ _ _)))
          simp only [execOp]
          go_simp
        · obtain rfl := Option.some.inj ho
          have l21 := hd 21 (by simp [State.CostTDep])
          have e21 := (hI.at_ 21 71 rfl l21).get
          have l22 := hd 22 (by simp [State.CostTDep])
          have e22 := (hI.at_ 22 72 rfl l22).get
          have l17 := hd 17 (by simp [State.CostTDep])
          have e17 := (hI.at_ 17 67 rfl l17).get
          rw [show val 21 = _ from hI.gd 21 l21] at e21
          rw [show val 22 = _ from hI.gd 22 l22] at e22
          rw [show val 17 = _ from hI.gd 17 l17] at e17
          have ag := hI.at_ 17 67 rfl l17
          rw [show val 17 = _ from hI.gd 17 l17] at ag
          refine Draws.wpOp_want (by rfl) (Draws.want_at 17 67 rfl rfl ag) (State.wp_value (v := .int .i64 (CF - CM)) (w' := W) ?_ (hI.same hloc hL _ _ (Cell.grown_refl _) (Draws.upd_at _ _ _)))
          simp only [execOp]
          go_simp
        · obtain rfl := Option.some.inj ho
          have l19 := hd 19 (by simp [State.CostTDep])
          have e19 := (hI.at_ 19 69 rfl l19).get
          have l23 := hd 23 (by simp [State.CostTDep])
          have e23 := (hI.at_ 23 73 rfl l23).get
          have l17 := hd 17 (by simp [State.CostTDep])
          have e17 := (hI.at_ 17 67 rfl l17).get
          rw [show val 19 = _ from hI.gd 19 l19] at e19
          rw [show val 23 = _ from hI.gd 23 l23] at e23
          rw [show val 17 = _ from hI.gd 17 l17] at e17
          have ag := hI.at_ 17 67 rfl l17
          rw [show val 17 = _ from hI.gd 17 l17] at ag
          refine Draws.wpOp_want (by rfl) (Draws.want_at 17 67 rfl rfl ag) (State.wp_value (v := .bool true) (w' := W) ?_ (hI.same hloc hL _ _ (Cell.grown_refl _) (Draws.upd_at _ _ _)))
          simp only [execOp]
          go_simp
        · obtain rfl := Option.some.inj ho
          have l17 := hd 17 (by simp [State.CostTDep])
          have e17 := (hI.at_ 17 67 rfl l17).get
          have l24 := hd 24 (by simp [State.CostTDep])
          have e24 := (hI.at_ 24 74 rfl l24).get
          rw [show val 17 = _ from hI.gd 17 l17] at e17
          rw [show val 24 = _ from hI.gd 24 l24] at e24
          refine Draws.wpOp_of (by rfl) rfl (State.wp_value (v := .bool true) (w' := W) ?_ (hI.same hloc hL _ _ (Cell.grown_refl _) (Draws.upd_at _ _ _)))
          simp only [execOp]
          go_simp
        · obtain rfl := Option.some.inj ho
          have l25 := hd 25 (by simp [State.CostTDep])
          have e25 := (hI.at_ 25 75 rfl l25).get
          rw [show val 25 = _ from hI.gd 25 l25] at e25
          refine Draws.wpOp_of (by rfl) rfl (State.wp_value (v := .bool true) (w' := W) ?_ (hI.same hloc hL _ _ (Cell.grown_refl _) (Draws.upd_at _ _ _)))
          simp only [execOp]
          go_simp
        · obtain rfl := Option.some.inj ho
          have l26 := hd 26 (by simp [State.CostTDep])
          have e26 := (hI.at_ 26 76 rfl l26).get
          rw [show val 26 = _ from hI.gd 26 l26] at e26
          have ag := hI.at_ 26 76 rfl l26
          rw [show val 26 = _ from hI.gd 26 l26] at ag
          have p3 := (hI.old 3 (by kernel_rfl) rfl).get
          refine Draws.wpOp_want (by rfl) (Draws.want_at 26 76 rfl rfl ag) (State.wp_value (v := .agg #[.int .i64 R, .slice (some ⟨g1, 0, none⟩) n c1]) (w' := W) ?_ (hI.same hloc hL _ _ (Cell.grown_refl _) (Draws.upd_at _ _ _)))
          simp only [execOp]
          go_simp
        · obtain rfl := Option.some.inj ho
          have l27 := hd 27 (by simp [State.CostTDep])
          have e27 := (hI.at_ 27 77 rfl l27).get
          have l26 := hd 26 (by simp [State.CostTDep])
          have e26 := (hI.at_ 26 76 rfl l26).get
          rw [show val 27 = _ from hI.gd 27 l27] at e27
          rw [show val 26 = _ from hI.gd 26 l26] at e26
          have ag := hI.at_ 26 76 rfl l26
          rw [show val 26 = _ from hI.gd 26 l26] at ag
          refine Draws.wpOp_want (by rfl) (Draws.want_at 26 76 rfl rfl ag) ?_
          unfold Oper.wp
          simp only [execOp]
          go_simp
          refine Calls.mono (P := Try.prog) (HSM.out W (Mesh.own_reads (hI.hd.nth 0 rfl))) ?_
          rintro e w1 ⟨rfl, hg⟩
          exact hI.same hloc hL _ (.int .i64 (CF - CM)) hg (Draws.upd_at _ _ _)
        · obtain rfl := Option.some.inj ho
          have l28 := hd 28 (by simp [State.CostTDep])
          have e28 := (hI.at_ 28 78 rfl l28).get
          have l26 := hd 26 (by simp [State.CostTDep])
          have e26 := (hI.at_ 26 76 rfl l26).get
          rw [show val 28 = _ from hI.gd 28 l28] at e28
          rw [show val 26 = _ from hI.gd 26 l26] at e26
          have ag := hI.at_ 26 76 rfl l26
          rw [show val 26 = _ from hI.gd 26 l26] at ag
          refine Draws.wpOp_want (by rfl) (Draws.want_at 26 76 rfl rfl ag) (State.wp_value (v := .bool true) (w' := W) ?_ (hI.same hloc hL _ _ (Cell.grown_refl _) (Draws.upd_at _ _ _)))
          simp only [execOp]
          go_simp
        · obtain rfl := Option.some.inj ho
          have l26 := hd 26 (by simp [State.CostTDep])
          have e26 := (hI.at_ 26 76 rfl l26).get
          have l29 := hd 29 (by simp [State.CostTDep])
          have e29 := (hI.at_ 29 79 rfl l29).get
          rw [show val 26 = _ from hI.gd 26 l26] at e26
          rw [show val 29 = _ from hI.gd 29 l29] at e29
          refine Draws.wpOp_of (by rfl) rfl (State.wp_value (v := .bool true) (w' := W) ?_ (hI.same hloc hL _ _ (Cell.grown_refl _) (Draws.upd_at _ _ _)))
          simp only [execOp]
          go_simp
        · obtain rfl := Option.some.inj ho
          have l30 := hd 30 (by simp [State.CostTDep])
          have e30 := (hI.at_ 30 80 rfl l30).get
          rw [show val 30 = _ from hI.gd 30 l30] at e30
          refine Draws.wpOp_of (by rfl) rfl (State.wp_value (v := .bool true) (w' := W) ?_ (hI.same hloc hL _ _ (Cell.grown_refl _) (Draws.upd_at _ _ _)))
          simp only [execOp]
          go_simp
        · obtain rfl := Option.some.inj ho
          have l31 := hd 31 (by simp [State.CostTDep])
          have e31 := (hI.at_ 31 81 rfl l31).get
          rw [show val 31 = _ from hI.gd 31 l31] at e31
          have ag := hI.at_ 31 81 rfl l31
          rw [show val 31 = _ from hI.gd 31 l31] at ag
          have p12 := (hI.old 12 (by kernel_rfl) rfl).get
          refine Draws.wpOp_want (by rfl) (Draws.want_at 31 81 rfl rfl ag) (State.wp_value (v := .bool true) (w' := W) ?_ (hI.same hloc hL _ _ (Cell.grown_refl _) (Draws.upd_at _ _ _)))
          simp only [execOp]
          go_simp
        · obtain rfl := Option.some.inj ho
          have l32 := hd 32 (by simp [State.CostTDep])
          have e32 := (hI.at_ 32 82 rfl l32).get
          have l31 := hd 31 (by simp [State.CostTDep])
          have e31 := (hI.at_ 31 81 rfl l31).get
          rw [show val 32 = _ from hI.gd 32 l32] at e32
          rw [show val 31 = _ from hI.gd 31 l31] at e31
          have ag := hI.at_ 31 81 rfl l31
          rw [show val 31 = _ from hI.gd 31 l31] at ag
          refine Draws.wpOp_want (by rfl) (Draws.want_at 31 81 rfl rfl ag) (State.wp_value (v := .bool false) (w' := W) ?_ (hI.same hloc hL _ _ (Cell.grown_refl _) (Draws.upd_at _ _ _)))
          simp only [execOp]
          go_simp
        · obtain rfl := Option.some.inj ho
          have l33 := hd 33 (by simp [State.CostTDep])
          have e33 := (hI.at_ 33 83 rfl l33).get
          have l31 := hd 31 (by simp [State.CostTDep])
          have e31 := (hI.at_ 31 81 rfl l31).get
          rw [show val 33 = _ from hI.gd 33 l33] at e33
          rw [show val 31 = _ from hI.gd 31 l31] at e31
          have ag := hI.at_ 31 81 rfl l31
          rw [show val 31 = _ from hI.gd 31 l31] at ag
          refine Draws.wpOp_want (by rfl) (Draws.want_at 31 81 rfl rfl ag) (State.wp_value (v := .bool false) (w' := W) ?_ (hI.same hloc hL _ _ (Cell.grown_refl _) (Draws.upd_at _ _ _)))
          simp only [execOp]
          go_simp
        · obtain rfl := Option.some.inj ho
          have l34 := hd 34 (by simp [State.CostTDep])
          have e34 := (hI.at_ 34 84 rfl l34).get
          rw [show val 34 = _ from hI.gd 34 l34] at e34
          have ag := hI.at_ 34 84 rfl l34
          rw [show val 34 = _ from hI.gd 34 l34] at ag
          have p11 := (hI.old 11 (by kernel_rfl) rfl).get
          refine Draws.wpOp_want (by rfl) (Draws.want_at 34 84 rfl rfl ag) (State.wp_value (v := .agg #[.int .i64 R, .slice q nz d]) (w' := W) ?_ (hI.same hloc hL _ _ (Cell.grown_refl _) (Draws.upd_at _ _ _)))
          simp only [execOp]
          go_simp
        · obtain rfl := Option.some.inj ho
          have l35 := hd 35 (by simp [State.CostTDep])
          have e35 := (hI.at_ 35 85 rfl l35).get
          have l34 := hd 34 (by simp [State.CostTDep])
          have e34 := (hI.at_ 34 84 rfl l34).get
          rw [show val 35 = _ from hI.gd 35 l35] at e35
          rw [show val 34 = _ from hI.gd 34 l34] at e34
          have ag := hI.at_ 34 84 rfl l34
          rw [show val 34 = _ from hI.gd 34 l34] at ag
          refine Draws.wpOp_want (by rfl) (Draws.want_at 34 84 rfl rfl ag) ?_
          unfold Oper.wp
          simp only [execOp]
          go_simp
          refine Calls.mono (P := Try.prog) (HCX.out W q d (Mesh.own_reads (hI.hd.nth 7 rfl))) ?_
          rintro e w1 ⟨rfl, hg⟩
          exact hI.same hloc hL _ (.int .i64 CX) hg (Draws.upd_at _ _ _)
        · obtain rfl := Option.some.inj ho
          have l34 := hd 34 (by simp [State.CostTDep])
          have e34 := (hI.at_ 34 84 rfl l34).get
          rw [show val 34 = _ from hI.gd 34 l34] at e34
          have ag := hI.at_ 34 84 rfl l34
          rw [show val 34 = _ from hI.gd 34 l34] at ag
          have p10 := (hI.old 10 (by kernel_rfl) rfl).get
          refine Draws.wpOp_want (by rfl) (Draws.want_at 34 84 rfl rfl ag) (State.wp_value (v := .int .i64 CM) (w' := W) ?_ (hI.same hloc hL _ _ (Cell.grown_refl _) (Draws.upd_at _ _ _)))
          simp only [execOp]
          go_simp
        · obtain rfl := Option.some.inj ho
          have l36 := hd 36 (by simp [State.CostTDep])
          have e36 := (hI.at_ 36 86 rfl l36).get
          have l37 := hd 37 (by simp [State.CostTDep])
          have e37 := (hI.at_ 37 87 rfl l37).get
          have l34 := hd 34 (by simp [State.CostTDep])
          have e34 := (hI.at_ 34 84 rfl l34).get
          rw [show val 36 = _ from hI.gd 36 l36] at e36
          rw [show val 37 = _ from hI.gd 37 l37] at e37
          rw [show val 34 = _ from hI.gd 34 l34] at e34
          have ag := hI.at_ 34 84 rfl l34
          rw [show val 34 = _ from hI.gd 34 l34] at ag
          refine Draws.wpOp_want (by rfl) (Draws.want_at 34 84 rfl rfl ag) (State.wp_value (v := .bool true) (w' := W) ?_ (hI.same hloc hL _ _ (Cell.grown_refl _) (Draws.upd_at _ _ _)))
          simp only [execOp]
          go_simp
        · obtain rfl := Option.some.inj ho
          have l34 := hd 34 (by simp [State.CostTDep])
          have e34 := (hI.at_ 34 84 rfl l34).get
          have l38 := hd 38 (by simp [State.CostTDep])
          have e38 := (hI.at_ 38 88 rfl l38).get
          have l31 := hd 31 (by simp [State.CostTDep])
          have e31 := (hI.at_ 31 81 rfl l31).get
          rw [show val 34 = _ from hI.gd 34 l34] at e34
          rw [show val 38 = _ from hI.gd 38 l38] at e38
          rw [show val 31 = _ from hI.gd 31 l31] at e31
          have ag := hI.at_ 31 81 rfl l31
          rw [show val 31 = _ from hI.gd 31 l31] at ag
          refine Draws.wpOp_want (by rfl) (Draws.want_at 31 81 rfl rfl ag) (State.wp_value (v := .bool true) (w' := W) ?_ (hI.same hloc hL _ _ (Cell.grown_refl _) (Draws.upd_at _ _ _)))
          simp only [execOp]
          go_simp
        · obtain rfl := Option.some.inj ho
          have l31 := hd 31 (by simp [State.CostTDep])
          have e31 := (hI.at_ 31 81 rfl l31).get
          have l39 := hd 39 (by simp [State.CostTDep])
          have e39 := (hI.at_ 39 89 rfl l39).get
          rw [show val 31 = _ from hI.gd 31 l31] at e31
          rw [show val 39 = _ from hI.gd 39 l39] at e39
          refine Draws.wpOp_of (by rfl) rfl (State.wp_value (v := .bool true) (w' := W) ?_ (hI.same hloc hL _ _ (Cell.grown_refl _) (Draws.upd_at _ _ _)))
          simp only [execOp]
          go_simp
        · obtain rfl := Option.some.inj ho
          have l40 := hd 40 (by simp [State.CostTDep])
          have e40 := (hI.at_ 40 90 rfl l40).get
          rw [show val 40 = _ from hI.gd 40 l40] at e40
          refine Draws.wpOp_of (by rfl) rfl (State.wp_value (v := .bool true) (w' := W) ?_ (hI.same hloc hL _ _ (Cell.grown_refl _) (Draws.upd_at _ _ _)))
          simp only [execOp]
          go_simp
      case lastCostT =>
        intro L a W val G hI hall
        have v41 : val 41 = .bool true := hI.gd 41 (hall 41 (by simp))
        have hgr : w.grownBy W none := hI.hd.gr
        have ha := hI.frame (by kernel_rfl) hall
        refine hKK _ _ ?_
        clear hKK hI hall
        simp [Draws.frameOf, Draws.slotOf, Act.put, List.range, List.range.loop] at ha
        subst ha
        rw [v41]
        clear v41
        go_wp2_with fail
        go_ret
        exact ⟨rfl, Cell.grown_below hgr (Nat.le_refl _)⟩
    | false =>
      go_upto_region 10 with fail
      rename_i KK hKK
      refine Draws.wp_region_tabG (w := w) rfl (by kernel_rfl) (by kernel_rfl) State.CostFDep (by kernel_rfl) [Law.rowG 35 3 (.slice (some ⟨g1, 0, none⟩) n c1) n (Mesh.flatC xs), Law.boxG B3 26 #[.int .i64 R, .slice (some ⟨g1, 0, none⟩) n c1], State.placesG gp p0 p1 p2, Law.rowG 35 3 (.slice qu nu du) nu (Mesh.flatC us), Law.boxG B6 26 #[.int .i64 R, .slice qu nu du], Law.rowG 35 3 (.slice qf nf df) nf (Mesh.flatC fs), Law.boxG B8 26 #[.int .i64 R, .slice qf nf df], Law.rowG 35 3 (.slice q nz d) nz (Mesh.flatC zs), Law.boxG BX 26 #[.int .i64 R, .slice q nz d]] [] (fun _ => Law.emptyG) (State.CostF R lv A B CF CM CX g1 n c1 nu nf nz B3 B6 B8 BX du df d qu qf q) ?startCostF ?stepCostF ?lastCostF
      case startCostF => exact HE8.out.on (Mesh.gr_drew (Cell.grown_refl _))
      case stepCostF =>
        clear hKK
        intro L a W val G i o hI ho hL hd
        have hi : i < 42 := by have := (Array.getElem?_eq_some_iff.1 ho).1; simpa using this
        have hloc := State.CostF_local R lv A B CF CM CX g1 n c1 nu nf nz B3 B6 B8 BX du df d qu qf q
        obtain ⟨z0, z1⟩ := Law.box2 (hI.hd.nth 1 rfl)
        obtain ⟨x0, x1⟩ := Law.box2 (hI.hd.nth 4 rfl)
        obtain ⟨y0, y1⟩ := Law.box2 (hI.hd.nth 6 rfl)
        obtain ⟨t0, t1⟩ := Law.box2 (hI.hd.nth 8 rfl)
        obtain ⟨u1, u2, u3, u4, u5, u6, u7⟩ := HNUM.out
        rcases (show i = 0 ∨ i = 1 ∨ i = 2 ∨ i = 3 ∨ i = 4 ∨ i = 5 ∨ i = 6 ∨ i = 7 ∨ i = 8 ∨ i = 9 ∨ i = 10 ∨ i = 11 ∨ i = 12 ∨ i = 13 ∨ i = 14 ∨ i = 15 ∨ i = 16 ∨ i = 17 ∨ i = 18 ∨ i = 19 ∨ i = 20 ∨ i = 21 ∨ i = 22 ∨ i = 23 ∨ i = 24 ∨ i = 25 ∨ i = 26 ∨ i = 27 ∨ i = 28 ∨ i = 29 ∨ i = 30 ∨ i = 31 ∨ i = 32 ∨ i = 33 ∨ i = 34 ∨ i = 35 ∨ i = 36 ∨ i = 37 ∨ i = 38 ∨ i = 39 ∨ i = 40 ∨ i = 41 by omega) with rfl | rfl | rfl | rfl | rfl | rfl | rfl | rfl | rfl | rfl | rfl | rfl | rfl | rfl | rfl | rfl | rfl | rfl | rfl | rfl | rfl | rfl | rfl | rfl | rfl | rfl | rfl | rfl | rfl | rfl | rfl | rfl | rfl | rfl | rfl | rfl | rfl | rfl | rfl | rfl | rfl | rfl
        · obtain rfl := Option.some.inj ho
          have p6 := (hI.old 6 (by kernel_rfl) rfl).get
          refine Draws.wpOp_of (by rfl) rfl (State.wp_value (v := .agg #[.int .i64 R, .slice qu nu du]) (w' := W) ?_ (hI.same hloc hL _ _ (Cell.grown_refl _) (Draws.upd_at _ _ _)))
          simp only [execOp]
          go_simp
        · obtain rfl := Option.some.inj ho
          have l0 := hd 0 (by simp [State.CostFDep])
          have e0 := (hI.at_ 0 50 rfl l0).get
          rw [show val 0 = _ from hI.gd 0 l0] at e0
          refine Draws.wpOp_of (by rfl) rfl ?_
          unfold Oper.wp
          simp only [execOp]
          go_simp
          refine Calls.mono (P := Try.prog) (HCU.out W qu du (Mesh.own_reads (hI.hd.nth 3 rfl))) ?_
          rintro e w1 ⟨rfl, hg⟩
          exact hI.same hloc hL _ (.int .i64 B) hg (Draws.upd_at _ _ _)
        · obtain rfl := Option.some.inj ho
          have p3 := (hI.old 3 (by kernel_rfl) rfl).get
          refine Draws.wpOp_of (by rfl) rfl (State.wp_value (v := .pointer (some ⟨B3, 0, none⟩)) (w' := W) ?_ (hI.same hloc hL _ _ (Cell.grown_refl _) (Draws.upd_at _ _ _)))
          simp only [execOp]
          go_simp
        · obtain rfl := Option.some.inj ho
          have l2 := hd 2 (by simp [State.CostFDep])
          have e2 := (hI.at_ 2 52 rfl l2).get
          rw [show val 2 = _ from hI.gd 2 l2] at e2
          refine Draws.wpOp_of (by rfl) rfl (State.wp_value (v := .int .i64 R) (w' := W) ?_ (hI.same hloc hL _ _ (Cell.grown_refl _) (Draws.upd_at _ _ _)))
          simp only [execOp]
          go_simp
        · obtain rfl := Option.some.inj ho
          have p5 := (hI.old 5 (by kernel_rfl) rfl).get
          refine Draws.wpOp_of (by rfl) rfl (State.wp_value (v := .int .i64 lv) (w' := W) ?_ (hI.same hloc hL _ _ (Cell.grown_refl _) (Draws.upd_at _ _ _)))
          simp only [execOp]
          go_simp
        · obtain rfl := Option.some.inj ho
          have l4 := hd 4 (by simp [State.CostFDep])
          have e4 := (hI.at_ 4 54 rfl l4).get
          rw [show val 4 = _ from hI.gd 4 l4] at e4
          refine Draws.wpOp_of (by rfl) rfl (State.wp_value (v := .int .u64 lv) (w' := W) ?_ (hI.same hloc hL _ _ (Cell.grown_refl _) (Draws.upd_at _ _ _)))
          simp only [execOp]
          go_simp
        · obtain rfl := Option.some.inj ho
          have l3 := hd 3 (by simp [State.CostFDep])
          have e3 := (hI.at_ 3 53 rfl l3).get
          have l5 := hd 5 (by simp [State.CostFDep])
          have e5 := (hI.at_ 5 55 rfl l5).get
          rw [show val 3 = _ from hI.gd 3 l3] at e3
          rw [show val 5 = _ from hI.gd 5 l5] at e5
          refine Draws.wpOp_of (by rfl) rfl (State.wp_value (v := .int .i64 A) (w' := W) ?_ (hI.same hloc hL _ _ (Cell.grown_refl _) (Draws.upd_at _ _ _)))
          simp only [execOp]
          go_simp
        · obtain rfl := Option.some.inj ho
          have l6 := hd 6 (by simp [State.CostFDep])
          have e6 := (hI.at_ 6 56 rfl l6).get
          rw [show val 6 = _ from hI.gd 6 l6] at e6
          refine Draws.wpOp_of (by rfl) rfl (State.wp_value (v := .int .i64 (A - 1)) (w' := W) ?_ (hI.same hloc hL _ _ (Cell.grown_refl _) (Draws.upd_at _ _ _)))
          simp only [execOp]
          go_simp
        · obtain rfl := Option.some.inj ho
          have p5 := (hI.old 5 (by kernel_rfl) rfl).get
          refine Draws.wpOp_of (by rfl) rfl (State.wp_value (v := .int .i64 lv) (w' := W) ?_ (hI.same hloc hL _ _ (Cell.grown_refl _) (Draws.upd_at _ _ _)))
          simp only [execOp]
          go_simp
        · obtain rfl := Option.some.inj ho
          have l8 := hd 8 (by simp [State.CostFDep])
          have e8 := (hI.at_ 8 58 rfl l8).get
          rw [show val 8 = _ from hI.gd 8 l8] at e8
          refine Draws.wpOp_of (by rfl) rfl (State.wp_value (v := .int .u64 lv) (w' := W) ?_ (hI.same hloc hL _ _ (Cell.grown_refl _) (Draws.upd_at _ _ _)))
          simp only [execOp]
          go_simp
        · obtain rfl := Option.some.inj ho
          have l7 := hd 7 (by simp [State.CostFDep])
          have e7 := (hI.at_ 7 57 rfl l7).get
          have l9 := hd 9 (by simp [State.CostFDep])
          have e9 := (hI.at_ 9 59 rfl l9).get
          rw [show val 7 = _ from hI.gd 7 l7] at e7
          rw [show val 9 = _ from hI.gd 9 l9] at e9
          refine Draws.wpOp_of (by rfl) rfl (State.wp_value (v := .int .i64 B) (w' := W) ?_ (hI.same hloc hL _ _ (Cell.grown_refl _) (Draws.upd_at _ _ _)))
          simp only [execOp]
          go_simp
        · obtain rfl := Option.some.inj ho
          have l1 := hd 1 (by simp [State.CostFDep])
          have e1 := (hI.at_ 1 51 rfl l1).get
          have l10 := hd 10 (by simp [State.CostFDep])
          have e10 := (hI.at_ 10 60 rfl l10).get
          rw [show val 1 = _ from hI.gd 1 l1] at e1
          rw [show val 10 = _ from hI.gd 10 l10] at e10
          refine Draws.wpOp_of (by rfl) rfl (State.wp_value (v := .bool true) (w' := W) ?_ (hI.same hloc hL _ _ (Cell.grown_refl _) (Draws.upd_at _ _ _)))
          simp only [execOp]
          go_simp
        · obtain rfl := Option.some.inj ho
          have l11 := hd 11 (by simp [State.CostFDep])
          have e11 := (hI.at_ 11 61 rfl l11).get
          rw [show val 11 = _ from hI.gd 11 l11] at e11
          refine Draws.wpOp_of (by rfl) rfl (State.wp_value (v := .bool true) (w' := W) ?_ (hI.same hloc hL _ _ (Cell.grown_refl _) (Draws.upd_at _ _ _)))
          simp only [execOp]
          go_simp
        · obtain rfl := Option.some.inj ho
          have l12 := hd 12 (by simp [State.CostFDep])
          have e12 := (hI.at_ 12 62 rfl l12).get
          rw [show val 12 = _ from hI.gd 12 l12] at e12
          have ag := hI.at_ 12 62 rfl l12
          rw [show val 12 = _ from hI.gd 12 l12] at ag
          have p8 := (hI.old 8 (by kernel_rfl) rfl).get
          refine Draws.wpOp_want (by rfl) (Draws.want_at 12 62 rfl rfl ag) (State.wp_value (v := .agg #[.int .i64 R, .slice qf nf df]) (w' := W) ?_ (hI.same hloc hL _ _ (Cell.grown_refl _) (Draws.upd_at _ _ _)))
          simp only [execOp]
          go_simp
        · obtain rfl := Option.some.inj ho
          have l13 := hd 13 (by simp [State.CostFDep])
          have e13 := (hI.at_ 13 63 rfl l13).get
          have l12 := hd 12 (by simp [State.CostFDep])
          have e12 := (hI.at_ 12 62 rfl l12).get
          rw [show val 13 = _ from hI.gd 13 l13] at e13
          rw [show val 12 = _ from hI.gd 12 l12] at e12
          have ag := hI.at_ 12 62 rfl l12
          rw [show val 12 = _ from hI.gd 12 l12] at ag
          refine Draws.wpOp_want (by rfl) (Draws.want_at 12 62 rfl rfl ag) ?_
          unfold Oper.wp
          simp only [execOp]
          go_simp
          refine Calls.mono (P := Try.prog) (HSF.out W qf df (Mesh.own_reads (hI.hd.nth 5 rfl))) ?_
          rintro e w1 ⟨rfl, hg⟩
          exact hI.same hloc hL _ (.int .i64 0) hg (Draws.upd_at _ _ _)
        · obtain rfl := Option.some.inj ho
          have l14 := hd 14 (by simp [State.CostFDep])
          have e14 := (hI.at_ 14 64 rfl l14).get
          have l12 := hd 12 (by simp [State.CostFDep])
          have e12 := (hI.at_ 12 62 rfl l12).get
          rw [show val 14 = _ from hI.gd 14 l14] at e14
          rw [show val 12 = _ from hI.gd 12 l12] at e12
          have ag := hI.at_ 12 62 rfl l12
          rw [show val 12 = _ from hI.gd 12 l12] at ag
          refine Draws.wpOp_want (by rfl) (Draws.want_at 12 62 rfl rfl ag) (State.wp_value (v := .bool true) (w' := W) ?_ (hI.same hloc hL _ _ (Cell.grown_refl _) (Draws.upd_at _ _ _)))
          simp only [execOp]
          go_simp
        · obtain rfl := Option.some.inj ho
          have l12 := hd 12 (by simp [State.CostFDep])
          have e12 := (hI.at_ 12 62 rfl l12).get
          have l15 := hd 15 (by simp [State.CostFDep])
          have e15 := (hI.at_ 15 65 rfl l15).get
          rw [show val 12 = _ from hI.gd 12 l12] at e12
          rw [show val 15 = _ from hI.gd 15 l15] at e15
          refine Draws.wpOp_of (by rfl) rfl (State.wp_value (v := .bool true) (w' := W) ?_ (hI.same hloc hL _ _ (Cell.grown_refl _) (Draws.upd_at _ _ _)))
          simp only [execOp]
          go_simp
        · obtain rfl := Option.some.inj ho
          have l16 := hd 16 (by simp [State.CostFDep])
          have e16 := (hI.at_ 16 66 rfl l16).get
          rw [show val 16 = _ from hI.gd 16 l16] at e16
          refine Draws.wpOp_of (by rfl) rfl (State.wp_value (v := .bool true) (w' := W) ?_ (hI.same hloc hL _ _ (Cell.grown_refl _) (Draws.upd_at _ _ _)))
          simp only [execOp]
          go_simp
        · obtain rfl := Option.some.inj ho
          have l17 := hd 17 (by simp [State.CostFDep])
          have e17 := (hI.at_ 17 67 rfl l17).get
          rw [show val 17 = _ from hI.gd 17 l17] at e17
          have ag := hI.at_ 17 67 rfl l17
          rw [show val 17 = _ from hI.gd 17 l17] at ag
          have p3 := (hI.old 3 (by kernel_rfl) rfl).get
          refine Draws.wpOp_want (by rfl) (Draws.want_at 17 67 rfl rfl ag) (State.wp_value (v := .agg #[.int .i64 R, .slice (some ⟨g1, 0, none⟩) n c1]) (w' := W) ?_ (hI.same hloc hL _ _ (Cell.grown_refl _) (Draws.upd_at _ _ _)))
          simp only [execOp]
          go_simp
        · obtain rfl := Option.some.inj ho
          have l18 := hd 18 (by simp [State.CostFDep])
          have e18 := (hI.at_ 18 68 rfl l18).get
          have l17 := hd 17 (by simp [State.CostFDep])
          have e17 := (hI.at_ 17 67 rfl l17).get
          rw [show val 18 = _ from hI.gd 18 l18] at e18
          rw [show val 17 = _ from hI.gd 17 l17] at e17
          have ag := hI.at_ 17 67 rfl l17
          rw [show val 17 = _ from hI.gd 17 l17] at ag
          refine Draws.wpOp_want (by rfl) (Draws.want_at 17 67 rfl rfl ag) ?_
          unfold Oper.wp
          simp only [execOp]
          go_simp
          refine Calls.mono (P := Try.prog) (HSM.out W (Mesh.own_reads (hI.hd.nth 0 rfl))) ?_
          rintro e w1 ⟨rfl, hg⟩
          exact hI.same hloc hL _ (.int .i64 (CF - CM)) hg (Draws.upd_at _ _ _)
        · obtain rfl := Option.some.inj ho
          have l17 := hd 17 (by simp [State.CostFDep])
          have e17 := (hI.at_ 17 67 rfl l17).get
          rw [show val 17 = _ from hI.gd 17 l17] at e17
          have ag := hI.at_ 17 67 rfl l17
          rw [show val 17 = _ from hI.gd 17 l17] at ag
          have p8 := (hI.old 8 (by kernel_rfl) rfl).get
          refine Draws.wpOp_want (by rfl) (Draws.want_at 17 67 rfl rfl ag) (State.wp_value (v := .agg #[.int .i64 R, .slice qf nf df]) (w' := W) ?_ (hI.same hloc hL _ _ (Cell.grown_refl _) (Draws.upd_at _ _ _)))
          simp only [execOp]
          go_simp
        · obtain rfl := Option.some.inj ho
          have l20 := hd 20 (by simp [State.CostFDep])
          have e20 := (hI.at_ 20 70 rfl l20).get
          have l17 := hd 17 (by simp [State.CostFDep])
          have e17 := (hI.at_ 17 67 rfl l17).get
          rw [show val 20 = _ from hI.gd 20 l20] at e20
          rw [show val 17 = _ from hI.gd 17 l17] at e17
          have ag := hI.at_ 17 67 rfl l17
          rw [show val 17 = _ from hI.gd 17 l17] at ag
          refine Draws.wpOp_want (by rfl) (Draws.want_at 17 67 rfl rfl ag) ?_
          unfold Oper.wp
          simp only [execOp]
          go_simp
          refine Calls.mono (P := Try.prog) (HCF.out W qf df (Mesh.own_reads (hI.hd.nth 5 rfl))) ?_
          rintro e w1 ⟨rfl, hg⟩
          exact hI.same hloc hL _ (.int .i64 CF) hg (Draws.upd_at _ _ _)
        · obtain rfl := Option.some.inj ho
          have l17 := hd 17 (by simp [State.CostFDep])
          have e17 := (hI.at_ 17 67 rfl l17).get
          rw [show val 17 = _ from hI.gd 17 l17] at e17
          have ag := hI.at_ 17 67 rfl l17
          rw [show val 17 = _ from hI.gd 17 l17] at ag
          have p10 := (hI.old 10 (by kernel_rfl) rfl).get
          refine Draws.wpOp_want (by rfl) (Draws.want_at 17 67 rfl rfl ag) (State.wp_value (v := .int .i64 CM) (w' := W) ?_ (hI.same hloc hL _ _ (Cell.grown_refl _) (Draws.upd_at _ _ _)))
          simp only [execOp]
          go_simp
        · obtain rfl := Option.some.inj ho
          have l21 := hd 21 (by simp [State.CostFDep])
          have e21 := (hI.at_ 21 71 rfl l21).get
          have l22 := hd 22 (by simp [State.CostFDep])
          have e22 := (hI.at_ 22 72 rfl l22).get
          have l17 := hd 17 (by simp [State.CostFDep])
          have e17 := (hI.at_ 17 67 rfl l17).get
          rw [show val 21 = _ from hI.gd 21 l21] at e21
          rw [show val 22 = _ from hI.gd 22 l22] at e22
          rw [show val 17 = _ from hI.gd 17 l17] at e17
          have ag := hI.at_ 17 67 rfl l17
          rw [show val 17 = _ from hI.gd 17 l17] at ag
          refine Draws.wpOp_want (by rfl) (Draws.want_at 17 67 rfl rfl ag) (State.wp_value (v := .int .i64 (CF - CM)) (w' := W) ?_ (hI.same hloc hL _ _ (Cell.grown_refl _) (Draws.upd_at _ _ _)))
          simp only [execOp]
          go_simp
        · obtain rfl := Option.some.inj ho
          have l19 := hd 19 (by simp [State.CostFDep])
          have e19 := (hI.at_ 19 69 rfl l19).get
          have l23 := hd 23 (by simp [State.CostFDep])
          have e23 := (hI.at_ 23 73 rfl l23).get
          have l17 := hd 17 (by simp [State.CostFDep])
          have e17 := (hI.at_ 17 67 rfl l17).get
          rw [show val 19 = _ from hI.gd 19 l19] at e19
          rw [show val 23 = _ from hI.gd 23 l23] at e23
          rw [show val 17 = _ from hI.gd 17 l17] at e17
          have ag := hI.at_ 17 67 rfl l17
          rw [show val 17 = _ from hI.gd 17 l17] at ag
          refine Draws.wpOp_want (by rfl) (Draws.want_at 17 67 rfl rfl ag) (State.wp_value (v := .bool true) (w' := W) ?_ (hI.same hloc hL _ _ (Cell.grown_refl _) (Draws.upd_at _ _ _)))
          simp only [execOp]
          go_simp
        · obtain rfl := Option.some.inj ho
          have l17 := hd 17 (by simp [State.CostFDep])
          have e17 := (hI.at_ 17 67 rfl l17).get
          have l24 := hd 24 (by simp [State.CostFDep])
          have e24 := (hI.at_ 24 74 rfl l24).get
          rw [show val 17 = _ from hI.gd 17 l17] at e17
          rw [show val 24 = _ from hI.gd 24 l24] at e24
          refine Draws.wpOp_of (by rfl) rfl (State.wp_value (v := .bool true) (w' := W) ?_ (hI.same hloc hL _ _ (Cell.grown_refl _) (Draws.upd_at _ _ _)))
          simp only [execOp]
          go_simp
        · obtain rfl := Option.some.inj ho
          have l25 := hd 25 (by simp [State.CostFDep])
          have e25 := (hI.at_ 25 75 rfl l25).get
          rw [show val 25 = _ from hI.gd 25 l25] at e25
          refine Draws.wpOp_of (by rfl) rfl (State.wp_value (v := .bool true) (w' := W) ?_ (hI.same hloc hL _ _ (Cell.grown_refl _) (Draws.upd_at _ _ _)))
          simp only [execOp]
          go_simp
        · obtain rfl := Option.some.inj ho
          have l26 := hd 26 (by simp [State.CostFDep])
          have e26 := (hI.at_ 26 76 rfl l26).get
          rw [show val 26 = _ from hI.gd 26 l26] at e26
          have ag := hI.at_ 26 76 rfl l26
          rw [show val 26 = _ from hI.gd 26 l26] at ag
          have p3 := (hI.old 3 (by kernel_rfl) rfl).get
          refine Draws.wpOp_want (by rfl) (Draws.want_at 26 76 rfl rfl ag) (State.wp_value (v := .agg #[.int .i64 R, .slice (some ⟨g1, 0, none⟩) n c1]) (w' := W) ?_ (hI.same hloc hL _ _ (Cell.grown_refl _) (Draws.upd_at _ _ _)))
          simp only [execOp]
          go_simp
        · obtain rfl := Option.some.inj ho
          have l27 := hd 27 (by simp [State.CostFDep])
          have e27 := (hI.at_ 27 77 rfl l27).get
          have l26 := hd 26 (by simp [State.CostFDep])
          have e26 := (hI.at_ 26 76 rfl l26).get
          rw [show val 27 = _ from hI.gd 27 l27] at e27
          rw [show val 26 = _ from hI.gd 26 l26] at e26
          have ag := hI.at_ 26 76 rfl l26
          rw [show val 26 = _ from hI.gd 26 l26] at ag
          refine Draws.wpOp_want (by rfl) (Draws.want_at 26 76 rfl rfl ag) ?_
          unfold Oper.wp
          simp only [execOp]
          go_simp
          refine Calls.mono (P := Try.prog) (HSM.out W (Mesh.own_reads (hI.hd.nth 0 rfl))) ?_
          rintro e w1 ⟨rfl, hg⟩
          exact hI.same hloc hL _ (.int .i64 (CF - CM)) hg (Draws.upd_at _ _ _)
        · obtain rfl := Option.some.inj ho
          have l28 := hd 28 (by simp [State.CostFDep])
          have e28 := (hI.at_ 28 78 rfl l28).get
          have l26 := hd 26 (by simp [State.CostFDep])
          have e26 := (hI.at_ 26 76 rfl l26).get
          rw [show val 28 = _ from hI.gd 28 l28] at e28
          rw [show val 26 = _ from hI.gd 26 l26] at e26
          have ag := hI.at_ 26 76 rfl l26
          rw [show val 26 = _ from hI.gd 26 l26] at ag
          refine Draws.wpOp_want (by rfl) (Draws.want_at 26 76 rfl rfl ag) (State.wp_value (v := .bool true) (w' := W) ?_ (hI.same hloc hL _ _ (Cell.grown_refl _) (Draws.upd_at _ _ _)))
          simp only [execOp]
          go_simp
        · obtain rfl := Option.some.inj ho
          have l26 := hd 26 (by simp [State.CostFDep])
          have e26 := (hI.at_ 26 76 rfl l26).get
          have l29 := hd 29 (by simp [State.CostFDep])
          have e29 := (hI.at_ 29 79 rfl l29).get
          rw [show val 26 = _ from hI.gd 26 l26] at e26
          rw [show val 29 = _ from hI.gd 29 l29] at e29
          refine Draws.wpOp_of (by rfl) rfl (State.wp_value (v := .bool true) (w' := W) ?_ (hI.same hloc hL _ _ (Cell.grown_refl _) (Draws.upd_at _ _ _)))
          simp only [execOp]
          go_simp
        · obtain rfl := Option.some.inj ho
          have l30 := hd 30 (by simp [State.CostFDep])
          have e30 := (hI.at_ 30 80 rfl l30).get
          rw [show val 30 = _ from hI.gd 30 l30] at e30
          refine Draws.wpOp_of (by rfl) rfl (State.wp_value (v := .bool true) (w' := W) ?_ (hI.same hloc hL _ _ (Cell.grown_refl _) (Draws.upd_at _ _ _)))
          simp only [execOp]
          go_simp
        · obtain rfl := Option.some.inj ho
          have l31 := hd 31 (by simp [State.CostFDep])
          have e31 := (hI.at_ 31 81 rfl l31).get
          rw [show val 31 = _ from hI.gd 31 l31] at e31
          have ag := hI.at_ 31 81 rfl l31
          rw [show val 31 = _ from hI.gd 31 l31] at ag
          have p12 := (hI.old 12 (by kernel_rfl) rfl).get
          refine Draws.wpOp_want (by rfl) (Draws.want_at 31 81 rfl rfl ag) (State.wp_value (v := .bool false) (w' := W) ?_ (hI.same hloc hL _ _ (Cell.grown_refl _) (Draws.upd_at _ _ _)))
          simp only [execOp]
          go_simp
        · obtain rfl := Option.some.inj ho
          have l32 := hd 32 (by simp [State.CostFDep])
          have e32 := (hI.at_ 32 82 rfl l32).get
          have l31 := hd 31 (by simp [State.CostFDep])
          have e31 := (hI.at_ 31 81 rfl l31).get
          rw [show val 32 = _ from hI.gd 32 l32] at e32
          rw [show val 31 = _ from hI.gd 31 l31] at e31
          have ag := hI.at_ 31 81 rfl l31
          rw [show val 31 = _ from hI.gd 31 l31] at ag
          refine Draws.wpOp_want (by rfl) (Draws.want_at 31 81 rfl rfl ag) (State.wp_value (v := .bool true) (w' := W) ?_ (hI.same hloc hL _ _ (Cell.grown_refl _) (Draws.upd_at _ _ _)))
          simp only [execOp]
          go_simp
        · obtain rfl := Option.some.inj ho
          have l33 := hd 33 (by simp [State.CostFDep])
          have e33 := (hI.at_ 33 83 rfl l33).get
          have l31 := hd 31 (by simp [State.CostFDep])
          have e31 := (hI.at_ 31 81 rfl l31).get
          rw [show val 33 = _ from hI.gd 33 l33] at e33
          rw [show val 31 = _ from hI.gd 31 l31] at e31
          have ag := hI.at_ 31 81 rfl l31
          rw [show val 31 = _ from hI.gd 31 l31] at ag
          refine Draws.wpOp_want (by rfl) (Draws.want_at 31 81 rfl rfl ag) (State.wp_value (v := .bool true) (w' := W) ?_ (hI.same hloc hL _ _ (Cell.grown_refl _) (Draws.upd_at _ _ _)))
          simp only [execOp]
          go_simp
        · obtain rfl := Option.some.inj ho
          have l34 := hd 34 (by simp [State.CostFDep])
          have e34 := (hI.at_ 34 84 rfl l34).get
          rw [show val 34 = _ from hI.gd 34 l34] at e34
          have ag := hI.at_ 34 84 rfl l34
          rw [show val 34 = _ from hI.gd 34 l34] at ag
          have p11 := (hI.old 11 (by kernel_rfl) rfl).get
          exact Draws.wpOp_notC (by rfl) (Draws.want_offC 34 84 rfl rfl ag (by decide)) (hI.same hloc hL _ undef (Cell.grown_refl _) (Draws.upd_at _ _ _))
        · obtain rfl := Option.some.inj ho
          have l35 := hd 35 (by simp [State.CostFDep])
          have e35 := (hI.at_ 35 85 rfl l35).get
          have l34 := hd 34 (by simp [State.CostFDep])
          have e34 := (hI.at_ 34 84 rfl l34).get
          rw [show val 35 = _ from hI.gd 35 l35] at e35
          rw [show val 34 = _ from hI.gd 34 l34] at e34
          have ag := hI.at_ 34 84 rfl l34
          rw [show val 34 = _ from hI.gd 34 l34] at ag
          exact Draws.wpOp_notC (by rfl) (Draws.want_offC 34 84 rfl rfl ag (by decide)) (hI.same hloc hL _ undef (Cell.grown_refl _) (Draws.upd_at _ _ _))
        · obtain rfl := Option.some.inj ho
          have l34 := hd 34 (by simp [State.CostFDep])
          have e34 := (hI.at_ 34 84 rfl l34).get
          rw [show val 34 = _ from hI.gd 34 l34] at e34
          have ag := hI.at_ 34 84 rfl l34
          rw [show val 34 = _ from hI.gd 34 l34] at ag
          have p10 := (hI.old 10 (by kernel_rfl) rfl).get
          exact Draws.wpOp_notC (by rfl) (Draws.want_offC 34 84 rfl rfl ag (by decide)) (hI.same hloc hL _ undef (Cell.grown_refl _) (Draws.upd_at _ _ _))
        · obtain rfl := Option.some.inj ho
          have l36 := hd 36 (by simp [State.CostFDep])
          have e36 := (hI.at_ 36 86 rfl l36).get
          have l37 := hd 37 (by simp [State.CostFDep])
          have e37 := (hI.at_ 37 87 rfl l37).get
          have l34 := hd 34 (by simp [State.CostFDep])
          have e34 := (hI.at_ 34 84 rfl l34).get
          rw [show val 36 = _ from hI.gd 36 l36] at e36
          rw [show val 37 = _ from hI.gd 37 l37] at e37
          rw [show val 34 = _ from hI.gd 34 l34] at e34
          have ag := hI.at_ 34 84 rfl l34
          rw [show val 34 = _ from hI.gd 34 l34] at ag
          exact Draws.wpOp_notC (by rfl) (Draws.want_offC 34 84 rfl rfl ag (by decide)) (hI.same hloc hL _ undef (Cell.grown_refl _) (Draws.upd_at _ _ _))
        · obtain rfl := Option.some.inj ho
          have l34 := hd 34 (by simp [State.CostFDep])
          have e34 := (hI.at_ 34 84 rfl l34).get
          have l38 := hd 38 (by simp [State.CostFDep])
          have e38 := (hI.at_ 38 88 rfl l38).get
          have l31 := hd 31 (by simp [State.CostFDep])
          have e31 := (hI.at_ 31 81 rfl l31).get
          rw [show val 34 = _ from hI.gd 34 l34] at e34
          rw [show val 38 = _ from hI.gd 38 l38] at e38
          rw [show val 31 = _ from hI.gd 31 l31] at e31
          have ag := hI.at_ 31 81 rfl l31
          rw [show val 31 = _ from hI.gd 31 l31] at ag
          refine Draws.wpOp_want (by rfl) (Draws.want_at 31 81 rfl rfl ag) (State.wp_value (v := .bool true) (w' := W) ?_ (hI.same hloc hL _ _ (Cell.grown_refl _) (Draws.upd_at _ _ _)))
          simp only [execOp]
          go_simp
        · obtain rfl := Option.some.inj ho
          have l31 := hd 31 (by simp [State.CostFDep])
          have e31 := (hI.at_ 31 81 rfl l31).get
          have l39 := hd 39 (by simp [State.CostFDep])
          have e39 := (hI.at_ 39 89 rfl l39).get
          rw [show val 31 = _ from hI.gd 31 l31] at e31
          rw [show val 39 = _ from hI.gd 39 l39] at e39
          refine Draws.wpOp_of (by rfl) rfl (State.wp_value (v := .bool true) (w' := W) ?_ (hI.same hloc hL _ _ (Cell.grown_refl _) (Draws.upd_at _ _ _)))
          simp only [execOp]
          go_simp
        · obtain rfl := Option.some.inj ho
          have l40 := hd 40 (by simp [State.CostFDep])
          have e40 := (hI.at_ 40 90 rfl l40).get
          rw [show val 40 = _ from hI.gd 40 l40] at e40
          refine Draws.wpOp_of (by rfl) rfl (State.wp_value (v := .bool true) (w' := W) ?_ (hI.same hloc hL _ _ (Cell.grown_refl _) (Draws.upd_at _ _ _)))
          simp only [execOp]
          go_simp
      case lastCostF =>
        intro L a W val G hI hall
        have v41 : val 41 = .bool true := hI.gd 41 (hall 41 (by simp))
        have hgr : w.grownBy W none := hI.hd.gr
        have ha := hI.frame (by kernel_rfl) hall
        refine hKK _ _ ?_
        clear hKK hI hall
        simp [Draws.frameOf, Draws.slotOf, Act.put, List.range, List.range.loop] at ha
        subst ha
        rw [v41]
        clear v41
        go_wp2_with fail
        go_ret
        exact ⟨rfl, Cell.grown_below hgr (Nat.le_refl _)⟩

set_option maxRecDepth 100000 in
theorem lifted (os : Os) (started : os.Started) (H : Type) (enc : TypeId × Value → H) :
    ReturnsInHanded {} Try.checked os 4 .any (Rows.fnCostsSpec.pre6 enc Try.prog Try.f4 Rows.fnCostsRow.domain false) (Rows.fnCostsSpec.post enc Try.prog Try.f4 false true false false) := by
  refine returnsInHanded_of_change (C := Try.checked) own started (by kernel_rfl) Try.func4
    (ChangeSpec.witness6 (enc := enc) (C := Try.checked) false ⟨#[], #[.slice none 0 0], []⟩ 8 (by kernel_rfl) (by kernel_rfl) (by kernel_rfl) (by kernel_rfl)) ?_
  intro W base args ds gs before hval0 hW hcnd _
  have hval : ∀ (j : Nat) t v, Try.f4.params[j]? = some t → args[j]? = some v → Value.okWide Try.prog W .any base t v := hval0
  have hW' := hW
  obtain ⟨p, q, hA0, hV, rfl, hfz, hnd⟩ := hW
  have hA : DataW.TrodAll enc Try.prog W 0 (fun _ => true) true Try.f4.params.toList args.toList ds p := hA0
  rw [Try.params4] at hA hval
  obtain ⟨v0, vs0, d0, ds0, p0, q0, hargs, rfl, rfl, h0, r0⟩ := trodAll_cons hA
  obtain ⟨rfl, rfl, rfl⟩ := trodAll_nil r0
  obtain rfl : args = #[v0] := by cases args; simp_all
  obtain ⟨rfl, rfl⟩ := trodVars_none hV
  obtain ⟨a0, len0, cap0, rfl⟩ := okWide_slice Try.underlying22 (hval 0 22 v0 rfl rfl)
  have k0 := h0
  have lt0 : ∀ x ∈ p0, x.block < W.heap.size := by obtain ⟨m, hm⟩ := k0; exact DataW.trod_lt m _ _ _ hm
  obtain ⟨z0, w0⟩ : ∃ zs, IsRow .u8 W a0 len0 cap0 zs := by
    obtain ⟨fuel, hf⟩ := h0
    rcases open_ints Try.underlying22 Try.underlying5 (by kernel_rfl) hf with ⟨hcs, _⟩ | ⟨x, l, c, zs, hcs, _, hl, hm, hz, _, hcell, hwz⟩
    · simp [Value.cells] at hcs
      obtain ⟨rfl, rfl, rfl⟩ := hcs
      exact ⟨[], .inl ⟨rfl, rfl, rfl, rfl⟩⟩
    · simp [Value.cells] at hcs
      obtain ⟨rfl, rfl, rfl⟩ := hcs
      exact ⟨zs, .inr ⟨_, rfl, hl, hm, by simpa using hz, hcell, hwz⟩⟩
  clear hA0 hval0
  refine (walk a0 len0 cap0 z0 W w0).mono fun e W' ⟨he, bel⟩ => ?_
  subst he
  exact ⟨_, rfl, _, _, _, [], _, [], hW', trodAll_mk1 (shut_bool Try.underlying4 _), (trodAll_cons_mk (Below.trod laidOut (by kernel_rfl) (of_decide_eq_true (by kernel_rfl)) k0 bel lt0) trodAll_mk0), rfl, bel.frame _, fun h => by cases h⟩

theorem over : Rows.fnCostsRow.holds Try.pinned (OpenSpec.ofChange Rows.fnCostsSpec) :=
  OpenClaim.holds_of_wide 4 Try.f4 rfl rfl rfl rfl rfl rfl rfl ⟨rfl, rfl, rfl, rfl, rfl⟩ rfl rfl rfl rfl rfl (by kernel_rfl) Try.func4 (by kernel_rfl)
    (of_decide_eq_true (by kernel_rfl)) (by unfold Func.isWrapper; first | (rw [if_pos (by decide +kernel)]; kernel_rfl) | (rw [if_neg (by decide +kernel)]; exact ⟨rfl, rfl⟩))
    (fun os started H enc _ => lifted os started H enc)

theorem proved : Rows.FnCostsSaid := over
#print axioms proved
end Go.Proofs.Ytaccigmkddomaaa.fnCosts
