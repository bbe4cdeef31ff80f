/- Proved: for every slice of bytes the law FnBalanced returns true: the balanced mesh is balanced, has the roots and the deepest level of the drawn mesh, each of its leaves lies in a leaf of that mesh, and balancing it again changes nothing.
   Conditions: none besides those that the given row prints. -/
import Derived.Test.YtmkmlfaekiofcaaRows
import Derived.WalkKit
import Derived.ProofKit
import Derived.OpenShut
import Derived.ShutString
import Derived.Test.YtmkmlfaekiofcaaMBalLaw
import Derived.ChangeOld
import Derived.Below
namespace Go.Proofs.Ytmkmlfaekiofcaa.fnBalanced
open Go.ChangeShapes Go.WideShapes Go.ChangeAt Go.RowKit
open Go.ChangeMaps (open_string shut_string)
set_option linter.unusedVariables false

theorem own : ownKnob Try.prog.godebug = none := by kernel_rfl
theorem laidOut : laidOutB Try.prog = true := by kernel_rfl

def IsRow (k : IntKind) (w : World) (a : Option Addr) (len cap : Nat) (zs : List Int) : Prop :=
  (a = none ∧ len = 0 ∧ cap = 0 ∧ zs = []) ∨
  ∃ x, a = some x ∧ len ≤ cap ∧ cap ≤ maxLen ∧ zs.length = cap ∧ (∀ i, i < zs.length → w.cell? (x.add i) = some (.int k (zs.getD i 0))) ∧ ∀ n ∈ zs, (Lit.int k n).wf = true

set_option maxHeartbeats 16000000 in
theorem walk (a0 : Option Addr) (len0 cap0 : Nat) (z0 : List Int) (w : World) (w0 : IsRow .u8 w a0 len0 cap0 z0) :
    Calls Try.prog 11 #[.slice a0 len0 cap0] w fun e w' => e = .returned (.bool true) ∧ Below w.heap.size w w' := by
  have hb := Draw.bytes_of w0
  have HB := Lib.hid hb; clear hb
  clear w0
  by_cases hlen : 1048576 < len0
  · have hd : decide (1048576 < (len0 : Int)) = true := by simp; omega
    go_enter Try.func11, Try.ntmps11
    go_wp2_with fail
    refine Draw.big_any.mono ?_; rintro e w1 ⟨rfl, rfl⟩
    rw [hd]
    go_wp2_with fail
    go_ret
    exact ⟨rfl, Below.refl _ _⟩
  · have hd : decide (1048576 < (len0 : Int)) = false := by simp; omega
    have hlen' : len0 ≤ 1048576 := by omega
    have HLen := Lib.hid hlen'; clear hlen'
    go_enter Try.func11, Try.ntmps11
    go_wp2_with fail
    refine Draw.big_any.mono ?_; rintro e w1 ⟨rfl, rfl⟩
    rw [hd]
    clear hd hlen
    go_wp2_with fail
    refine (Mesh.draw_is HLen.out HB.out).mono ?_; rintro e w1 ⟨R, xs, a1, c1, rfl, h1, h3, hm, ho, hb⟩
    clear HB HLen h1 h3
    obtain ⟨hox, hl1, hl2⟩ := Mesh.mesh_parts hm
    obtain ⟨hbm, hbf⟩ := Mesh.balOf_ok hm
    obtain ⟨-, hk1, hk2⟩ := Mesh.mesh_parts hbm
    obtain ⟨g1, c1', hv⟩ := Mesh.own_at1 ho hl1
    cases hv
    obtain ⟨n, hn⟩ : ∃ n, n = xs.length := ⟨_, rfl⟩
    have hn128 : n ≤ 1048576 := by omega
    have hni : (n : Int) ≤ 128 := by omega
    have hn1 : 1 ≤ (n : Int) := by omega
    have HMM := Lib.hid hm
    have HCO := Lib.hid (fun (i : Nat) (y : Mesh.C3) (hy : (Mesh.balOf R xs)[i]? = some y) => Mesh.balOf_con hm hy)
    have HOR := Lib.hid (fun (i j k : Nat) (x x' y y' : Mesh.C3) (hy : (Mesh.balOf R xs)[i]? = some y) (hy' : (Mesh.balOf R xs)[i + 1]? = some y') (hx : xs[k]? = some x) (hx' : xs[j]? = some x') (hc : Mesh.con x y = true) (hc' : Mesh.con x' y' = true) => Mesh.con_order hm hbm hy hy' hx hx' hc hc')
    have hag := Mesh.balOf_again hm
    have hdp := Mesh.balOf_deep hm
    have hB1 := fun (u : World) (c : Nat) (h : Mesh.Reads u (some ⟨g1, 0, none⟩) n xs) => Mesh.balance_is R g1 n c xs u h hn128
    obtain ⟨bs, hbs⟩ : ∃ bs, bs = Mesh.balOf R xs := ⟨_, rfl⟩
    rw [← hbs] at hbm hbf hk1 hk2 HCO HOR hag hdp hB1
    obtain ⟨nb, hnb⟩ : ∃ nb, nb = bs.length := ⟨_, rfl⟩
    have hb128 : nb ≤ 1048576 := by omega
    have hbi : (nb : Int) ≤ 128 := by omega
    have hb1 : 1 ≤ nb := by omega
    have HB1 := Lib.hid hB1
    have HIB : Hid (∀ (u : World) (g c : Nat), Mesh.Reads u (some ⟨g, 0, none⟩) nb bs → Calls Try.prog 35 #[.agg #[.int .i64 R, .slice (some ⟨g, 0, none⟩) nb c]] u fun e w' => e = .returned (.bool true) ∧ u.grownBy w' none) := Lib.hid (fun u g c h => by have q := Mesh.isBalanced_is R (some ⟨g, 0, none⟩) nb c bs u h hb128; rw [show Mesh.balanced R bs = true by simp [Mesh.balanced, hbm, hbf]] at q; exact q)
    have HFU : Hid (∀ (u : World) (g c : Nat), Mesh.Reads u (some ⟨g, 0, none⟩) nb bs → Calls Try.prog 36 #[.agg #[.int .i64 R, .slice (some ⟨g, 0, none⟩) nb c]] u fun e w' => e = .returned (.int .i64 (-1)) ∧ u.grownBy w' none) := Lib.hid (fun u g c h => by have q := Mesh.firstUnb_is R (some ⟨g, 0, none⟩) nb c bs u h hb128; rw [show Mesh.firstOf R bs = -1 by simp [Mesh.firstOf, hbm, hbf]] at q; exact q)
    obtain ⟨D, hD⟩ : ∃ D, D = Mesh.deepest R xs := ⟨_, rfl⟩
    have HDM : Hid (∀ (u : World) (c : Nat), Mesh.Reads u (some ⟨g1, 0, none⟩) n xs → Calls Try.prog 37 #[.agg #[.int .i64 R, .slice (some ⟨g1, 0, none⟩) n c]] u fun e w' => e = .returned (.int .i64 D) ∧ u.grownBy w' none) := Lib.hid (fun u c h => by have q := Mesh.specDeepest_is R (some ⟨g1, 0, none⟩) n c xs u h hn128; rw [← hD] at q; exact q)
    have HDB : Hid (∀ (u : World) (g c : Nat), Mesh.Reads u (some ⟨g, 0, none⟩) nb bs → Calls Try.prog 37 #[.agg #[.int .i64 R, .slice (some ⟨g, 0, none⟩) nb c]] u fun e w' => e = .returned (.int .i64 D) ∧ u.grownBy w' none) := Lib.hid (fun u g c h => by have q := Mesh.specDeepest_is R (some ⟨g, 0, none⟩) nb c bs u h hb128; rw [hdp, ← hD] at q; exact q)
    have hB2 : ∀ (u : World) (g c : Nat), Mesh.Reads u (some ⟨g, 0, none⟩) nb bs → Calls Try.prog 33 #[.agg #[.int .i64 R, .slice (some ⟨g, 0, none⟩) nb c]] u fun e w' => ∃ v, e = .returned (.agg #[.int .i64 R, v]) ∧ w'.ownsRow u.heap.size 33 3 v nb (Mesh.flatC bs) ∧ u.grownBy w' none := fun u g c h => by
      have q := Mesh.balance_is R g nb c bs u h hb128
      rw [hag, ← hnb] at q
      exact q
    have HB2 := Lib.hid hB2
    rw [← hn] at ho ⊢
    rw [← hnb] at HB1
    have HM1 := Lib.hid (Mesh.MBox.new w1 R (.slice (some ⟨g1, 0, none⟩) n c1))
    have HO1 := Lib.hid (Mesh.own_reads (ho.alloc (.cells #[.int .i64 R, .slice (some ⟨g1, 0, none⟩) n c1] 26)))
    have HG1 := Lib.hid (Cell.g_alloc (Mesh.below_grown hb) (.cells #[.int .i64 R, .slice (some ⟨g1, 0, none⟩) n c1] 26))
    have HNB := Lib.hid hb1
    have HBL := Lib.hid hnb
    have HLN := Lib.hid hn
    have HN := Lib.hid hn128
    have HN2 := Lib.hid hb128
    clear ho hb hm hox hl1 hl2 hn hn128 hbm hbf hk1 hk2 hag hdp hB1 hB2 hb128 hD hbs hnb hb1
    go_upto_region 4 with fail
    generalize w1.heap.size = B3 at *
    generalize w1.alloc (.cells #[.int .i64 R, .slice (some ⟨g1, 0, none⟩) n c1] 26) = W1 at *
    have m0 := HM1.out.c0
    have m1 := HM1.out.c1
    go_upto_region 5 with (go_at_call 33; ((with_reducible refine (HB1.out _ _ HO1.out).mono ?_); rintro e w2 ⟨v, rfl, ho, hg⟩; obtain ⟨g2, c2, rfl⟩ := Mesh.own_at1 ho HNB.out; have HT := Lib.hid (show Mesh.Two w (w2.alloc (.cells #[.int .i64 R, .slice (some ⟨g2, 0, none⟩) nb c2] 26)) R B3 w2.heap.size g1 n c1 g2 nb c2 xs bs from ⟨(HM1.out.kept hg (by simp)).alloc _, Mesh.MBox.new w2 R _, (HO1.out.on hg).on (World.grownBy_alloc w2 _ none), (Mesh.own_reads ho).on (World.grownBy_alloc w2 _ none), Cell.g_alloc (Cell.grown_trans HG1.out hg) _⟩); clear ho hg))
    clear m0 m1 HM1 HO1 HG1 HB1
    generalize w2.heap.size = B4 at *
    generalize w2.alloc (.cells #[.int .i64 R, .slice (some ⟨g2, 0, none⟩) nb c2] 26) = W2 at *
    have ht := HT.out
    have m30 := HT.out.m3.c0
    have m31 := HT.out.m3.c1
    have m40 := HT.out.m4.c0
    have m41 := HT.out.m4.c1
    clear HT
    go_region_held3 (fun w' => w'.cell? ⟨B3, 0, none⟩ = some (.int .i64 R) ∧ w'.cell? ⟨B3, 1, none⟩ = some (.slice (some ⟨g1, 0, none⟩) n c1) ∧ w'.cell? ⟨B4, 0, none⟩ = some (.int .i64 R) ∧ w'.cell? ⟨B4, 1, none⟩ = some (.slice (some ⟨g2, 0, none⟩) nb c2) ∧ Mesh.Two w w' R B3 B4 g1 n c1 g2 nb c2 xs bs)
      ((go_split_ands; refine ⟨?_, ?_, ?_, ?_, ?_⟩ <;> first | assumption | exact hgc.cell (by assumption) (by simp) | exact Mesh.Two.on (by assumption) hgc | exact Mesh.Two.on (by assumption) (Mesh.gr_drew1 (Cell.grown_refl _))))
      (first
        | (go_at_call 35; ((with_reducible refine (HIB.out _ g2 c2 (Mesh.Two.r2 (by first | assumption | (go_split_ands; assumption)))).mono ?_); rintro e w'' ⟨rfl, hgc⟩))
        | (go_at_call 36; ((with_reducible refine (HFU.out _ g2 c2 (Mesh.Two.r2 (by first | assumption | (go_split_ands; assumption)))).mono ?_); rintro e w'' ⟨rfl, hgc⟩))
        | (go_at_call 37; ((with_reducible refine (HDB.out _ g2 c2 (Mesh.Two.r2 (by first | assumption | (go_split_ands; assumption)))).mono ?_); rintro e w'' ⟨rfl, hgc⟩))
        | (go_at_call 37; ((with_reducible refine (HDM.out _ c1 (Mesh.Two.r1 (by first | assumption | (go_split_ands; assumption)))).mono ?_); rintro e w'' ⟨rfl, hgc⟩)))
    go_split_ands
    go_wp2_with fail
    go_loopw [5, 6] (fun kk ii wr => ∃ k i : Nat, (i : Int) ≤ nb ∧ kk = .int .i64 k ∧ ii = .int .i64 i ∧ Hid (∀ (j : Nat) x y, bs[i]? = some y → xs[j]? = some x → Mesh.con x y = true → k ≤ j) ∧ Hid (Mesh.Two w wr R B3 B4 g1 n c1 g2 nb c2 xs bs)) (fun _ ii _ => nb - (intOf ii).toNat)
    case atStart => exact ⟨0, 0, by omega, rfl, rfl, Lib.hid (fun j x y _ _ _ => Nat.zero_le _), Lib.hid (by assumption)⟩
    case round =>
      obtain ⟨k, i, hi, rfl, rfl, HK, HT⟩ := hrel
      have m31 := HT.out.m3.c1
      have m40 := HT.out.m4.c0
      have m41 := HT.out.m4.c1
      by_cases hlt : (i : Int) < nb
      · obtain ⟨r', l', i', hy⟩ := Mesh.get_of_lt HT.out.r2.len (k := i) (by omega)
        obtain ⟨j0, x0, hj0, hc0⟩ := HCO.out i _ hy
        have hj0n : j0 < n := by have := (List.getElem?_eq_some_iff.1 hj0).1; have := HLN.out; omega
        have HY := Lib.hid hy
        have HJ := Lib.hid (And.intro hj0 hc0)
        have HKY := Lib.hid (fun (j : Nat) x (hx : xs[j]? = some x) (hc : Mesh.con x (r', l', i') = true) => HK.out j x _ hy hx hc)
        clear hy hj0 hc0
        go_wp2_with fail
        go_loopw [5] (fun kk wy => ∃ k : Nat, kk = .int .i64 k ∧ Hid (∀ (j : Nat) x, xs[j]? = some x → Mesh.con x (r', l', i') = true → k ≤ j) ∧ Hid (Mesh.Two w wy R B3 B4 g1 n c1 g2 nb c2 xs bs)) (fun kk _ => n - (intOf kk).toNat)
        case atStart => exact ⟨k, rfl, HKY, HT⟩
        case round =>
          clear HT HKY HK m31 m40 m41
          obtain ⟨q, rfl, HQ, HT⟩ := hrel
          have hq := HQ.out j0 x0 HJ.out.1 HJ.out.2
          have hqn : (q : Int) < (n : Int) := by omega
          obtain ⟨r, l, z, hx⟩ := Mesh.get_of_lt HT.out.r1.len (k := q) (by omega)
          obtain ⟨g_, hg_, -, d0, d1, d2⟩ := HT.out.r1.at_ q _ hx
          cases hg_
          obtain ⟨g_, hg_, -, f0, f1, f2⟩ := HT.out.r2.at_ i _ HY.out
          cases hg_
          dsimp only at d0 d1 d2 f0 f1 f2
          have ht := HT.out
          have m30 := HT.out.m3.c0
          have m31 := HT.out.m3.c1
          have m40 := HT.out.m4.c0
          have m41 := HT.out.m4.c1
          have k0 : (0 : Int) ≤ (q : Int) := by omega
          have k1 : (0 : Int) ≤ (i : Int) := by omega
          have k2 : (q == n) = false := by simp; omega
          have k3 : ((q : Int) == (n : Int)) = false := by simp; omega
          have HX := Lib.hid hx
          clear hx HT
          cases hc : Mesh.con (r, l, z) (r', l', i') with
          | true =>
            have HC := Lib.hid (show Mesh.conB r l z r' l' i' = true from hc)
            have HCC := Lib.hid hc
            clear hc
            go_upto_region 11 with fail
            go_region_held3 (fun w' => w'.cell? ⟨B3, 0, none⟩ = some (.int .i64 R) ∧ w'.cell? ⟨B3, 1, none⟩ = some (.slice (some ⟨g1, 0, none⟩) n c1) ∧ w'.cell? ⟨B4, 0, none⟩ = some (.int .i64 R) ∧ w'.cell? ⟨B4, 1, none⟩ = some (.slice (some ⟨g2, 0, none⟩) nb c2)
                ∧ w'.cell? ⟨g1, q * 3, none⟩ = some (.int .i64 r) ∧ w'.cell? ⟨g1, q * 3 + 1, none⟩ = some (.int .i64 l) ∧ w'.cell? ⟨g1, q * 3 + 2, none⟩ = some (.int .i64 z)
                ∧ w'.cell? ⟨g2, i * 3, none⟩ = some (.int .i64 r') ∧ w'.cell? ⟨g2, i * 3 + 1, none⟩ = some (.int .i64 l') ∧ w'.cell? ⟨g2, i * 3 + 2, none⟩ = some (.int .i64 i') ∧ Mesh.Two w w' R B3 B4 g1 n c1 g2 nb c2 xs bs)
              ((go_split_ands; refine ⟨?_, ?_, ?_, ?_, ?_, ?_, ?_, ?_, ?_, ?_, ?_⟩ <;> first | assumption | exact hgc.cell (by assumption) (by simp) | exact Mesh.Two.on (by assumption) hgc | exact Mesh.Two.on (by assumption) (Mesh.gr_drew1 (Cell.grown_refl _))))
              (first
                | (go_at_call 38; ((with_reducible refine (Mesh.specCon_is r l z r' l' i' _).mono ?_); rw [HC.out]; rintro e w'' ⟨rfl, hgc⟩)))
            all_goals go_split_ands
            all_goals go_wp2_with fail
            all_goals exact ⟨⟨q, i + 1, by omega, rfl, by go_num, Lib.hid (fun j x y hy hx hc => HOR.out i j q _ x _ y HY.out hy HX.out hx HCC.out hc), Lib.hid (by assumption)⟩, by simp [intOf]; omega⟩
          | false =>
            have HC := Lib.hid (show Mesh.conB r l z r' l' i' = false from hc)
            have HCC := Lib.hid hc
            clear hc
            go_upto_region 11 with fail
            go_region_held3 (fun w' => w'.cell? ⟨B3, 0, none⟩ = some (.int .i64 R) ∧ w'.cell? ⟨B3, 1, none⟩ = some (.slice (some ⟨g1, 0, none⟩) n c1) ∧ w'.cell? ⟨B4, 0, none⟩ = some (.int .i64 R) ∧ w'.cell? ⟨B4, 1, none⟩ = some (.slice (some ⟨g2, 0, none⟩) nb c2)
                ∧ w'.cell? ⟨g1, q * 3, none⟩ = some (.int .i64 r) ∧ w'.cell? ⟨g1, q * 3 + 1, none⟩ = some (.int .i64 l) ∧ w'.cell? ⟨g1, q * 3 + 2, none⟩ = some (.int .i64 z)
                ∧ w'.cell? ⟨g2, i * 3, none⟩ = some (.int .i64 r') ∧ w'.cell? ⟨g2, i * 3 + 1, none⟩ = some (.int .i64 l') ∧ w'.cell? ⟨g2, i * 3 + 2, none⟩ = some (.int .i64 i') ∧ Mesh.Two w w' R B3 B4 g1 n c1 g2 nb c2 xs bs)
              ((go_split_ands; refine ⟨?_, ?_, ?_, ?_, ?_, ?_, ?_, ?_, ?_, ?_, ?_⟩ <;> first | assumption | exact hgc.cell (by assumption) (by simp) | exact Mesh.Two.on (by assumption) hgc | exact Mesh.Two.on (by assumption) (Mesh.gr_drew1 (Cell.grown_refl _))))
              (first
                | (go_at_call 38; ((with_reducible refine (Mesh.specCon_is r l z r' l' i' _).mono ?_); rw [HC.out]; rintro e w'' ⟨rfl, hgc⟩)))
            all_goals go_split_ands
            all_goals go_wp2_with fail
            all_goals exact ⟨⟨q + 1, by go_num, Lib.hid (fun j x hx hc => by
              have h1 := HQ.out j x hx hc
              by_cases h2 : q = j
              · subst h2
                rw [HX.out] at hx
                cases hx
                rw [HCC.out] at hc
                cases hc
              · omega), Lib.hid (by assumption)⟩, by simp [intOf]; omega⟩
      · go_upto_region 15 with fail
        go_region_with (first
          | (go_at_call 33; ((with_reducible refine (HB2.out _ g2 c2 (HT.out.r2.on (Mesh.gr_drew1 (Cell.grown_refl _)))).mono ?_); rintro e w3 ⟨v, rfl, ho, hg⟩; obtain ⟨a3, c3, rfl⟩ := Mesh.own_shape ho; have hT := HT.out.on (Cell.grown_trans (Mesh.gr_drew1 (Cell.grown_refl _)) hg); have n40 := hT.m4.c0; have n41 := hT.m4.c1; have HR3 := Lib.hid (Mesh.own_reads ho); have HT3 := Lib.hid hT; clear ho hg hT))
          | (go_at_call 22; ((with_reducible refine (Mesh.same_is R _ _ nb _ _ bs _ HR3.out HT3.out.r2 HN2.out).mono ?_); rintro e w4 ⟨rfl, hg⟩; have HG4 := Lib.hid (Cell.grown_trans HT3.out.gr hg); clear hg)))
        all_goals go_wp2_with fail
        all_goals go_ret
        all_goals exact ⟨rfl, Cell.grown_below HG4.out (Nat.le_refl _)⟩

set_option maxRecDepth 100000 in
theorem lifted (os : Os) (started : os.Started) (H : Type) (enc : TypeId × Value → H) :
    ReturnsInHanded {} Try.checked os 11 .any (Rows.fnBalancedSpec.pre6 enc Try.prog Try.f11 Rows.fnBalancedRow.domain false) (Rows.fnBalancedSpec.post enc Try.prog Try.f11 false true false false) := by
  refine returnsInHanded_of_change (C := Try.checked) own started (by kernel_rfl) Try.func11
    (ChangeSpec.witness6 (enc := enc) (C := Try.checked) false ⟨#[], #[.slice none 0 0], []⟩ 8 (by kernel_rfl) (by kernel_rfl) (by kernel_rfl) (by kernel_rfl)) ?_
  intro W base args ds gs before hval0 hW hcnd _
  have hval : ∀ (j : Nat) t v, Try.f11.params[j]? = some t → args[j]? = some v → Value.okWide Try.prog W .any base t v := hval0
  have hW' := hW
  obtain ⟨p, q, hA0, hV, rfl, hfz, hnd⟩ := hW
  have hA : DataW.TrodAll enc Try.prog W 0 (fun _ => true) true Try.f11.params.toList args.toList ds p := hA0
  rw [Try.params11] at hA hval
  obtain ⟨v0, vs0, d0, ds0, p0, q0, hargs, rfl, rfl, h0, r0⟩ := trodAll_cons hA
  obtain ⟨rfl, rfl, rfl⟩ := trodAll_nil r0
  obtain rfl : args = #[v0] := by cases args; simp_all
  obtain ⟨rfl, rfl⟩ := trodVars_none hV
  obtain ⟨a0, len0, cap0, rfl⟩ := okWide_slice Try.underlying22 (hval 0 22 v0 rfl rfl)
  have k0 := h0
  have lt0 : ∀ x ∈ p0, x.block < W.heap.size := by obtain ⟨m, hm⟩ := k0; exact DataW.trod_lt m _ _ _ hm
  obtain ⟨z0, w0⟩ : ∃ zs, IsRow .u8 W a0 len0 cap0 zs := by
    obtain ⟨fuel, hf⟩ := h0
    rcases open_ints Try.underlying22 Try.underlying5 (by kernel_rfl) hf with ⟨hcs, _⟩ | ⟨x, l, c, zs, hcs, _, hl, hm, hz, _, hcell, hwz⟩
    · simp [Value.cells] at hcs
      obtain ⟨rfl, rfl, rfl⟩ := hcs
      exact ⟨[], .inl ⟨rfl, rfl, rfl, rfl⟩⟩
    · simp [Value.cells] at hcs
      obtain ⟨rfl, rfl, rfl⟩ := hcs
      exact ⟨zs, .inr ⟨_, rfl, hl, hm, by simpa using hz, hcell, hwz⟩⟩
  clear hA0 hval0
  refine (walk a0 len0 cap0 z0 W w0).mono fun e W' ⟨he, bel⟩ => ?_
  subst he
  exact ⟨_, rfl, _, _, _, [], _, [], hW', trodAll_mk1 (shut_bool Try.underlying4 _), (trodAll_cons_mk (Below.trod laidOut (by kernel_rfl) (of_decide_eq_true (by kernel_rfl)) k0 bel lt0) trodAll_mk0), rfl, bel.frame _, fun h => by cases h⟩

theorem over : Rows.fnBalancedRow.holds Try.pinned (OpenSpec.ofChange Rows.fnBalancedSpec) :=
  OpenClaim.holds_of_wide 11 Try.f11 rfl rfl rfl rfl rfl rfl rfl ⟨rfl, rfl, rfl, rfl, rfl⟩ rfl rfl rfl rfl rfl (by kernel_rfl) Try.func11 (by kernel_rfl)
    (of_decide_eq_true (by kernel_rfl)) (by unfold Func.isWrapper; first | (rw [if_pos (by decide +kernel)]; kernel_rfl) | (rw [if_neg (by decide +kernel)]; exact ⟨rfl, rfl⟩))
    (fun os started H enc _ => lifted os started H enc)

theorem proved : Rows.FnBalancedSaid := over
#print axioms proved
end Go.Proofs.Ytmkmlfaekiofcaa.fnBalanced
