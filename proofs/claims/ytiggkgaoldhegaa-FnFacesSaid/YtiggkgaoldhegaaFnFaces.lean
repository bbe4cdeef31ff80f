/- Proved: for every slice of bytes the law FnFaces returns true: in the drawn mesh each face has one level, the greater one of its leaves, and the faces of all levels together are all faces.
   Conditions: none besides those that the given row prints. -/
import Derived.Test.YtiggkgaoldhegaaRows
import Derived.WalkKit
import Derived.ProofKit
import Derived.OpenShut
import Derived.ShutString
import Derived.Test.YtiggkgaoldhegaaMFacePure
import Derived.Test.YtiggkgaoldhegaaMDraw
import Derived.ChangeOld
import Derived.Below
namespace Go.Proofs.Ytiggkgaoldhegaa.fnFaces
open Go.ChangeShapes Go.WideShapes Go.ChangeAt Go.RowKit
open Go.ChangeMaps (open_string shut_string)
set_option linter.unusedVariables false

theorem own : ownKnob Try.prog.godebug = none := by kernel_rfl
theorem laidOut : laidOutB Try.prog = true := by kernel_rfl

def IsRow (k : IntKind) (w : World) (a : Option Addr) (len cap : Nat) (zs : List Int) : Prop :=
  (a = none ∧ len = 0 ∧ cap = 0 ∧ zs = []) ∨
  ∃ x, a = some x ∧ len ≤ cap ∧ cap ≤ maxLen ∧ zs.length = cap ∧ (∀ i, i < zs.length → w.cell? (x.add i) = some (.int k (zs.getD i 0))) ∧ ∀ n ∈ zs, (Lit.int k n).wf = true

set_option maxHeartbeats 16000000 in
theorem walk (a0 : Option Addr) (len0 cap0 : Nat) (z0 : List Int) (w : World) (w0 : IsRow .u8 w a0 len0 cap0 z0) :
    Calls Try.prog 4 #[.slice a0 len0 cap0] w fun e w' => e = .returned (.bool true) ∧ Below w.heap.size w w' := by
  have hb := Draw.bytes_of w0
  have HB := Lib.hid hb; clear hb
  clear w0
  by_cases hlen : 1048576 < len0
  · have hd : decide (1048576 < (len0 : Int)) = true := by simp; omega
    go_enter Try.func4, Try.ntmps4
    go_wp2_with fail
    refine Draw.big_any.mono ?_; rintro e w1 ⟨rfl, rfl⟩
    rw [hd]
    go_wp2_with fail
    go_ret
    exact ⟨rfl, Below.refl _ _⟩
  · have hd : decide (1048576 < (len0 : Int)) = false := by simp; omega
    have hlen' : len0 ≤ 1048576 := by omega
    have HLen := Lib.hid hlen'; clear hlen'
    go_enter Try.func4, Try.ntmps4
    go_wp2_with fail
    refine Draw.big_any.mono ?_; rintro e w1 ⟨rfl, rfl⟩
    rw [hd]
    clear hd hlen
    go_wp2_with fail
    refine (Mesh.draw_is HLen.out HB.out).mono ?_; rintro e w1 ⟨R, xs, a1, c1, rfl, h1, h3, hm, ho, hb⟩
    clear HB HLen h1 h3
    obtain ⟨hox, hl1, hl2⟩ := Mesh.mesh_parts hm
    obtain ⟨n, hn⟩ : ∃ n, n = xs.length := ⟨_, rfl⟩
    have hn128 : n ≤ 1048576 := by omega
    have hni : (n : Int) ≤ 128 := by omega
    have hn1 : 1 ≤ (n : Int) := by omega
    rw [← hn] at ho ⊢
    have HE := Lib.hid hn; have HH := Lib.hid hn128; have HMM := Lib.hid hm
    have HCn : Hid (∀ (u : World) (c : Nat) (l : Int), Mesh.Reads u a1 n xs → Calls Try.prog 18 #[.agg #[.int .i64 R, .slice a1 n c], .int .i64 l] u fun e w' => e = .returned (.int .i64 (Mesh.countTo xs l (n - 1))) ∧ u.grownBy w' none) := Lib.hid (fun u c l h => by have q := Mesh.countFaces_is R l a1 n c xs u h HH.out; rw [show Mesh.countOf R xs l = Mesh.countTo xs l (n - 1) by rw [HE.out]; simp [Mesh.countOf, HMM.out]] at q; exact q)
    have HFa : Hid (∀ (u : World) (c : Nat) (i : Int), Mesh.Reads u a1 n xs → Calls Try.prog 19 #[.agg #[.int .i64 R, .slice a1 n c], .int .i64 i] u fun e w' => e = .returned (.int .i64 (Mesh.faceOf R xs i)) ∧ u.grownBy w' none) := Lib.hid (fun u c i h => Mesh.faceLvl_is R i a1 n c xs u h HH.out)
    have HM1 := Lib.hid (Mesh.MBox.new w1 R (.slice a1 n c1))
    have HO1 := Lib.hid (Mesh.own_reads (ho.alloc (.cells #[.int .i64 R, .slice a1 n c1] 26)))
    have HG1 := Lib.hid (Cell.g_alloc (Mesh.below_grown hb) (.cells #[.int .i64 R, .slice a1 n c1] 26))
    have HOX := Lib.hid hox
    clear ho hb hm hox hl1 hl2 hn hn128
    go_wp2_with fail
    go_loopw [4, 5] (fun s l wr => ∃ k : Nat, (k : Int) ≤ 5 ∧ l = .int .i64 k ∧ s = .int .i64 (Mesh.sumTo xs (n - 1) k) ∧ Hid (Mesh.MBox wr w1.heap.size R (.slice a1 n c1)) ∧ Hid (Mesh.Reads wr a1 n xs) ∧ Hid (w.grownBy wr none)) (fun _ l _ => 5 - (intOf l).toNat)
    case atStart => exact ⟨0, by omega, rfl, rfl, HM1, HO1, HG1⟩
    case round =>
      clear HM1 HO1 HG1
      obtain ⟨k, hk, rfl, rfl, HM, HO, HG⟩ := hrel
      have m0 := HM.out.c0
      have m1 := HM.out.c1
      by_cases hlt : (k : Int) ≤ 4
      · have hsb := Mesh.sumTo_le xs (n - 1) k
        have hcb := Mesh.countTo_le xs k (n - 1)
        have hmul : (k : Int) * ((n - 1 : Nat) : Int) ≤ 4 * 128 := Int.mul_le_mul (by omega) (by omega) (by omega) (by omega)
        have HSS := Lib.hid (Mesh.sumTo_succ xs (n - 1) k)
        have s0 := hsb.1
        have s1 : Mesh.sumTo xs (n - 1) k ≤ 512 := by omega
        have s2 := hcb.1
        have s3 : Mesh.countTo xs k (n - 1) ≤ 128 := by omega
        clear hsb hcb hmul
        have HCk := Lib.hid (HCn.out wr c1 k HO.out)
        generalize Mesh.sumTo xs (n - 1) k = s at *
        generalize Mesh.countTo xs k (n - 1) = c at *
        go_wp2_with (go_at_call 18; ((with_reducible refine HCk.out.mono ?_); rintro e w2 ⟨rfl, hg⟩; have HM2 := Lib.hid (HM.out.kept hg (by simp)); have HO2 := Lib.hid (HO.out.on hg); have HG2 := Lib.hid (Cell.grown_trans HG.out hg); clear hg))
        go_roundw
        case rel => exact ⟨k + 1, by omega, by go_num, by rw [HSS.out], HM2, HO2, HG2⟩
        case measure => simp [intOf]; omega
      · obtain rfl : k = 5 := by omega
        have hall := Mesh.faces_all HMM.out
        rw [← HE.out] at hall
        rw [hall]
        clear hall
        go_wp2_with fail
        go_loopw [6] (fun i wy => ∃ j : Nat, (j : Int) + 1 ≤ n ∧ i = .int .i64 j ∧ Hid (Mesh.MBox wy w1.heap.size R (.slice a1 n c1)) ∧ Hid (Mesh.Reads wy a1 n xs) ∧ Hid (w.grownBy wy none)) (fun i _ => n - (intOf i).toNat)
        case atStart => exact ⟨0, by omega, rfl, HM, HO, HG⟩
        case round =>
          clear HM HO HG m0 m1
          obtain ⟨j, hj, rfl, HM, HO, HG⟩ := hrel
          have m0 := HM.out.c0
          have m1 := HM.out.c1
          by_cases hlt1 : (j : Int) + 1 < n
          · obtain ⟨r, l, i, hx⟩ := Mesh.get_of_lt HO.out.len (k := j) (by omega)
            obtain ⟨r', l', i', hy⟩ := Mesh.get_of_lt HO.out.len (k := j + 1) (by omega)
            have HFj := Lib.hid (Mesh.faceOf_in HMM.out hx hy)
            obtain ⟨g, rfl, -, d0, d1, d2⟩ := HO.out.at_ j _ hx
            obtain ⟨g_, hg_, -, f0, f1, f2⟩ := HO.out.at_ (j + 1) _ hy
            cases hg_
            dsimp only at d0 d1 d2 f0 f1 f2
            have ro := HO.out; have rm := HM.out; have rg := HG.out
            clear hx hy d0 d2 f0 f2 HO HM HG
            have k0 : (0 : Int) ≤ (j : Int) := by omega
            have k1 : (j : Int) < (n : Int) := by omega
            have k2 : IntKind.i64.wrap ((j : Int) + 1) = (j : Int) + 1 := IntWalk.i64_in _ (by omega)
            have k3 : (0 : Int) ≤ (j : Int) + 1 := by omega
            have k4 : ((j : Int) + 1).toNat = j + 1 := by omega
            by_cases hll : l < l'
            · have HFv := Lib.hid (HFj.out.trans (show max l l' = l' by omega))
              go_wp2_with fail
              go_region_held3 (fun w' => w'.cell? ⟨g, j * 3 + 1, none⟩ = some (.int .i64 l) ∧ w'.cell? ⟨g, (j + 1) * 3 + 1, none⟩ = some (.int .i64 l') ∧ w'.cell? ⟨w1.heap.size, 0, none⟩ = some (.int .i64 R) ∧ w'.cell? ⟨w1.heap.size, 1, none⟩ = some (.slice (some ⟨g, 0, none⟩) n c1) ∧ Mesh.MBox w' w1.heap.size R (.slice (some ⟨g, 0, none⟩) n c1) ∧ Mesh.Reads w' (some ⟨g, 0, none⟩) n xs ∧ w.grownBy w' none)
                ((go_split_ands; refine ⟨?_, ?_, ?_, ?_, ?_, ?_, ?_⟩ <;> first | assumption | exact hgc.cell (by assumption) (by simp) | exact Mesh.MBox.kept (by assumption) hgc (by simp) | exact Mesh.MBox.kept (by assumption) (Mesh.gr_drew1 (Cell.grown_refl _)) (by simp) | exact Cell.grown_trans (by assumption) hgc | exact Mesh.gr_drew1 (by assumption) | exact Mesh.Reads.on (by assumption) hgc | exact Mesh.Reads.on (by assumption) (Mesh.gr_drew1 (Cell.grown_refl _))))
                (first
                  | (go_at_call 19; ((with_reducible refine (HFa.out _ c1 j (by first | assumption | (go_split_ands; assumption))).mono ?_); rw [HFv.out]; rintro e w'' ⟨rfl, hgc⟩)))
              all_goals go_split_ands
              all_goals go_wp2_with fail
              all_goals exact ⟨⟨j + 1, by omega, by go_num, Lib.hid (by assumption), Lib.hid (by assumption), Lib.hid (by assumption)⟩, by simp [intOf]; omega⟩
            · have HFv := Lib.hid (HFj.out.trans (show max l l' = l by omega))
              go_wp2_with fail
              go_region_held3 (fun w' => w'.cell? ⟨g, j * 3 + 1, none⟩ = some (.int .i64 l) ∧ w'.cell? ⟨g, (j + 1) * 3 + 1, none⟩ = some (.int .i64 l') ∧ w'.cell? ⟨w1.heap.size, 0, none⟩ = some (.int .i64 R) ∧ w'.cell? ⟨w1.heap.size, 1, none⟩ = some (.slice (some ⟨g, 0, none⟩) n c1) ∧ Mesh.MBox w' w1.heap.size R (.slice (some ⟨g, 0, none⟩) n c1) ∧ Mesh.Reads w' (some ⟨g, 0, none⟩) n xs ∧ w.grownBy w' none)
                ((go_split_ands; refine ⟨?_, ?_, ?_, ?_, ?_, ?_, ?_⟩ <;> first | assumption | exact hgc.cell (by assumption) (by simp) | exact Mesh.MBox.kept (by assumption) hgc (by simp) | exact Mesh.MBox.kept (by assumption) (Mesh.gr_drew1 (Cell.grown_refl _)) (by simp) | exact Cell.grown_trans (by assumption) hgc | exact Mesh.gr_drew1 (by assumption) | exact Mesh.Reads.on (by assumption) hgc | exact Mesh.Reads.on (by assumption) (Mesh.gr_drew1 (Cell.grown_refl _))))
                (first
                  | (go_at_call 19; ((with_reducible refine (HFa.out _ c1 j (by first | assumption | (go_split_ands; assumption))).mono ?_); rw [HFv.out]; rintro e w'' ⟨rfl, hgc⟩)))
              all_goals go_split_ands
              all_goals go_wp2_with fail
              all_goals exact ⟨⟨j + 1, by omega, by go_num, Lib.hid (by assumption), Lib.hid (by assumption), Lib.hid (by assumption)⟩, by simp [intOf]; omega⟩
          · have HFo := Lib.hid (show Mesh.faceOf R xs ((n : Int) - 1) = -1 by rw [HE.out]; exact Mesh.faceOf_out)
            go_wp2_with (go_at_call 19; ((with_reducible refine (HFa.out _ c1 _ HO.out).mono ?_); rw [HFo.out]; rintro e w2 ⟨rfl, hg⟩; have HG2 := Lib.hid (Cell.grown_trans HG.out hg); clear hg))
            go_ret
            exact ⟨rfl, Cell.grown_below HG2.out (Nat.le_refl _)⟩

set_option maxRecDepth 100000 in
theorem lifted (os : Os) (started : os.Started) (H : Type) (enc : TypeId × Value → H) :
    ReturnsInHanded {} Try.checked os 4 .any (Rows.fnFacesSpec.pre6 enc Try.prog Try.f4 Rows.fnFacesRow.domain false) (Rows.fnFacesSpec.post enc Try.prog Try.f4 false true false false) := by
  refine returnsInHanded_of_change (C := Try.checked) own started (by kernel_rfl) Try.func4
    (ChangeSpec.witness6 (enc := enc) (C := Try.checked) false ⟨#[], #[.slice none 0 0], []⟩ 8 (by kernel_rfl) (by kernel_rfl) (by kernel_rfl) (by kernel_rfl)) ?_
  intro W base args ds gs before hval0 hW hcnd _
  have hval : ∀ (j : Nat) t v, Try.f4.params[j]? = some t → args[j]? = some v → Value.okWide Try.prog W .any base t v := hval0
  have hW' := hW
  obtain ⟨p, q, hA0, hV, rfl, hfz, hnd⟩ := hW
  have hA : DataW.TrodAll enc Try.prog W 0 (fun _ => true) true Try.f4.params.toList args.toList ds p := hA0
  rw [Try.params4] at hA hval
  obtain ⟨v0, vs0, d0, ds0, p0, q0, hargs, rfl, rfl, h0, r0⟩ := trodAll_cons hA
  obtain ⟨rfl, rfl, rfl⟩ := trodAll_nil r0
  obtain rfl : args = #[v0] := by cases args; simp_all
  obtain ⟨rfl, rfl⟩ := trodVars_none hV
  obtain ⟨a0, len0, cap0, rfl⟩ := okWide_slice Try.underlying22 (hval 0 22 v0 rfl rfl)
  have k0 := h0
  have lt0 : ∀ x ∈ p0, x.block < W.heap.size := by obtain ⟨m, hm⟩ := k0; exact DataW.trod_lt m _ _ _ hm
  obtain ⟨z0, w0⟩ : ∃ zs, IsRow .u8 W a0 len0 cap0 zs := by
    obtain ⟨fuel, hf⟩ := h0
    rcases open_ints Try.underlying22 Try.underlying5 (by kernel_rfl) hf with ⟨hcs, _⟩ | ⟨x, l, c, zs, hcs, _, hl, hm, hz, _, hcell, hwz⟩
    · simp [Value.cells] at hcs
      obtain ⟨rfl, rfl, rfl⟩ := hcs
      exact ⟨[], .inl ⟨rfl, rfl, rfl, rfl⟩⟩
    · simp [Value.cells] at hcs
      obtain ⟨rfl, rfl, rfl⟩ := hcs
      exact ⟨zs, .inr ⟨_, rfl, hl, hm, by simpa using hz, hcell, hwz⟩⟩
  clear hA0 hval0
  refine (walk a0 len0 cap0 z0 W w0).mono fun e W' ⟨he, bel⟩ => ?_
  subst he
  exact ⟨_, rfl, _, _, _, [], _, [], hW', trodAll_mk1 (shut_bool Try.underlying4 _), (trodAll_cons_mk (Below.trod laidOut (by kernel_rfl) (of_decide_eq_true (by kernel_rfl)) k0 bel lt0) trodAll_mk0), rfl, bel.frame _, fun h => by cases h⟩

theorem over : Rows.fnFacesRow.holds Try.pinned (OpenSpec.ofChange Rows.fnFacesSpec) :=
  OpenClaim.holds_of_wide 4 Try.f4 rfl rfl rfl rfl rfl rfl rfl ⟨rfl, rfl, rfl, rfl, rfl⟩ rfl rfl rfl rfl rfl (by kernel_rfl) Try.func4 (by kernel_rfl)
    (of_decide_eq_true (by kernel_rfl)) (by unfold Func.isWrapper; first | (rw [if_pos (by decide +kernel)]; kernel_rfl) | (rw [if_neg (by decide +kernel)]; exact ⟨rfl, rfl⟩))
    (fun os started H enc _ => lifted os started H enc)

theorem proved : Rows.FnFacesSaid := over
#print axioms proved
end Go.Proofs.Ytiggkgaoldhegaa.fnFaces
