/- Proved: for all arguments the law FnExactSavedBy returns true, that is, the program's SavedBy answers as the reference model's SavedBy, and writes into no argument.
   Conditions: none besides those that the given row prints. -/
import Derived.Test.YtaccigmkddomaaaRows
import Derived.WalkKit
import Derived.ProofKit
import Derived.OpenShut
import Derived.ShutString
import Derived.ChangeOld
import Derived.Below
import Derived.ChangeSame
import Derived.Lib.SmallJoins
import Derived.Test.YtaccigmkddomaaaStCriB
import Derived.Test.YtaccigmkddomaaaStLaw
namespace Go.Proofs.Ytaccigmkddomaaa.fnExactSavedBy
open Go.ChangeShapes Go.WideShapes Go.ChangeAt Go.RowKit Go.Joins
set_option linter.unusedVariables false
set_option maxRecDepth 100000

theorem own : ownKnob Try.prog.godebug = none := by kernel_rfl
theorem laidOut : laidOutB Try.prog = true := by kernel_rfl
theorem cells45 : Try.prog.cellsOf 45 = 2 := by kernel_rfl

set_option maxHeartbeats 16000000 in
theorem walk (a0_0 : Int) (a0_1 : Option Addr) (n0 c0 : Nat) (xs0 : List Mesh.C3) (w : World) (hn0 : n0 ≤ maxLen) (hr0 : Mesh.ReadsAt w a0_1 n0 xs0) :
    Calls Try.prog 9 #[.agg #[.int .i64 a0_0, .slice a0_1 n0 c0]] w fun e w' => e = .returned (.bool true) ∧ Below w.heap.size w w' := by
  have HR0 := Lib.hid hr0
  have HM0 := Lib.hid hn0
  clear hr0 hn0
  obtain ⟨r0, hl0, hs0⟩ := State.szMesh_is a0_0 a0_1 n0 c0 1048576 HM0.out (by omega) (by omega)
  have HS0 := Lib.hid hs0; clear hs0
  rcases hl0 with ⟨hk0, hl0⟩ | rfl
  case inr =>
    have he := (Law.Held.nil w).box 45 #[.int .i64 a0_0, .slice a0_1 n0 c0]
    try simp only [World.size_alloc] at he
    have HE0 := Lib.hid he; clear he
    go_enter Try.func9, Try.ntmps9
    go_upto_region 2 with fail
    generalize w.alloc (.cells #[.int .i64 a0_0, .slice a0_1 n0 c0] 45) = W0 at *
    obtain ⟨p0, p1⟩ := Law.box2 (HE0.out.nth 0 rfl)
    go_wp2_with (go_at_call 32; ((with_reducible refine (HS0.out _).mono ?_); rintro e w1 ⟨rfl, hg⟩; have HE1 := Lib.hid (HE0.out.on hg); clear hg))
    go_ret
    exact ⟨rfl, Cell.grown_below HE1.out.gr (Nat.le_refl _)⟩
  case inl =>
    have Hn0 : Hid (n0 ≤ 1048576) := Lib.hid (by omega)
    obtain ⟨y0, hS, hI⟩ := State.both_SavedBy a0_0 n0 xs0 HR0.out.len Hn0.out
    have in0 : (n0 : Int) ≤ 1048576 := by have := Hn0.out; omega
    have HSB := Lib.hid hS; have HIB := Lib.hid hI; clear hS hI
    clear hl0
    have he := (Law.Held.nil w).box 45 #[.int .i64 a0_0, .slice a0_1 n0 c0]
    try simp only [World.size_alloc] at he
    have HE0 := Lib.hid he; clear he
    go_enter Try.func9, Try.ntmps9
    go_upto_region 2 with fail
    generalize w.alloc (.cells #[.int .i64 a0_0, .slice a0_1 n0 c0] 45) = W0 at *
    obtain ⟨p0, p1⟩ := Law.box2 (HE0.out.nth 0 rfl)
    go_upto_region 5 with (go_at_call 32; ((with_reducible refine (HS0.out _).mono ?_); rintro e w1 ⟨rfl, hg⟩; have HE1 := Lib.hid (HE0.out.on hg); clear hg))
    clear p0 p1 HE0 HS0
    obtain ⟨b0_0, b0_1⟩ := Law.box2 (HE1.out.nth 0 rfl)
    go_upto_region 6 with (first | (go_at_call 34; ((with_reducible refine (Mesh.to_own _ _ _ _ xs0 _ (HR0.out.on HE1.out.gr) Hn0.out).mono ?_); rintro e u1 ⟨g1_1, rfl, ho, hg⟩; have HE2 := Lib.hid (HE1.out.row hg ho); clear ho hg)) | (go_at_call 36; ((with_reducible refine (HSB.out _ _ _ (Mesh.own_reads (HE2.out.nth 1 rfl))).mono ?_); rintro e u2 ⟨rfl, hg⟩; have HE3 := Lib.hid (HE2.out.on hg); clear hg)))
    clear b0_0 b0_1 HE1 HE2
    obtain ⟨b0_0, b0_1⟩ := Law.box2 (HE3.out.nth 0 rfl)
    go_upto_region 7 with (go_at_call 34; ((with_reducible refine (Mesh.to_own _ _ _ _ xs0 _ (HR0.out.on HE3.out.gr) Hn0.out).mono ?_); rintro e u3 ⟨g3_1, rfl, ho, hg⟩; have HE4 := Lib.hid (HE3.out.row hg ho); clear ho hg))
    clear b0_0 b0_1 HE3
    have HE5 := Lib.hid (HE4.out.box 26 #[.int .i64 a0_0, .slice (some ⟨g3_1, 0, none⟩) n0 n0]); clear HE4
    obtain ⟨B4, hB4⟩ : ∃ B, B = u3.heap.size := ⟨_, rfl⟩
    rw [← hB4] at HE5 ⊢
    clear hB4
    generalize u3.alloc (.cells #[.int .i64 a0_0, .slice (some ⟨g3_1, 0, none⟩) n0 n0] 26) = V4 at *
    obtain ⟨x0_0, x0_1⟩ := Law.box2 (HE5.out.nth 3 rfl)
    go_upto_region 10 with (go_at_call 20; ((with_reducible refine (HIB.out _ _ _ (Mesh.own_reads (HE5.out.nth 2 rfl))).mono ?_); rintro e u5 ⟨rfl, hg⟩; have HE6 := Lib.hid (HE5.out.on hg); clear hg))
    clear x0_0 x0_1 HE5
    go_cut [26] from 22 to 25 (fun v wx => v = .bool false ∧ Hid (Law.Held w wx (Law.gsOf HE6.out)))
    case first =>
      obtain ⟨b0_0, b0_1⟩ := Law.box2 (HE6.out.nth 0 rfl)
      obtain ⟨x0, x1⟩ := Law.box2 (HE6.out.nth 3 rfl)
      go_region_with (first | (go_at_call 34; ((with_reducible refine (Mesh.to_own _ _ _ _ xs0 _ (HR0.out.on (Mesh.gr_drew HE6.out.gr)) Hn0.out).mono ?_); rintro e u6 ⟨z1, rfl, ho, hg⟩; have hE := HE6.out.on (Cell.grown_trans (Mesh.gr_drew (Cell.grown_refl _)) hg); obtain ⟨s0, s1⟩ := Law.box2 (hE.nth 3 rfl); have HRR := Lib.hid (Mesh.own_reads ho); have HEA := Lib.hid hE; clear ho hg hE)) | (go_at_call 35; ((with_reducible refine (Mesh.eq_is _ _ _ _ _ _ _ xs0 _ (Mesh.own_reads (HEA.out.nth 2 rfl)) HRR.out Hn0.out Hn0.out).mono ?_); rintro e u7 ⟨rfl, hg⟩; have HEB := Lib.hid (HEA.out.on hg); clear hg)))
      all_goals
        go_wp2_with fail
        go_meet
        exact ⟨rfl, HEB⟩
    case rest =>
      obtain ⟨rfl, HE7⟩ := hcut
      dsimp only [Law.gsOf] at HE7
      clear HE6
      go_wp2_with fail
      go_ret
      exact ⟨rfl, Cell.grown_below HE7.out.gr (Nat.le_refl _)⟩

set_option maxRecDepth 100000 in
theorem lifted (os : Os) (started : os.Started) (H : Type) (enc : TypeId × Value → H) :
    ReturnsInHanded {} Try.checked os 9 .any (Rows.fnExactSavedBySpec.pre6 enc Try.prog Try.f9 Rows.fnExactSavedByRow.domain false) (Rows.fnExactSavedBySpec.post enc Try.prog Try.f9 false true false false) := by
  refine returnsInHanded_of_change (C := Try.checked) own started (by kernel_rfl) Try.func9
    (ChangeSpec.witness6 (enc := enc) (C := Try.checked) false ⟨#[], #[.agg #[.int .i64 0, .slice none 0 0]], []⟩ 8 (by kernel_rfl) (by kernel_rfl) (by kernel_rfl) (by kernel_rfl)) ?_
  intro W base args ds gs before hval0 hW hcnd _
  have hval : ∀ (j : Nat) t v, Try.f9.params[j]? = some t → args[j]? = some v → Value.okWide Try.prog W .any base t v := hval0
  have hW' := hW
  obtain ⟨p, q, hA0, hV, rfl, hfz, hnd⟩ := hW
  have hA : DataW.TrodAll enc Try.prog W 0 (fun _ => true) true Try.f9.params.toList args.toList ds p := hA0
  rw [Try.params9] at hA hval
  obtain ⟨v0, vs0, d0, ds0, p0, q0, hargs, rfl, rfl, h0, r0⟩ := trodAll_cons hA
  obtain ⟨rfl, rfl, rfl⟩ := trodAll_nil r0
  obtain rfl : args = #[v0] := by cases args; simp_all
  obtain ⟨rfl, rfl⟩ := trodVars_none hV
  have lt0 : ∀ x ∈ p0, x.block < W.heap.size := by obtain ⟨m, hm⟩ := h0; exact DataW.trod_lt m _ _ _ hm
  obtain ⟨k0_0, k0_1, y0_0, y0_1, m0, rfl, rfl, rfl, hy0_0, hy0_1⟩ := open_agg2 Try.underlying45 (by kernel_rfl) cells45 (hval 0 45 v0 rfl rfl) h0
  obtain ⟨a0_0, e0_0, rfl, -⟩ := DataW.trod_int Try.underlying3 hy0_0
  simp at e0_0
  subst e0_0
  obtain ⟨a0_1, n0, c0, xs0, rfl, hn0, hr0⟩ := Mesh.open_ids hy0_1
  clear hA0 hval0
  simp only [List.append_nil] at hW'
  refine (walk a0_0 a0_1 n0 c0 xs0 W hn0 hr0).mono fun e W' ⟨he, bel⟩ => ?_
  subst he
  exact ⟨_, rfl, _, _, _, [], _, [], hW', (trodAll_cons_mk (shut_bool Try.underlying4 _) trodAll_mk0), (trodAll_cons_mk (Below.trod laidOut (by kernel_rfl) (of_decide_eq_true (by kernel_rfl)) h0 bel lt0) trodAll_mk0), rfl, bel.frame _, fun h => by cases h⟩

theorem over : Rows.fnExactSavedByRow.holds Try.pinned (OpenSpec.ofChange Rows.fnExactSavedBySpec) :=
  OpenClaim.holds_of_wide 9 Try.f9 rfl rfl rfl rfl rfl rfl rfl ⟨rfl, rfl, rfl, rfl, rfl⟩ rfl rfl rfl rfl rfl (by kernel_rfl) Try.func9 (by kernel_rfl)
    (of_decide_eq_true (by kernel_rfl)) (by unfold Func.isWrapper; first | (rw [if_pos (by decide +kernel)]; kernel_rfl) | (rw [if_neg (by decide +kernel)]; exact ⟨rfl, rfl⟩))
    (fun os started H enc _ => lifted os started H enc)

theorem proved : Rows.FnExactSavedBySaid := over
#print axioms proved
end Go.Proofs.Ytaccigmkddomaaa.fnExactSavedBy
