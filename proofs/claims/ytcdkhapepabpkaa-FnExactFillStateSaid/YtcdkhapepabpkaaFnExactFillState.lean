/- Proved: for all meshes, beds and ints the law FnExactFillState returns true, that is, the program's FillState answers as the reference model's FillState, in memory of its own.
   Conditions: none besides those that the given row prints. -/
import Derived.Test.YtcdkhapepabpkaaRows
import Derived.WalkKit
import Derived.ProofKit
import Derived.OpenShut
import Derived.ShutString
import Derived.ChangeOld
import Derived.Below
import Derived.ChangeSame
import Derived.Lib.SmallJoins
import Derived.Test.YtcdkhapepabpkaaStBoth
namespace Go.Proofs.Ytcdkhapepabpkaa.fnExactFillState
open Go.ChangeShapes Go.WideShapes Go.ChangeAt Go.RowKit Go.Joins
set_option linter.unusedVariables false
set_option maxRecDepth 100000

theorem own : ownKnob Try.prog.godebug = none := by kernel_rfl
theorem laidOut : laidOutB Try.prog = true := by kernel_rfl
theorem cells44 : Try.prog.cellsOf 44 = 2 := by kernel_rfl

set_option maxHeartbeats 16000000 in
theorem walk (a0_0 : Int) (a0_1 : Option Addr) (n0 c0 : Nat) (xs0 : List Mesh.C3) (a1 : Option Addr) (n1 c1 : Nat) (xs1 : List Int) (a2 : Int) (w2 : (Lit.int .i64 a2).wf = true) (w : World) (hn0 : n0 ≤ maxLen) (hr0 : Mesh.ReadsAt w a0_1 n0 xs0) (hn1 : n1 ≤ maxLen) (hr1 : Ints.ReadsI w a1 n1 xs1) :
    Calls Try.prog 6 #[.agg #[.int .i64 a0_0, .slice a0_1 n0 c0], .slice a1 n1 c1, .int .i64 a2] w fun e w' => e = .returned (.bool true) ∧ Below w.heap.size w w' := by
  have HR0 := Lib.hid hr0
  have HR1 := Lib.hid hr1
  have HM0 := Lib.hid hn0
  have HM1 := Lib.hid hn1
  clear hr0 hr1 hn0 hn1
  by_cases hlen1 : n1 ≤ 1048576
  case neg =>
    have hi : (1048576 : Int) < n1 := by omega
    clear hlen1
    have he := (Law.Held.nil w).box 44 #[.int .i64 a0_0, .slice a0_1 n0 c0]
    try simp only [World.size_alloc] at he
    have HE0 := Lib.hid he; clear he
    go_enter Try.func6, Try.ntmps6
    go_wp2_with fail
    go_ret
    exact ⟨rfl, Cell.grown_below (by first | exact HE0.out.gr | exact Cell.grown_refl _) (Nat.le_refl _)⟩
  case pos =>
    have hi1 : (n1 : Int) ≤ 1048576 := by omega
    obtain ⟨r0, hl0, hs0⟩ := State.szMesh_is a0_0 a0_1 n0 c0 1048576 HM0.out (by omega) (by omega)
    have HS0 := Lib.hid hs0; clear hs0
    rcases hl0 with ⟨hk0, hl0⟩ | rfl
    case inr =>
      have he := (Law.Held.nil w).box 44 #[.int .i64 a0_0, .slice a0_1 n0 c0]
      try simp only [World.size_alloc] at he
      have HE0 := Lib.hid he; clear he
      go_enter Try.func6, Try.ntmps6
      go_upto_region 4 with fail
      generalize w.alloc (.cells #[.int .i64 a0_0, .slice a0_1 n0 c0] 44) = W0 at *
      obtain ⟨p0, p1⟩ := Law.box2 (HE0.out.nth 0 rfl)
      go_wp2_with (go_at_call 23; ((with_reducible refine (HS0.out _).mono ?_); rintro e w1 ⟨rfl, hg⟩; have HE1 := Lib.hid (HE0.out.on hg); clear hg))
      go_ret
      exact ⟨rfl, Cell.grown_below HE1.out.gr (Nat.le_refl _)⟩
    case inl =>
      have Hn0 : Hid (n0 ≤ 1048576) := Lib.hid (by omega)
      have Hn1 : Hid (n1 ≤ 1048576) := Lib.hid (by omega)
      obtain ⟨R9, m1, m2, m3, m4, ys, mr, tr, br, y1, zm1, zm2, zm3, zm4, hS, hI⟩ := State.both_FillState a0_0 n0 xs0 HR0.out.len Hn0.out n1 xs1 HR1.out.len Hn1.out a2 w2
      have Hm1 := Lib.hid zm1
      have Hm2 := Lib.hid zm2
      have Hm3 := Lib.hid zm3
      have Hm4 := Lib.hid zm4
      have in0 : (n0 : Int) ≤ 1048576 := by have := Hn0.out; omega
      have in1 : (n1 : Int) ≤ 1048576 := by have := Hn1.out; omega
      have HSB := Lib.hid hS; have HIB := Lib.hid hI; clear hS hI zm1 zm2 zm3 zm4
      clear hl0
      obtain ⟨k0, ek0⟩ : ∃ s : Nat, s = 1 + 3 * n0 := ⟨_, rfl⟩
      obtain ⟨k1, ek1⟩ : ∃ s : Nat, s = k0 + n1 := ⟨_, rfl⟩
      obtain ⟨kg, ekg⟩ : ∃ s : Nat, s = 1 + 3 * m1 + m2 + m3 + m4 := ⟨_, rfl⟩
      have EK0 := Lib.hid ek0; have pk0 : ¬ (k0 : Int) < 0 := by omega
      have bk0 : Hid (k0 ≤ 549755813888) := Lib.hid (by have := Hn0.out; omega)
      have EK1 := Lib.hid ek1; have pk1 : ¬ (k1 : Int) < 0 := by omega
      have bk1 : Hid (k1 ≤ 549755813888) := Lib.hid (by have := Hn0.out; have := Hn1.out; omega)
      have EKG := Lib.hid ekg; have pkg : ¬ (kg : Int) < 0 := by omega
      clear ek0 ek1 ekg
      have he := (Law.Held.nil w).box 44 #[.int .i64 a0_0, .slice a0_1 n0 c0]
      try simp only [World.size_alloc] at he
      have HE0 := Lib.hid he; clear he
      go_enter Try.func6, Try.ntmps6
      go_upto_region 4 with fail
      generalize w.alloc (.cells #[.int .i64 a0_0, .slice a0_1 n0 c0] 44) = W0 at *
      obtain ⟨p0, p1⟩ := Law.box2 (HE0.out.nth 0 rfl)
      go_upto_region 7 with (go_at_call 23; ((with_reducible refine (HS0.out _).mono ?_); rintro e w1 ⟨rfl, hg⟩; have HE1 := Lib.hid (HE0.out.on hg); clear hg))
      clear p0 p1 HE0 HS0
      obtain ⟨b0_0, b0_1⟩ := Law.box2 (HE1.out.nth 0 rfl)
      go_upto_region 8 with (first | (go_at_call 25; ((with_reducible refine (Mesh.to_own _ _ _ _ xs0 _ (HR0.out.on HE1.out.gr) Hn0.out).mono ?_); rintro e u1 ⟨g1_1, rfl, ho, hg⟩; have HE2 := Lib.hid (HE1.out.row hg ho); clear ho hg)) | (go_at_call 26; ((with_reducible refine (Ints.toI_is _ _ _ xs1 _ (HR1.out.on HE2.out.gr) Hn1.out).mono ?_); rintro e u2 ⟨g2_1, rfl, ho, hg⟩; have HE3 := Lib.hid (HE2.out.row hg ho); clear ho hg)) | (go_at_call 24; ((with_reducible refine (HSB.out _ _ _ _ _ (Mesh.own_reads (HE3.out.nth 1 rfl)) (Ints.own_readsI (HE3.out.nth 2 rfl))).mono ?_); rintro e u3 ⟨q3_1, d3_1, q3_2, d3_2, q3_3, d3_3, q3_4, d3_4, rfl, ho, hg⟩; have HE4 := Lib.hid (State.Held.state HE3.out hg ho); clear ho hg)))
      clear b0_0 b0_1 HE1 HE2 HE3
      have HE5 := Lib.hid (HE4.out.box 31 #[.int .i64 R9, .slice q3_1 m1 d3_1, .slice q3_2 m2 d3_2, .slice q3_3 m3 d3_3, .slice q3_4 m4 d3_4]); clear HE4
      obtain ⟨B4, hB4⟩ : ∃ B, B = u3.heap.size := ⟨_, rfl⟩
      rw [← hB4] at HE5 ⊢
      clear hB4
      generalize u3.alloc (.cells #[.int .i64 R9, .slice q3_1 m1 d3_1, .slice q3_2 m2 d3_2, .slice q3_3 m3 d3_3, .slice q3_4 m4 d3_4] 31) = V4 at *
      obtain ⟨b0_0, b0_1⟩ := Law.box2 (HE5.out.nth 0 rfl)
      go_upto_region 9 with (go_at_call 25; ((with_reducible refine (Mesh.to_own _ _ _ _ xs0 _ (HR0.out.on HE5.out.gr) Hn0.out).mono ?_); rintro e u5 ⟨g5_1, rfl, ho, hg⟩; have HE6 := Lib.hid (HE5.out.row hg ho); clear ho hg))
      clear b0_0 b0_1 HE5
      have HE7 := Lib.hid (HE6.out.box 26 #[.int .i64 a0_0, .slice (some ⟨g5_1, 0, none⟩) n0 n0]); clear HE6
      obtain ⟨B6, hB6⟩ : ∃ B, B = u5.heap.size := ⟨_, rfl⟩
      rw [← hB6] at HE7 ⊢
      clear hB6
      generalize u5.alloc (.cells #[.int .i64 a0_0, .slice (some ⟨g5_1, 0, none⟩) n0 n0] 26) = V6 at *
      go_upto_region 10 with (go_at_call 26; ((with_reducible refine (Ints.toI_is _ _ _ xs1 _ (HR1.out.on HE7.out.gr) Hn1.out).mono ?_); rintro e u7 ⟨g7_1, rfl, ho, hg⟩; have HE8 := Lib.hid (HE7.out.row hg ho); clear ho hg))
      clear HE7
      obtain ⟨x0_0, x0_1⟩ := Law.box2 (HE8.out.nth 6 rfl)
      go_upto_region 11 with (go_at_call 12; ((with_reducible refine (HIB.out _ _ _ _ _ (Mesh.own_reads (HE8.out.nth 5 rfl)) (Ints.own_readsI (HE8.out.nth 7 rfl))).mono ?_); rintro e u8 ⟨q8_1, d8_1, q8_2, d8_2, q8_3, d8_3, q8_4, d8_4, rfl, ho, hg⟩; have HE9 := Lib.hid (State.Held.state HE8.out hg ho); clear ho hg))
      clear x0_0 x0_1 HE8
      have HE10 := Lib.hid (HE9.out.box 31 #[.int .i64 R9, .slice q8_1 m1 d8_1, .slice q8_2 m2 d8_2, .slice q8_3 m3 d8_3, .slice q8_4 m4 d8_4]); clear HE9
      obtain ⟨B9, hB9⟩ : ∃ B, B = u8.heap.size := ⟨_, rfl⟩
      rw [← hB9] at HE10 ⊢
      clear hB9
      generalize u8.alloc (.cells #[.int .i64 R9, .slice q8_1 m1 d8_1, .slice q8_2 m2 d8_2, .slice q8_3 m3 d8_3, .slice q8_4 m4 d8_4] 31) = V9 at *
      obtain ⟨e0, e1, e2, e3, e4⟩ := Law.box5 (HE10.out.nth 9 rfl)
      obtain ⟨f0, f1, f2, f3, f4⟩ := Law.box5 (HE10.out.nth 4 rfl)
      go_upto_region 13 with (go_at_call 22; ((with_reducible refine (State.eqState_is _ _ _ _ _ _ _ _ _ _ _ _ _ _ _ _ _ _ _ _ _ ys mr tr br _ (State.OwnS.reads (HE10.out.nth 8 rfl)) (State.OwnS.reads (HE10.out.nth 3 rfl)) Hm1.out Hm2.out Hm3.out Hm4.out).mono ?_); rintro e u10 ⟨rfl, hg⟩; have HE11 := Lib.hid (HE10.out.on hg); clear hg))
      clear e0 e1 e2 e3 e4 f0 f1 f2 f3 f4 HE10
      go_cut [60] from 56 to 59 (fun v wx => v = .bool false ∧ Hid (Law.Held w wx (Law.gsOf HE11.out)))
      case first =>
        obtain ⟨b0_0, b0_1⟩ := Law.box2 (HE11.out.nth 0 rfl)
        obtain ⟨x0, x1⟩ := Law.box2 (HE11.out.nth 6 rfl)
        go_region_with (first | (go_at_call 25; ((with_reducible refine (Mesh.to_own _ _ _ _ xs0 _ (HR0.out.on (Mesh.gr_drew HE11.out.gr)) Hn0.out).mono ?_); rintro e u11 ⟨z1, rfl, ho, hg⟩; have hE := HE11.out.on (Cell.grown_trans (Mesh.gr_drew (Cell.grown_refl _)) hg); obtain ⟨s0, s1⟩ := Law.box2 (hE.nth 6 rfl); have HRR := Lib.hid (Mesh.own_reads ho); have HEA := Lib.hid hE; clear ho hg hE)) | (go_at_call 27; ((with_reducible refine (Mesh.eq_is _ _ _ _ _ _ _ xs0 _ (Mesh.own_reads (HEA.out.nth 5 rfl)) HRR.out Hn0.out Hn0.out).mono ?_); rintro e u12 ⟨rfl, hg⟩; have HEB := Lib.hid (HEA.out.on hg); clear hg)))
        all_goals
          go_wp2_with fail
          go_meet
          exact ⟨rfl, HEB⟩
      case rest =>
        obtain ⟨rfl, HE12⟩ := hcut
        dsimp only [Law.gsOf] at HE12
        clear HE11
        go_upto_region 18 with (first | (go_at_call 26; ((with_reducible refine (Ints.toI_is _ _ _ xs1 _ (HR1.out.on HE12.out.gr) Hn1.out).mono ?_); rintro e u13 ⟨g13_1, rfl, ho, hg⟩; have HE13 := Lib.hid (HE12.out.row hg ho); clear ho hg)) | (go_at_call 28; ((with_reducible refine (Ints.eqI_is _ _ _ _ _ xs1 _ (Ints.own_readsI (HE13.out.nth 7 rfl)) (Ints.own_readsI (HE13.out.nth 10 rfl)) Hn1.out).mono ?_); rintro e u14 ⟨rfl, hg⟩; have HE14 := Lib.hid (HE13.out.on hg); clear hg)))
        clear HE12 HE13
        obtain ⟨x0, x1⟩ := Law.box2 (HE14.out.nth 6 rfl)
        go_upto_region 19 with (go_at_call 29; ((with_reducible refine (State.markM1 _ Hn0.out (HE14.out.nth 5 rfl)).mono ?_); rw [← EK0.out]; rintro e u15 ⟨rfl, ho, ht⟩; have HE15 := Lib.hid (HE14.out.turn 5 rfl (g' := Law.rowG 36 3 (.slice (some ⟨g5_1, 0, none⟩) n0 n0) n0 (Mesh.flatC (State.marksC 1 n0))) (Law.Turned.of ht) rfl ho); clear ho ht))
        clear x0 x1 HE14
        go_upto_region 20 with (go_at_call 30; ((with_reducible refine (Ints.markI_is Hn1.out (by have := bk0.out; omega) (HE15.out.nth 7 rfl)).mono ?_); rw [← EK1.out]; rintro e u16 ⟨rfl, ho, ht⟩; have HE16 := Lib.hid (HE15.out.turn 7 rfl (g' := Law.rowG 3 1 (.slice (some ⟨g7_1, 0, none⟩) n1 n1) n1 (Ints.vals (Ints.marksI k0 n1))) (Law.Turned.of ht) rfl ho); clear ho ht))
        clear HE15
        obtain ⟨e0, e1, e2, e3, e4⟩ := Law.box5 (HE16.out.nth 9 rfl)
        obtain ⟨f0, f1, f2, f3, f4⟩ := Law.box5 (HE16.out.nth 4 rfl)
        go_upto_region 23 with (go_at_call 22; ((with_reducible refine (State.eqState_is _ _ _ _ _ _ _ _ _ _ _ _ _ _ _ _ _ _ _ _ _ ys mr tr br _ (State.OwnS.reads (HE16.out.nth 8 rfl)) (State.OwnS.reads (HE16.out.nth 3 rfl)) Hm1.out Hm2.out Hm3.out Hm4.out).mono ?_); rintro e u17 ⟨rfl, hg⟩; have HE17 := Lib.hid (HE16.out.on hg); clear hg))
        clear e0 e1 e2 e3 e4 f0 f1 f2 f3 f4 HE16
        obtain ⟨e0, e1, e2, e3, e4⟩ := Law.box5 (HE17.out.nth 9 rfl)
        go_upto_region 25 with (go_at_call 31; ((with_reducible refine (State.markState1 _ Hm1.out Hm2.out Hm3.out Hm4.out (HE17.out.nth 8 rfl)).mono ?_); rw [← EKG.out]; rintro e u18 ⟨rfl, ho, ht⟩; have HE18 := Lib.hid (HE17.out.turn 8 rfl (g' := State.stateG (.slice q8_1 m1 d8_1) (.slice q8_2 m2 d8_2) (.slice q8_3 m3 d8_3) (.slice q8_4 m4 d8_4) m1 m2 m3 m4 (State.marksC 1 m1) (Ints.marksI (1 + 3 * m1) m2) (Ints.marksI (1 + 3 * m1 + m2) m3) (Ints.marksI (1 + 3 * m1 + m2 + m3) m4)) ht rfl ho); clear ho ht))
        clear e0 e1 e2 e3 e4 HE17
        obtain ⟨e0, e1, e2, e3, e4⟩ := Law.box5 (HE18.out.nth 9 rfl)
        go_upto_region 30 with (go_at_call 32; ((with_reducible refine (State.heldState1 _ Hm1.out Hm2.out Hm3.out Hm4.out (State.OwnS.reads (HE18.out.nth 8 rfl))).mono ?_); rw [← EKG.out]; rintro e u19 ⟨rfl, hg⟩; have HE19 := Lib.hid (HE18.out.on hg); clear hg))
        clear e0 e1 e2 e3 e4 HE18
        obtain ⟨b0_0, b0_1⟩ := Law.box2 (HE19.out.nth 0 rfl)
        go_upto_region 31 with (first | (go_at_call 25; ((with_reducible refine (Mesh.to_own _ _ _ _ xs0 _ (HR0.out.on HE19.out.gr) Hn0.out).mono ?_); rintro e u20 ⟨g20_1, rfl, ho, hg⟩; have HE20 := Lib.hid (HE19.out.row hg ho); clear ho hg)) | (go_at_call 26; ((with_reducible refine (Ints.toI_is _ _ _ xs1 _ (HR1.out.on HE20.out.gr) Hn1.out).mono ?_); rintro e u21 ⟨g21_1, rfl, ho, hg⟩; have HE21 := Lib.hid (HE20.out.row hg ho); clear ho hg)) | (go_at_call 12; ((with_reducible refine (HIB.out _ _ _ _ _ (Mesh.own_reads (HE21.out.nth 11 rfl)) (Ints.own_readsI (HE21.out.nth 12 rfl))).mono ?_); rintro e u22 ⟨q22_1, d22_1, q22_2, d22_2, q22_3, d22_3, q22_4, d22_4, rfl, ho, hg⟩; have HE22 := Lib.hid (State.Held.state HE21.out hg ho); clear ho hg)))
        clear b0_0 b0_1 HE19 HE20 HE21
        have HE23 := Lib.hid (HE22.out.box 31 #[.int .i64 R9, .slice q22_1 m1 d22_1, .slice q22_2 m2 d22_2, .slice q22_3 m3 d22_3, .slice q22_4 m4 d22_4]); clear HE22
        obtain ⟨B23, hB23⟩ : ∃ B, B = u22.heap.size := ⟨_, rfl⟩
        rw [← hB23] at HE23 ⊢
        clear hB23
        generalize u22.alloc (.cells #[.int .i64 R9, .slice q22_1 m1 d22_1, .slice q22_2 m2 d22_2, .slice q22_3 m3 d22_3, .slice q22_4 m4 d22_4] 31) = V23 at *
        obtain ⟨e0, e1, e2, e3, e4⟩ := Law.box5 (HE23.out.nth 14 rfl)
        obtain ⟨f0, f1, f2, f3, f4⟩ := Law.box5 (HE23.out.nth 4 rfl)
        go_upto_region 34 with (go_at_call 22; ((with_reducible refine (State.eqState_is _ _ _ _ _ _ _ _ _ _ _ _ _ _ _ _ _ _ _ _ _ ys mr tr br _ (State.OwnS.reads (HE23.out.nth 13 rfl)) (State.OwnS.reads (HE23.out.nth 3 rfl)) Hm1.out Hm2.out Hm3.out Hm4.out).mono ?_); rintro e u24 ⟨rfl, hg⟩; have HE24 := Lib.hid (HE23.out.on hg); clear hg))
        clear e0 e1 e2 e3 e4 f0 f1 f2 f3 f4 HE23
        obtain ⟨e0, e1, e2, e3, e4⟩ := Law.box5 (HE24.out.nth 9 rfl)
        go_wp2_with (go_at_call 32; ((with_reducible refine (State.heldState1 _ Hm1.out Hm2.out Hm3.out Hm4.out (State.OwnS.reads (HE24.out.nth 8 rfl))).mono ?_); rw [← EKG.out]; rintro e u25 ⟨rfl, hg⟩; have HE25 := Lib.hid (HE24.out.on hg); clear hg))
        go_ret
        exact ⟨rfl, Cell.grown_below HE25.out.gr (Nat.le_refl _)⟩

set_option maxRecDepth 100000 in
theorem lifted (os : Os) (started : os.Started) (H : Type) (enc : TypeId × Value → H) :
    ReturnsInHanded {} Try.checked os 6 .any (Rows.fnExactFillStateSpec.pre6 enc Try.prog Try.f6 Rows.fnExactFillStateRow.domain false) (Rows.fnExactFillStateSpec.post enc Try.prog Try.f6 false true false false) := by
  refine returnsInHanded_of_change (C := Try.checked) own started (by kernel_rfl) Try.func6
    (ChangeSpec.witness6 (enc := enc) (C := Try.checked) false ⟨#[], #[.agg #[.int .i64 0, .slice none 0 0], .slice none 0 0, .int .i64 0], []⟩ 8 (by kernel_rfl) (by kernel_rfl) (by kernel_rfl) (by kernel_rfl)) ?_
  intro W base args ds gs before hval0 hW hcnd _
  have hval : ∀ (j : Nat) t v, Try.f6.params[j]? = some t → args[j]? = some v → Value.okWide Try.prog W .any base t v := hval0
  have hW' := hW
  obtain ⟨p, q, hA0, hV, rfl, hfz, hnd⟩ := hW
  have hA : DataW.TrodAll enc Try.prog W 0 (fun _ => true) true Try.f6.params.toList args.toList ds p := hA0
  rw [Try.params6] at hA hval
  obtain ⟨v0, vs0, d0, ds0, p0, q0, hargs, rfl, rfl, h0, r0⟩ := trodAll_cons hA
  obtain ⟨v1, vs1, d1, ds1, p1, q1, rfl, rfl, rfl, h1, r1⟩ := trodAll_cons r0
  obtain ⟨v2, vs2, d2, ds2, p2, q2, rfl, rfl, rfl, h2, r2⟩ := trodAll_cons r1
  obtain ⟨rfl, rfl, rfl⟩ := trodAll_nil r2
  obtain rfl : args = #[v0, v1, v2] := by cases args; simp_all
  obtain ⟨rfl, rfl⟩ := trodVars_none hV
  have lt0 : ∀ x ∈ p0, x.block < W.heap.size := by obtain ⟨m, hm⟩ := h0; exact DataW.trod_lt m _ _ _ hm
  obtain ⟨k0_0, k0_1, y0_0, y0_1, m0, rfl, rfl, rfl, hy0_0, hy0_1⟩ := open_agg2 Try.underlying44 (by kernel_rfl) cells44 (hval 0 44 v0 rfl rfl) h0
  obtain ⟨a0_0, e0_0, rfl, -⟩ := DataW.trod_int Try.underlying3 hy0_0
  simp at e0_0
  subst e0_0
  obtain ⟨a0_1, n0, c0, xs0, rfl, hn0, hr0⟩ := Mesh.open_ids hy0_1
  have lt1 : ∀ x ∈ p1, x.block < W.heap.size := by obtain ⟨m, hm⟩ := h1; exact DataW.trod_lt m _ _ _ hm
  obtain ⟨a1, n1, c1, xs1, rfl, hn1, hr1⟩ := Ints.open_intsV (hval 1 27 v1 rfl rfl) h1
  obtain ⟨a2, rfl, rfl, rfl, w2⟩ := open_int Try.underlying3 (hval 2 3 v2 rfl rfl) h2
  clear hA0 hval0
  simp only [List.append_nil] at hW'
  refine (walk a0_0 a0_1 n0 c0 xs0 a1 n1 c1 xs1 a2 w2 W hn0 hr0 hn1 hr1).mono fun e W' ⟨he, bel⟩ => ?_
  subst he
  exact ⟨_, rfl, _, _, _, [], _, [], hW', (trodAll_cons_mk (shut_bool Try.underlying4 _) trodAll_mk0), (trodAll_cons_mk (Below.trod laidOut (by kernel_rfl) (of_decide_eq_true (by kernel_rfl)) h0 bel lt0) (trodAll_cons_mk (Below.trod laidOut (by kernel_rfl) (of_decide_eq_true (by kernel_rfl)) h1 bel lt1) (trodAll_cons_mk (shut_int Try.underlying3 w2) trodAll_mk0))), rfl, bel.frame _, fun h => by cases h⟩

theorem over : Rows.fnExactFillStateRow.holds Try.pinned (OpenSpec.ofChange Rows.fnExactFillStateSpec) :=
  OpenClaim.holds_of_wide 6 Try.f6 rfl rfl rfl rfl rfl rfl rfl ⟨rfl, rfl, rfl, rfl, rfl⟩ rfl rfl rfl rfl rfl (by kernel_rfl) Try.func6 (by kernel_rfl)
    (of_decide_eq_true (by kernel_rfl)) (by unfold Func.isWrapper; first | (rw [if_pos (by decide +kernel)]; kernel_rfl) | (rw [if_neg (by decide +kernel)]; exact ⟨rfl, rfl⟩))
    (fun os started H enc _ => lifted os started H enc)

theorem proved : Rows.FnExactFillStateSaid := over
#print axioms proved
end Go.Proofs.Ytcdkhapepabpkaa.fnExactFillState
