/- Proved: for all strings the law FnExactParseMesh returns true, that is, the program's ParseMesh answers as the reference model's ParseMesh, in memory of its own.
   Conditions: none besides those that the given row prints. -/
import Derived.Test.YtjhfjceieaanhaaRows
import Derived.WalkKit
import Derived.ProofKit
import Derived.OpenShut
import Derived.ShutString
import Derived.Test.YtjhfjceieaanhaaMParseSI
import Derived.Test.YtjhfjceieaanhaaMAns
import Derived.Test.YtjhfjceieaanhaaMFmtPure
import Derived.ChangeOld
import Derived.Below
namespace Go.Proofs.Ytjhfjceieaanhaa.fnExactParseMesh
open Go.ChangeShapes Go.WideShapes Go.ChangeAt Go.RowKit
open Go.ChangeMaps (open_string shut_string)
set_option linter.unusedVariables false

theorem own : ownKnob Try.prog.godebug = none := by kernel_rfl

set_option maxHeartbeats 4000000 in
theorem walk (a0 : ByteArray) (w0 : a0.size ≤ maxLen) (w : World) :
    Calls Try.prog 11 #[.string a0] w fun e w' => e = .returned (.bool true) ∧ Below w.heap.size w w' := by
  clear w0
  by_cases hbig : 1048576 < a0.size
  · have hb : (1048576 : Int) < (a0.size : Int) := by omega
    clear hbig
    go_enter Try.func11, Try.ntmps11
    go_wp2_with fail
    go_ret
    exact ⟨rfl, Below.refl _ _⟩
  have hb : ¬ (1048576 : Int) < (a0.size : Int) := by omega
  obtain ⟨Rn, xs, bb, hln, hs, hi⟩ : ∃ (Rn : Int) (xs : List Mesh.C3) (bb : Bool), xs.length ≤ 1048576 ∧ (∀ u, Calls Try.prog 36 #[.string a0] u (Mesh.Answer Rn xs bb u)) ∧ ∀ u, Calls Try.prog 20 #[.string a0] u (Mesh.Answer Rn xs bb u) := by
    refine ⟨Mesh.pR a0.data.toList, Mesh.pC a0.data.toList, Mesh.pOk a0.data.toList, ?_, fun u => Mesh.specParse_is a0 u, fun u => Mesh.parse_is a0 u⟩
    have h1 : (Mesh.pC a0.data.toList).length ≤ a0.data.toList.length := by
      unfold Mesh.pC
      split
      · exact Mesh.iSt_len _
      · simp
    have h2 : a0.data.toList.length = a0.size := by simp
    omega
  clear hbig
  have HL := Lib.hid hln; clear hln
  have HS := Lib.hid hs; clear hs
  have HI := Lib.hid hi; have HJ := Lib.hid hi; clear hi
  obtain ⟨n, hn⟩ : ∃ n, n = xs.length := ⟨_, rfl⟩
  have hpos : ¬ ((1 + 3 * n : Nat) : Int) < 0 := by omega
  have HE := Lib.hid hn; clear hn
  go_enter Try.func11, Try.ntmps11
  go_wp2_with (first
    | (go_at_call 36; (with_reducible refine (HS.out _).mono ?_); clear HS; rintro e u1 ⟨p1, q1, rfl, ho, hg⟩; rw [← HE.out] at ho ⊢; have HO1 := Lib.hid ho; have HG1 := Lib.hid hg; clear ho hg)
    | (go_at_call 20; (with_reducible refine (HI.out _).mono ?_); clear HI; rintro e u2 ⟨p2, q2, rfl, ho, hg⟩; rw [← HE.out] at ho ⊢; have hm := ((Mesh.MBox.new u1 Rn (.slice p1 n q1)).kept hg (by simp)).alloc (.cells #[.int .i64 Rn, .slice p2 n q2] 26); have hk := Mesh.MBox.new u2 Rn (.slice p2 n q2); have g0 := hm.c0; have g1 := hm.c1; have k0 := hk.c0; have k1 := hk.c1; have HM := Lib.hid hm; have HK := Lib.hid hk; have HO2 := Lib.hid (ho.alloc (.cells #[.int .i64 Rn, .slice p2 n q2] 26)); have HP1 := Lib.hid ((HO1.out.kept (Cell.grown_trans (World.grownBy_alloc _ _ _) hg) (by cases (Value.slice p1 n q1).ownBlock <;> simp)).alloc (.cells #[.int .i64 Rn, .slice p2 n q2] 26)); have HZ := Lib.hid (Mesh.apart HO1.out ho (by simp)); have HG2 := Lib.hid (Cell.g_alloc (Cell.grown_trans (Cell.g_alloc HG1.out _) hg) (.cells #[.int .i64 Rn, .slice p2 n q2] 26)); clear ho hg hm hk)
    | (go_at_call 25; (with_reducible refine (Mesh.eq_is Rn p2 p1 n n q2 q1 xs _ (Mesh.own_reads HO2.out) (Mesh.own_reads HP1.out) (HE.out ▸ HL.out) (HE.out ▸ HL.out)).mono ?_); rintro e u3 ⟨rfl, hg⟩; have hm := HM.out.kept hg (by simp); have hk := HK.out.kept hg (by simp); have g30 := hm.c0; have g31 := hm.c1; have k30 := hk.c0; have k31 := hk.c1; have HM3 := Lib.hid hm; have HK3 := Lib.hid hk; have HO3 := Lib.hid (Mesh.own_on HO2.out hg); have HP3 := Lib.hid (Mesh.own_on HP1.out hg); have HG3 := Lib.hid (Cell.grown_trans HG2.out hg); clear hg hm hk)
    | (go_at_call 26; (with_reducible refine (Mesh.mark_is Rn (HE.out ▸ HL.out) HO3.out).mono ?_); rintro e u4 ⟨rfl, ho, hg⟩; have hm := HM3.out.kept hg (Mesh.MBox.not_row HM3.out HO3.out); have hk := HK3.out.kept hg (Mesh.MBox.not_row HK3.out HO3.out); have g40 := hm.c0; have g41 := hm.c1; have k40 := hk.c0; have k41 := hk.c1; have HM4 := Lib.hid hm; have HK4 := Lib.hid hk; have HO4 := Lib.hid ho; have HP4 := Lib.hid (HP3.out.kept hg HZ.out); have HG4 := Lib.hid (Mesh.g_row HG3.out hg (fun j hj => by have h1 := (HO3.out.lt j hj).1; have h2 := HG1.out.size; simp at h1; omega)); clear ho hg hm hk)
    | (go_at_call 27; (with_reducible refine (Mesh.held_is Rn (HE.out ▸ HL.out) (Mesh.own_reads HO4.out)).mono ?_); rintro e u5 ⟨rfl, hg⟩; have hm := HM4.out.kept hg (by simp); have HM5 := Lib.hid hm; have HK5 := Lib.hid (HK4.out.kept hg (by simp)); have HO5 := Lib.hid (Mesh.own_on HO4.out hg); have HP5 := Lib.hid (Mesh.own_on HP4.out hg); have HG5 := Lib.hid (Cell.grown_trans HG4.out hg); clear HO4 HM4 hg hm)
    | (go_at_call 20; (with_reducible refine (HJ.out _).mono ?_); clear HJ; rintro e u6 ⟨p6, q6, rfl, ho, hg⟩; rw [← HE.out] at ho ⊢; have hm := (HM5.out.kept hg (by simp)).alloc (.cells #[.int .i64 Rn, .slice p6 n q6] 26); have hk := (HK5.out.kept hg (by simp)).alloc (.cells #[.int .i64 Rn, .slice p6 n q6] 26); have hj := Mesh.MBox.new u6 Rn (.slice p6 n q6); have g60 := hm.c0; have g61 := hm.c1; have j60 := hj.c0; have j61 := hj.c1; have HK6 := Lib.hid hk; have HR6 := Lib.hid (ho.alloc (.cells #[.int .i64 Rn, .slice p6 n q6] 26)); have HO6 := Lib.hid ((Mesh.own_on HO5.out hg).alloc (.cells #[.int .i64 Rn, .slice p6 n q6] 26)); have HP6 := Lib.hid ((Mesh.own_on HP5.out hg).alloc (.cells #[.int .i64 Rn, .slice p6 n q6] 26)); have HG6 := Lib.hid (Cell.g_alloc (Cell.grown_trans HG5.out hg) (.cells #[.int .i64 Rn, .slice p6 n q6] 26)); clear ho hg hm hk hj)
    | (go_at_call 25; (with_reducible refine (Mesh.eq_is Rn p6 p1 n n q6 q1 xs _ (Mesh.own_reads HR6.out) (Mesh.own_reads HP6.out) (HE.out ▸ HL.out) (HE.out ▸ HL.out)).mono ?_); rintro e u7 ⟨rfl, hg⟩; have hk := HK6.out.kept hg (by simp); have k70 := hk.c0; have k71 := hk.c1; have HO7 := Lib.hid (Mesh.own_on HO6.out hg); have HG7 := Lib.hid (Cell.grown_trans HG6.out hg); clear hg hk)
    | (go_at_call 27; (with_reducible refine (Mesh.held_is Rn (HE.out ▸ HL.out) (Mesh.own_reads HO7.out)).mono ?_); rintro e u8 ⟨rfl, hg⟩; have HG8 := Lib.hid (Cell.grown_trans HG7.out hg); clear HO7 hg))
  go_ret
  exact ⟨rfl, Cell.grown_below HG8.out (Nat.le_refl _)⟩

set_option maxRecDepth 100000 in
theorem lifted (os : Os) (started : os.Started) (H : Type) (enc : TypeId × Value → H) :
    ReturnsInHanded {} Try.checked os 11 .any (Rows.fnExactParseMeshSpec.pre6 enc Try.prog Try.f11 Rows.fnExactParseMeshRow.domain false) (Rows.fnExactParseMeshSpec.post enc Try.prog Try.f11 false true false false) := by
  refine returnsInHanded_of_change (C := Try.checked) own started (by kernel_rfl) Try.func11
    (ChangeSpec.witness6 (enc := enc) (C := Try.checked) false ⟨#[], #[.string ByteArray.empty], []⟩ 8 (by kernel_rfl) (by kernel_rfl) (by kernel_rfl) (by kernel_rfl)) ?_
  intro W base args ds gs before hval0 hW hcnd _
  have hval : ∀ (j : Nat) t v, Try.f11.params[j]? = some t → args[j]? = some v → Value.okWide Try.prog W .any base t v := hval0
  have hW' := hW
  obtain ⟨p, q, hA0, hV, rfl, hfz, hnd⟩ := hW
  have hA : DataW.TrodAll enc Try.prog W 0 (fun _ => true) true Try.f11.params.toList args.toList ds p := hA0
  rw [Try.params11] at hA hval
  obtain ⟨v0, vs0, d0, ds0, p0, q0, hargs, rfl, rfl, h0, r0⟩ := trodAll_cons hA
  obtain ⟨rfl, rfl, rfl⟩ := trodAll_nil r0
  obtain rfl : args = #[v0] := by cases args; simp_all
  obtain ⟨rfl, rfl⟩ := trodVars_none hV
  obtain ⟨a0, rfl, rfl, rfl, w0⟩ := open_string Try.underlying9 (hval 0 9 v0 rfl rfl) h0
  clear hA0 hval0
  simp only [List.append_nil] at hW'
  refine (walk a0 w0 W).mono fun e W' ⟨he, bel⟩ => ?_
  subst he
  exact ⟨_, rfl, _, _, _, [], [], [], hW', (trodAll_cons_mk (shut_bool Try.underlying4 _) trodAll_mk0), (trodAll_cons_mk (shut_string Try.underlying9 w0) trodAll_mk0), rfl, bel.frame _, fun h => by cases h⟩

theorem over : Rows.fnExactParseMeshRow.holds Try.pinned (OpenSpec.ofChange Rows.fnExactParseMeshSpec) :=
  OpenClaim.holds_of_wide 11 Try.f11 rfl rfl rfl rfl rfl rfl rfl ⟨rfl, rfl, rfl, rfl, rfl⟩ rfl rfl rfl rfl rfl (by kernel_rfl) Try.func11 (by kernel_rfl)
    (of_decide_eq_true (by kernel_rfl)) (by unfold Func.isWrapper; first | (rw [if_pos (by decide +kernel)]; kernel_rfl) | (rw [if_neg (by decide +kernel)]; exact ⟨rfl, rfl⟩))
    (fun os started H enc _ => lifted os started H enc)

theorem proved : Rows.FnExactParseMeshSaid :=
  over
#print axioms proved
end Go.Proofs.Ytjhfjceieaanhaa.fnExactParseMesh
