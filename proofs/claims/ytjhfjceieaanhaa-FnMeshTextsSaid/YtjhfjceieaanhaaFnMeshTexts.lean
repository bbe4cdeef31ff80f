/- Proved: for every slice of bytes the law FnMeshTexts returns true: the drawn mesh can be parsed from its text, and the text with one digit more is none.
   Conditions: none besides those that the given row prints. -/
import Derived.Test.YtjhfjceieaanhaaRows
import Derived.WalkKit
import Derived.ProofKit
import Derived.OpenShut
import Derived.ShutString
import Derived.Test.YtjhfjceieaanhaaMTextPure
import Derived.Test.YtjhfjceieaanhaaMSame
import Derived.Test.YtjhfjceieaanhaaMDraw
import Derived.Test.YtjhfjceieaanhaaMParseI
import Derived.Test.YtjhfjceieaanhaaMLeaf
import Derived.Test.YtjhfjceieaanhaaMFmtPure
import Derived.ChangeOld
import Derived.Below
namespace Go.Proofs.Ytjhfjceieaanhaa.fnMeshTexts
open Go.ChangeShapes Go.WideShapes Go.ChangeAt Go.RowKit
open Go.ChangeMaps (open_string shut_string)
set_option linter.unusedVariables false

theorem own : ownKnob Try.prog.godebug = none := by kernel_rfl
theorem laidOut : laidOutB Try.prog = true := by kernel_rfl

def IsRow (k : IntKind) (w : World) (a : Option Addr) (len cap : Nat) (zs : List Int) : Prop :=
  (a = none ∧ len = 0 ∧ cap = 0 ∧ zs = []) ∨
  ∃ x, a = some x ∧ len ≤ cap ∧ cap ≤ maxLen ∧ zs.length = cap ∧ (∀ i, i < zs.length → w.cell? (x.add i) = some (.int k (zs.getD i 0))) ∧ ∀ n ∈ zs, (Lit.int k n).wf = true

set_option maxHeartbeats 16000000 in
theorem walk (a0 : Option Addr) (len0 cap0 : Nat) (z0 : List Int) (w : World) (w0 : IsRow .u8 w a0 len0 cap0 z0) :
    Calls Try.prog 4 #[.slice a0 len0 cap0] w fun e w' => e = .returned (.bool true) ∧ Below w.heap.size w w' := by
  have hb := Draw.bytes_of w0
  have HB := Lib.hid hb; clear hb
  clear w0
  by_cases hlen : 1048576 < len0
  · have hd : decide (1048576 < (len0 : Int)) = true := by simp; omega
    go_enter Try.func4, Try.ntmps4
    go_wp2_with fail
    refine Draw.big_any.mono ?_; rintro e w1 ⟨rfl, rfl⟩
    rw [hd]
    go_wp2_with fail
    go_ret
    exact ⟨rfl, Below.refl _ _⟩
  · have hd : decide (1048576 < (len0 : Int)) = false := by simp; omega
    have hlen' : len0 ≤ 1048576 := by omega
    have HLen := Lib.hid hlen'; clear hlen'
    go_enter Try.func4, Try.ntmps4
    go_wp2_with fail
    refine Draw.big_any.mono ?_; rintro e w1 ⟨rfl, rfl⟩
    rw [hd]
    clear hd hlen
    go_wp2_with fail
    refine (Mesh.draw_is HLen.out HB.out).mono ?_; rintro e w1 ⟨R, xs, a1, c1, rfl, h1, h3, hm, ho, hb⟩
    clear HB HLen
    obtain ⟨hxl, -⟩ := Mesh.ok_mesh hm
    obtain ⟨F, hF⟩ : ∃ F : ByteArray, F = ⟨(Mesh.fmtOf R xs).toArray⟩ := ⟨_, rfl⟩
    have hFd : F.data.toList = Mesh.fmtOf R xs := by rw [hF]
    have hFl : F.size = (Mesh.fmtOf R xs).length := by rw [← hFd]; simp
    obtain ⟨n, hn⟩ : ∃ n, n = xs.length := ⟨_, rfl⟩
    obtain ⟨-, -, q3, q4, -⟩ := Mesh.parse_fmt hm
    have q5 := Mesh.fmt_len hm
    have hFs : (F.size : Int) = (n : Int) + R - 1 := by rw [hFl]; omega
    have hts : ¬ 9223372036854775807 < F.size + 1 := by omega
    obtain ⟨ys, hys⟩ : ∃ ys, ys = Mesh.newC R 2 := ⟨_, rfl⟩
    obtain ⟨n1, n2, n3⟩ := Mesh.new_two h1 h3
    rw [← hys] at n2 n3
    obtain ⟨m, hmm⟩ : ∃ m, m = ys.length := ⟨_, rfl⟩
    have hy4 : (m : Int) = 4 * R := by rw [hmm]; exact n2
    have hn128 : n ≤ 128 := by omega
    have hm12 : m ≤ 12 := by omega
    have HP1 : Hid (∀ u, Calls Try.prog 20 #[.string F] u (Mesh.Answer R xs true u)) := Lib.hid (fun u => by
      have h := Mesh.parse_is F u
      obtain ⟨e1, e2, e3⟩ := Mesh.fmt_parse hm
      rw [hFd, e1, e2, e3] at h
      exact h)
    have HP2 : Hid (∀ u, Calls Try.prog 20 #[.string (F ++ ⟨#[52]⟩)] u fun e u' => ∃ a c, e = .returned (.tuple #[.agg #[.int .i64 0, .slice a 0 c], .bool false]) ∧ u.grownBy u' none) := Lib.hid (fun u => by
      have h := Mesh.parse_is (F ++ ⟨#[52]⟩) u
      have e0 : (F ++ ⟨#[52]⟩ : ByteArray).data.toList = Mesh.fmtOf R xs ++ [52] := by rw [← hFd]; simp
      have e1 := Mesh.more_bad hm
      obtain ⟨e2, e3⟩ := Mesh.p_no e1
      rw [e0, e1, e2, e3] at h
      exact h.mono (fun e u' ⟨a, c, he, _, hg⟩ => ⟨a, c, he, hg⟩))
    have HN : Hid (∀ u, Calls Try.prog 21 #[.int .i64 R, .int .i64 2] u (Mesh.Answer R ys true u)) := Lib.hid (fun u => (Mesh.new_is R 2 u).mono (by
      rintro e u' ⟨v, rfl, ho, hg⟩
      obtain ⟨a, c, rfl⟩ := Mesh.own_form ho
      rw [n1, (Mesh.new_good n1).1, ← hys]
      rw [← hys] at ho
      exact ⟨a, c, rfl, ho, hg⟩))
    have HFm : Hid (∀ (u : World) (c : Nat), Mesh.Reads u a1 n xs → Calls Try.prog 19 #[.agg #[.int .i64 R, .slice a1 n c]] u fun e w' => e = .returned (.string F) ∧ u.grownBy w' none) := Lib.hid (fun u c h => by rw [hF]; exact Mesh.fmt_is R a1 n c xs u h (by omega))
    have HDp : Hid (∀ (u : World) (a : Option Addr) (c : Nat), Mesh.Reads u a m ys → Calls Try.prog 23 #[.agg #[.int .i64 R, .slice a m c]] u fun e w' => e = .returned (.int .i64 2) ∧ u.grownBy w' none) := Lib.hid (fun u a c h => by have q := Mesh.deepest_is R a m c ys u h (by omega); rw [n3] at q; exact q)
    rw [← hn] at ho ⊢
    have HE := Lib.hid hn; have HE2 := Lib.hid hmm; have HH := Lib.hid hn128
    have hm0 := (Mesh.MBox.new w1 R (.slice a1 n c1))
    have HM1 := Lib.hid hm0
    have HO1 := Lib.hid (ho.alloc (.cells #[.int .i64 R, .slice a1 n c1] 26))
    have HG1 := Lib.hid (Cell.g_alloc (Mesh.grown_of_below' hb) (.cells #[.int .i64 R, .slice a1 n c1] 26))
    have b0 := hm0.c0
    have b1 := hm0.c1
    clear hF hFd hFl q3 q4 q5 n1 n2 n3 hys hmm hn ho hb hm hm0 hxl hn128
    go_wp2_with (first
      | (go_at_call 19; (with_reducible refine (HFm.out _ _ (Mesh.own_reads HO1.out)).mono ?_); clear HFm; rintro e w2 ⟨rfl, hg⟩; have hk := HM1.out.kept hg (by simp); have HM2 := Lib.hid hk; have HO2 := Lib.hid (Mesh.own_on HO1.out hg); have HG2 := Lib.hid (Cell.grown_trans HG1.out hg); clear hg hk HM1 HO1 HG1)
      | (go_at_call 20; (with_reducible refine (HP1.out _).mono ?_); clear HP1; rintro e w3 ⟨a3, c3, rfl, ho, hg⟩; rw [← HE.out] at ho ⊢; have HM3 := Lib.hid ((HM2.out.kept hg (by simp)).alloc (.cells #[.int .i64 R, .slice a3 n c3] 26)); have HX3 := Lib.hid (Mesh.MBox.new w3 R (.slice a3 n c3)); have HO3 := Lib.hid ((Mesh.own_on HO2.out hg).alloc (.cells #[.int .i64 R, .slice a3 n c3] 26)); have HQ3 := Lib.hid (ho.alloc (.cells #[.int .i64 R, .slice a3 n c3] 26)); have HG3 := Lib.hid (Cell.g_alloc (Cell.grown_trans HG2.out hg) (.cells #[.int .i64 R, .slice a3 n c3] 26)); clear ho hg HM2 HO2 HG2)
      | (go_at_call 20; (with_reducible refine (HP2.out _).mono ?_); clear HP2; rintro e w4 ⟨a4, c4, rfl, hg⟩; have hm := (HM3.out.kept hg (by simp)).alloc (.cells #[.int .i64 0, .slice a4 0 c4] 26); have m40 := hm.c0; have HM4 := Lib.hid hm; have HX4 := Lib.hid ((HX3.out.kept hg (by simp)).alloc (.cells #[.int .i64 0, .slice a4 0 c4] 26)); have HO4 := Lib.hid ((Mesh.own_on HO3.out hg).alloc (.cells #[.int .i64 0, .slice a4 0 c4] 26)); have HQ4 := Lib.hid ((Mesh.own_on HQ3.out hg).alloc (.cells #[.int .i64 0, .slice a4 0 c4] 26)); have HG4 := Lib.hid (Cell.g_alloc (Cell.grown_trans HG3.out hg) (.cells #[.int .i64 0, .slice a4 0 c4] 26)); clear hg hm HM3 HX3 HO3 HQ3 HG3)
      | (go_at_call 21; (with_reducible refine (HN.out _).mono ?_); clear HN; rintro e w5 ⟨a5, c5, rfl, ho, hg⟩; rw [← HE2.out] at ho ⊢; have hm := (HM4.out.kept hg (by simp)).alloc (.cells #[.int .i64 R, .slice a5 m c5] 26); have hx := (HX4.out.kept hg (by simp)).alloc (.cells #[.int .i64 R, .slice a5 m c5] 26); have m50 := hm.c0; have m51 := hm.c1; have x50 := hx.c0; have x51 := hx.c1; have HM5 := Lib.hid hm; have HU5 := Lib.hid (Mesh.MBox.new w5 R (.slice a5 m c5)); have HO5 := Lib.hid ((Mesh.own_on HO4.out hg).alloc (.cells #[.int .i64 R, .slice a5 m c5] 26)); have HQ5 := Lib.hid ((Mesh.own_on HQ4.out hg).alloc (.cells #[.int .i64 R, .slice a5 m c5] 26)); have HV5 := Lib.hid (ho.alloc (.cells #[.int .i64 R, .slice a5 m c5] 26)); have HG5 := Lib.hid (Cell.g_alloc (Cell.grown_trans HG4.out hg) (.cells #[.int .i64 R, .slice a5 m c5] 26)); clear ho hg hm hx HM4 HX4 HO4 HQ4 HG4)
      | (go_at_call 22; (with_reducible refine (Mesh.same_is R a3 a1 n c3 c1 xs _ (Mesh.own_reads HQ5.out) (Mesh.own_reads HO5.out) (Nat.le_trans HH.out (by omega))).mono ?_); rintro e w6 ⟨rfl, hg⟩; have hm := HM5.out.kept hg (by simp); have hu := HU5.out.kept hg (by simp); have m60 := hm.c0; have m61 := hm.c1; have u60 := hu.c0; have u61 := hu.c1; have HM6 := Lib.hid hm; have HV6 := Lib.hid (Mesh.own_on HV5.out hg); have HG6 := Lib.hid (Cell.grown_trans HG5.out hg); clear hg hm hu HM5 HU5 HO5 HQ5 HV5 HG5)
      | (go_at_call 23; (with_reducible refine (HDp.out _ _ _ (Mesh.own_reads HV6.out)).mono ?_); clear HDp; rintro e w7 ⟨rfl, hg⟩; have hm := HM6.out.kept hg (by simp); have m70 := hm.c0; have m71 := hm.c1; have HG7 := Lib.hid (Cell.grown_trans HG6.out hg); clear hg hm HM6 HV6 HG6))
    go_ret
    exact ⟨rfl, Cell.grown_below HG7.out (Nat.le_refl _)⟩

set_option maxRecDepth 100000 in
theorem lifted (os : Os) (started : os.Started) (H : Type) (enc : TypeId × Value → H) :
    ReturnsInHanded {} Try.checked os 4 .any (Rows.fnMeshTextsSpec.pre6 enc Try.prog Try.f4 Rows.fnMeshTextsRow.domain false) (Rows.fnMeshTextsSpec.post enc Try.prog Try.f4 false true false false) := by
  refine returnsInHanded_of_change (C := Try.checked) own started (by kernel_rfl) Try.func4
    (ChangeSpec.witness6 (enc := enc) (C := Try.checked) false ⟨#[], #[.slice none 0 0], []⟩ 8 (by kernel_rfl) (by kernel_rfl) (by kernel_rfl) (by kernel_rfl)) ?_
  intro W base args ds gs before hval0 hW hcnd _
  have hval : ∀ (j : Nat) t v, Try.f4.params[j]? = some t → args[j]? = some v → Value.okWide Try.prog W .any base t v := hval0
  have hW' := hW
  obtain ⟨p, q, hA0, hV, rfl, hfz, hnd⟩ := hW
  have hA : DataW.TrodAll enc Try.prog W 0 (fun _ => true) true Try.f4.params.toList args.toList ds p := hA0
  rw [Try.params4] at hA hval
  obtain ⟨v0, vs0, d0, ds0, p0, q0, hargs, rfl, rfl, h0, r0⟩ := trodAll_cons hA
  obtain ⟨rfl, rfl, rfl⟩ := trodAll_nil r0
  obtain rfl : args = #[v0] := by cases args; simp_all
  obtain ⟨rfl, rfl⟩ := trodVars_none hV
  obtain ⟨a0, len0, cap0, rfl⟩ := okWide_slice Try.underlying22 (hval 0 22 v0 rfl rfl)
  have k0 := h0
  have lt0 : ∀ x ∈ p0, x.block < W.heap.size := by obtain ⟨m, hm⟩ := k0; exact DataW.trod_lt m _ _ _ hm
  obtain ⟨z0, w0⟩ : ∃ zs, IsRow .u8 W a0 len0 cap0 zs := by
    obtain ⟨fuel, hf⟩ := h0
    rcases open_ints Try.underlying22 Try.underlying5 (by kernel_rfl) hf with ⟨hcs, _⟩ | ⟨x, l, c, zs, hcs, _, hl, hm, hz, _, hcell, hwz⟩
    · simp [Value.cells] at hcs
      obtain ⟨rfl, rfl, rfl⟩ := hcs
      exact ⟨[], .inl ⟨rfl, rfl, rfl, rfl⟩⟩
    · simp [Value.cells] at hcs
      obtain ⟨rfl, rfl, rfl⟩ := hcs
      exact ⟨zs, .inr ⟨_, rfl, hl, hm, by simpa using hz, hcell, hwz⟩⟩
  clear hA0 hval0
  refine (walk a0 len0 cap0 z0 W w0).mono fun e W' ⟨he, bel⟩ => ?_
  subst he
  exact ⟨_, rfl, _, _, _, [], _, [], hW', trodAll_mk1 (shut_bool Try.underlying4 _), (trodAll_cons_mk (Below.trod laidOut (by kernel_rfl) (of_decide_eq_true (by kernel_rfl)) k0 bel lt0) trodAll_mk0), rfl, bel.frame _, fun h => by cases h⟩

theorem over : Rows.fnMeshTextsRow.holds Try.pinned (OpenSpec.ofChange Rows.fnMeshTextsSpec) :=
  OpenClaim.holds_of_wide 4 Try.f4 rfl rfl rfl rfl rfl rfl rfl ⟨rfl, rfl, rfl, rfl, rfl⟩ rfl rfl rfl rfl rfl (by kernel_rfl) Try.func4 (by kernel_rfl)
    (of_decide_eq_true (by kernel_rfl)) (by unfold Func.isWrapper; first | (rw [if_pos (by decide +kernel)]; kernel_rfl) | (rw [if_neg (by decide +kernel)]; exact ⟨rfl, rfl⟩))
    (fun os started H enc _ => lifted os started H enc)

theorem proved : Rows.FnMeshTextsSaid := over
#print axioms proved
end Go.Proofs.Ytjhfjceieaanhaa.fnMeshTexts
