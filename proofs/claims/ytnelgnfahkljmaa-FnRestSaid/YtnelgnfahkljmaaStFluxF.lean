/- States: the program's drop and flux of a face, SurfaceOf, FaceFlux, as contracts: what each answers; nothing that was there is written.
   Conditions: at most 2^20 leaves and numbers. -/
import Derived.Test.YtnelgnfahkljmaaStFluxI
set_option maxRecDepth 100000
namespace Go.Proofs.Ytnelgnfahkljmaa.State
open Go.ChangeShapes Go.WideShapes Go.ChangeAt Go.RowKit Go.Joins Go.Proofs.Ytnelgnfahkljmaa.Cell Go.Proofs.Ytnelgnfahkljmaa.Mesh Go.Proofs.Ytnelgnfahkljmaa.Law Go.Proofs.Ytnelgnfahkljmaa.Ints Go.Deep

/-- A face of a state, as the program holds it. -/
def faceV (R : Int) (v1 v2 v3 v4 : Value) (k : Nat) : Value := .iface 92 (.agg #[.int .i64 R, v1, v2, v3, v4, .int .i64 k])

theorem clampR_is (n a b x : Int) (h : x = max a (min n b)) (w : World) :
    Calls Try.prog 75 #[.int .i64 n, .int .i64 a, .int .i64 b] w fun e w' => e = .returned (.int .i64 x) ∧ w = w' := by
  have H := Lib.hid h; clear h
  have ret : ∀ y : Int, y = x → Ending.returned (.int .i64 y) = .returned (.int .i64 x) := fun y e => by rw [e]
  by_cases h1 : n ≤ b
  · by_cases h2 : a ≤ n
    · go_enter Try.func75, Try.ntmps75
      go_wp2
      all_goals go_ret
      all_goals exact ⟨ret _ (by have := H.out; omega), rfl⟩
    · go_enter Try.func75, Try.ntmps75
      go_wp2
      all_goals go_ret
      all_goals exact ⟨ret _ (by have := H.out; omega), rfl⟩
  · by_cases h2 : a ≤ b
    · go_enter Try.func75, Try.ntmps75
      go_wp2
      all_goals go_ret
      all_goals exact ⟨ret _ (by have := H.out; omega), rfl⟩
    · go_enter Try.func75, Try.ntmps75
      go_wp2
      all_goals go_ret
      all_goals exact ⟨ret _ (by have := H.out; omega), rfl⟩

set_option maxHeartbeats 4000000 in
theorem drop_is (R : Int) (a1 a2 a3 a4 : Option Addr) (n1 n2 n3 n4 c1 c2 c3 c4 k : Nat) (xs : List C3) (ms ts bs : List Int) (w : World) (h : ReadsS w a1 a2 a3 a4 n1 n2 n3 n4 xs ms ts bs) (h1 : n1 ≤ 1048576) (hs : stOk R xs ms ts bs = true) (hk : k + 1 < n1) :
    Calls Try.prog 44 #[faceV R (.slice a1 n1 c1) (.slice a2 n2 c2) (.slice a3 n3 c3) (.slice a4 n4 c4) k] w fun e w' =>
      e = .returned (.int .i64 (surf xs ms bs k - surf xs ms bs (k + 1))) ∧ w.grownBy w' none := by
  have hl : ∀ u, w.grownBy u none → Calls Try.prog 118 #[.agg #[.int .i64 R, .slice a1 n1 c1, .slice a2 n2 c2, .slice a3 n3 c3, .slice a4 n4 c4, .int .i64 k]] u fun e w' => e = .returned (.agg #[.int .i64 (lvAt xs k), .int .i64 (msAt ms k), .int .i64 (surf xs ms bs k)]) ∧ u.grownBy w' none :=
    fun u hu => left_is R a1 a2 a3 a4 n1 n2 n3 n4 c1 c2 c3 c4 k xs ms ts bs u (h.on hu) h1 hs (by omega)
  have hr : ∀ u, w.grownBy u none → Calls Try.prog 119 #[.agg #[.int .i64 R, .slice a1 n1 c1, .slice a2 n2 c2, .slice a3 n3 c3, .slice a4 n4 c4, .int .i64 k]] u fun e w' => e = .returned (.agg #[.int .i64 (lvAt xs (k + 1)), .int .i64 (msAt ms (k + 1)), .int .i64 (surf xs ms bs (k + 1))]) ∧ u.grownBy w' none :=
    fun u hu => right_is R a1 a2 a3 a4 n1 n2 n3 n4 c1 c2 c3 c4 k xs ms ts bs u (h.on hu) h1 hs hk
  obtain ⟨s0, s1, -⟩ := leaf_bounds hs (k := k) (by rw [h.l.len]; omega)
  obtain ⟨r0, r1, -⟩ := leaf_bounds hs (k := k + 1) (by rw [h.l.len]; omega)
  have HL := Lib.hid hl; have HR := Lib.hid hr
  clear hl hr h h1 hs hk
  generalize surf xs ms bs k = s at *
  generalize surf xs ms bs (k + 1) = t at *
  have hfd : ∀ (u : World) (x y z : Int), (Instr.field 72 (.agg #[.int .i64 x, .int .i64 y, .int .i64 z]) 2).run Try.prog u = .ok (.int .i64 z) u := fun u x y z => by kernel_rfl
  go_enter Try.func44, Try.ntmps44
  unfold faceV
  go_wp2_with (first
    | (go_at_call 118; ((with_reducible refine (HL.out _ (grown_refl _)).mono ?_); rintro e w1 ⟨rfl, hg⟩; have HG1 := Lib.hid hg; clear hg))
    | (go_at_call 119; ((with_reducible refine (HR.out _ HG1.out).mono ?_); rintro e w2 ⟨rfl, hg⟩; have HG2 := Lib.hid (grown_trans HG1.out hg); clear hg)))
  go_ret
  exact ⟨rfl, HG2.out⟩

set_option maxHeartbeats 8000000 in
theorem flux_is (R : Int) (a1 a2 a3 a4 : Option Addr) (n1 n2 n3 n4 c1 c2 c3 c4 k : Nat) (xs : List C3) (ms ts bs : List Int) (w : World) (h : ReadsS w a1 a2 a3 a4 n1 n2 n3 n4 xs ms ts bs) (h1 : n1 ≤ 1048576) (hs : stOk R xs ms ts bs = true) (hk : k + 1 < n1) :
    Calls Try.prog 43 #[faceV R (.slice a1 n1 c1) (.slice a2 n2 c2) (.slice a3 n3 c3) (.slice a4 n4 c4) k] w fun e w' =>
      e = .returned (.int .i64 (fluxAt xs ms bs k)) ∧ w.grownBy w' none := by
  have hl : ∀ u, w.grownBy u none → Calls Try.prog 118 #[.agg #[.int .i64 R, .slice a1 n1 c1, .slice a2 n2 c2, .slice a3 n3 c3, .slice a4 n4 c4, .int .i64 k]] u fun e w' => e = .returned (.agg #[.int .i64 (lvAt xs k), .int .i64 (msAt ms k), .int .i64 (surf xs ms bs k)]) ∧ u.grownBy w' none :=
    fun u hu => left_is R a1 a2 a3 a4 n1 n2 n3 n4 c1 c2 c3 c4 k xs ms ts bs u (h.on hu) h1 hs (by omega)
  have hr : ∀ u, w.grownBy u none → Calls Try.prog 119 #[.agg #[.int .i64 R, .slice a1 n1 c1, .slice a2 n2 c2, .slice a3 n3 c3, .slice a4 n4 c4, .int .i64 k]] u fun e w' => e = .returned (.agg #[.int .i64 (lvAt xs (k + 1)), .int .i64 (msAt ms (k + 1)), .int .i64 (surf xs ms bs (k + 1))]) ∧ u.grownBy w' none :=
    fun u hu => right_is R a1 a2 a3 a4 n1 n2 n3 n4 c1 c2 c3 c4 k xs ms ts bs u (h.on hu) h1 hs hk
  have hd : ∀ u, w.grownBy u none → Calls Try.prog 44 #[.iface 92 (.agg #[.int .i64 R, .slice a1 n1 c1, .slice a2 n2 c2, .slice a3 n3 c3, .slice a4 n4 c4, .int .i64 k])] u fun e w' => e = .returned (.int .i64 (surf xs ms bs k - surf xs ms bs (k + 1))) ∧ u.grownBy w' none :=
    fun u hu => drop_is R a1 a2 a3 a4 n1 n2 n3 n4 c1 c2 c3 c4 k xs ms ts bs u (h.on hu) h1 hs hk
  obtain ⟨s0, s1, m0, m1, l0, l1⟩ := leaf_bounds hs (k := k) (by rw [h.l.len]; omega)
  obtain ⟨r0, r1, n0, n1', k0, k1⟩ := leaf_bounds hs (k := k + 1) (by rw [h.l.len]; omega)
  have hf : fluxAt xs ms bs k = fluxN (surf xs ms bs k) (surf xs ms bs (k + 1)) (msAt ms k) (msAt ms (k + 1)) (lvAt xs k) (lvAt xs (k + 1)) := rfl
  rw [hf]
  have HL := Lib.hid hl; have HR := Lib.hid hr; have HD := Lib.hid hd
  clear hl hr hd hf h h1 hs hk
  generalize surf xs ms bs k = s at *
  generalize surf xs ms bs (k + 1) = t at *
  generalize lvAt xs k = la at *
  generalize lvAt xs (k + 1) = lb at *
  generalize msAt ms k = ma at *
  generalize msAt ms (k + 1) = mb at *
  obtain ⟨d0, d1⟩ := width_pos (l := max la lb) (by omega) (by omega)
  obtain ⟨w0, w1⟩ := width_pos l0 l1
  obtain ⟨v0, v1⟩ := width_pos k0 k1
  obtain ⟨q0, q1⟩ := quo_small s0 s1 r0 r1 l0 l1 k0 k1
  obtain ⟨p0, p1⟩ := prod_small (d := s - t) (p := widthOf (max la lb)) (by omega) (by omega) (by omega) d1
  have hq : ∀ u, Calls Try.prog 74 #[.int .i64 ((s - t) * widthOf (max la lb)), .int .i64 (32 * (widthOf la + widthOf lb))] u fun e w' => e = .returned (.int .i64 (quoN s t la lb)) ∧ u.grownBy w' none := fun u => by
    have q := Draw.trunc_is ((s - t) * widthOf (max la lb)) (32 * (widthOf la + widthOf lb)) (by omega) (by omega) u
    rw [if_neg (by omega)] at q
    exact q
  have hx : fluxN s t ma mb la lb = max (-(mb / 4)) (min (quoN s t la lb) (ma / 4)) := rfl
  have hc : ∀ u, Calls Try.prog 75 #[.int .i64 (quoN s t la lb), .int .i64 (-(mb / 4)), .int .i64 (ma / 4)] u fun e w' => e = .returned (.int .i64 (fluxN s t ma mb la lb)) ∧ u = w' := fun u => clampR_is _ _ _ _ hx u
  have hw1 : ∀ u, Calls Try.prog 50 #[.int .i64 la] u fun e w' => e = .returned (.int .i64 (widthOf la)) ∧ w' = u := fun u => width_is la u
  have hw2 : ∀ u, Calls Try.prog 50 #[.int .i64 lb] u fun e w' => e = .returned (.int .i64 (widthOf lb)) ∧ w' = u := fun u => width_is lb u
  have HX : Hid (-2500000 ≤ fluxN s t ma mb la lb ∧ fluxN s t ma mb la lb ≤ 2500000) := Lib.hid (by rw [hx]; omega)
  have HQ := Lib.hid hq; have HC := Lib.hid hc; have HW1 := Lib.hid hw1; have HW2 := Lib.hid hw2
  have hw3 : ∀ u, Calls Try.prog 50 #[.int .i64 (if la < lb then lb else la)] u fun e w' => e = .returned (.int .i64 (widthOf (max la lb))) ∧ w' = u := fun u => by rw [max_if]; exact width_is _ u
  have HW3 := Lib.hid hw3
  clear hq hc hw1 hw2 hw3 hx
  generalize fluxN s t ma mb la lb = F at *
  generalize quoN s t la lb = Q at *
  generalize widthOf (max la lb) = D at *
  generalize widthOf la = wa at *
  generalize widthOf lb = wb at *
  obtain ⟨dr, hdr⟩ : ∃ dr, s - t = dr := ⟨_, rfl⟩
  rw [hdr] at p0 p1 HQ HD
  have g0 : -161000000 ≤ dr ∧ dr ≤ 161000000 := by omega
  clear hdr
  have HE0 := Lib.hid (Held.nil w)
  go_enter Try.func43, Try.ntmps43
  unfold faceV
  go_upto_region 2 with (first
    | (go_at_call 118; ((with_reducible refine (HL.out _ (grown_refl _)).mono ?_); rintro e u1 ⟨rfl, hg⟩; have HG1 := Lib.hid hg; clear hg))
    | (go_at_call 119; ((with_reducible refine (HR.out _ HG1.out).mono ?_); rintro e u2 ⟨rfl, hg⟩; have HG2 := Lib.hid (grown_trans HG1.out hg); clear hg)))
  have he := (((Held.nil w).on HG2.out).box 72 #[.int .i64 la, .int .i64 ma, .int .i64 s]).box 72 #[.int .i64 lb, .int .i64 mb, .int .i64 t]
  simp only [World.size_alloc] at he
  have HE := Lib.hid he
  obtain ⟨B, hB⟩ : ∃ B, B = u2.heap.size := ⟨_, rfl⟩
  rw [← hB] at HE ⊢
  clear hB he HL HR HG1 HG2 HE0
  generalize (u2.alloc (.cells #[.int .i64 la, .int .i64 ma, .int .i64 s] 72)).alloc (.cells #[.int .i64 lb, .int .i64 mb, .int .i64 t] 72) = W3 at *
  obtain ⟨x0, x1, x2⟩ := box3 (HE.out.nth 0 rfl)
  obtain ⟨y0, y1, y2⟩ := box3 (HE.out.nth 1 rfl)
  go_upto_region 3 with (go_at_call 50; ((with_reducible refine (HW3.out _).mono ?_); rintro e u3 ⟨rfl, rfl⟩))
  go_quiet (first | ((with_reducible refine Calls.quiet_of_same (HW1.out _)); done) | ((with_reducible refine Calls.quiet_of_same (HW2.out _)); done))
  have HE4 := Lib.hid (HE.out.on (Cell.g_drewN (Cell.grown_refl _) nq))
  clear x0 x1 x2 y0 y1 y2 HE HW1 HW2 HW3
  generalize World.drewN _ nq = W4 at *
  go_upto_region 5 with (first
    | (go_at_call 44; ((with_reducible refine (HD.out _ HE4.out.gr).mono ?_); rintro e u5 ⟨rfl, hg⟩; have HE5 := Lib.hid (HE4.out.on hg); clear hg))
    | (go_at_call 74; ((with_reducible refine (HQ.out _).mono ?_); rintro e u6 ⟨rfl, hg⟩; have HE6 := Lib.hid (HE5.out.on hg); clear hg)))
  obtain ⟨x0, x1, x2⟩ := box3 (HE6.out.nth 0 rfl)
  obtain ⟨y0, y1, y2⟩ := box3 (HE6.out.nth 1 rfl)
  go_wp2_with (go_at_call 75; ((with_reducible refine (HC.out _).mono ?_); rintro e u7 ⟨rfl, rfl⟩))
  all_goals go_ret
  all_goals exact ⟨rfl, HE6.out.gr⟩

end Go.Proofs.Ytnelgnfahkljmaa.State
