/- States: the reference model's surfaces, fluxes, SurfaceOf, FaceFlux, as contracts: what each answers; nothing that was there is written.
   Conditions: at most 2^20 leaves and numbers. -/
import Derived.Test.YtnelgnfahkljmaaStFluxP
import Derived.Test.YtnelgnfahkljmaaStOkS
import Derived.Test.YtnelgnfahkljmaaPkDraw
import Derived.Deep.RegionWith
set_option maxRecDepth 100000
namespace Go.Proofs.Ytnelgnfahkljmaa.State
open Go.ChangeShapes Go.WideShapes Go.ChangeAt Go.RowKit Go.Joins Go.Proofs.Ytnelgnfahkljmaa.Cell Go.Proofs.Ytnelgnfahkljmaa.Mesh Go.Proofs.Ytnelgnfahkljmaa.Law Go.Proofs.Ytnelgnfahkljmaa.Ints Go.Deep

theorem box3S {b : Nat} {t : TypeId} {x0 x1 x2 : Value} {W : World} (h : (boxG b t #[x0, x1, x2]).P W) : W.cell? ⟨b, 0, none⟩ = some x0 ∧ W.cell? ⟨b, 1, none⟩ = some x1 ∧ W.cell? ⟨b, 2, none⟩ = some x2 := ⟨boxG.cell h 0, boxG.cell h 1, boxG.cell h 2⟩

set_option maxHeartbeats 4000000 in
theorem specSurf_is (R : Int) (a1 a2 a3 a4 : Option Addr) (n1 n2 n3 n4 c1 c2 c3 c4 k : Nat) (xs : List C3) (ms ts bs : List Int) (w : World) (h : ReadsS w a1 a2 a3 a4 n1 n2 n3 n4 xs ms ts bs) (h1 : n1 ≤ 1048576) (hs : stOk R xs ms ts bs = true) (hk : k < n1) :
    Calls Try.prog 57 #[.agg #[.int .i64 R, .slice a1 n1 c1, .slice a2 n2 c2, .slice a3 n3 c3, .slice a4 n4 c4], .int .i64 k] w fun e w' =>
      e = .returned (.int .i64 (surf xs ms bs k)) ∧ w.grownBy w' none := by
  obtain ⟨rn, l, i, m, b, hx, hm, hb, l0, l1, m0, m1, b0, b1, hrn, es, el, em⟩ := leaf_at hs (k := k) (by rw [h.l.len]; exact hk)
  obtain ⟨-, ⟨p2, p3, p4⟩, -⟩ := stOk_parts hs
  have hn2 : n2 = n1 := by rw [← h.m.len, p2, h.l.len]
  have hn4 : rn < n4 := by rw [← h.b.len]; exact hrn
  rw [es]
  clear es el em p2 p3 p4 hrn
  obtain ⟨S, hS⟩ : ∃ S, b + m * 2 ^ l.toNat = S := ⟨_, rfl⟩
  rw [hS]
  subst hn2
  have hki : (k : Int) < n2 := by omega
  have hni : (n2 : Int) ≤ 1048576 := by omega
  have hri : (rn : Int) < n4 := by omega
  have he := (Held.nil w).box 31 #[.int .i64 R, .slice a1 n2 c1, .slice a2 n2 c2, .slice a3 n3 c3, .slice a4 n4 c4]
  have HE := Lib.hid he
  have HR := Lib.hid (h.on he.gr)
  clear he h h1
  go_enter Try.func57, Try.ntmps57
  go_upto_region 1 with fail
  generalize w.alloc (.cells #[.int .i64 R, .slice a1 n2 c1, .slice a2 n2 c2, .slice a3 n3 c3, .slice a4 n4 c4] 31) = W2 at *
  obtain ⟨p0, p1, p2, p3, p4⟩ := box5 (HE.out.nth 0 rfl)
  obtain ⟨g1, e, -, d0, d1, d2⟩ := HR.out.l.at_ k _ hx
  subst e
  dsimp only at d0 d1 d2
  go_upto_region 2 with fail
  have HE2 := Lib.hid (HE.out.box 63 #[.int .i64 (rn : Int), .int .i64 l, .int .i64 i])
  have HR2 := Lib.hid (HR.out.on (World.grownBy_alloc W2 (.cells #[.int .i64 (rn : Int), .int .i64 l, .int .i64 i] 63) none))
  obtain ⟨B, hB⟩ : ∃ B, B = W2.heap.size := ⟨_, rfl⟩
  rw [← hB] at HE2 ⊢
  clear hB p0 p1 p2 p3 p4 d0 d1 d2 HE HR
  generalize W2.alloc (.cells #[.int .i64 (rn : Int), .int .i64 l, .int .i64 i] 63) = W3 at *
  obtain ⟨p0, p1, p2, p3, p4⟩ := box5 (HE2.out.nth 0 rfl)
  obtain ⟨q0, q1, q2⟩ := box3S (HE2.out.nth 1 rfl)
  obtain ⟨g2, o2, e, f0⟩ := HR2.out.m.at_ k _ hm
  subst e
  obtain ⟨g4, o4, e, f1⟩ := HR2.out.b.at_ rn _ hb
  subst e
  clear hx hm hb hs
  have hp0 : (2 : Int) ^ (0 : Int).toNat = 1 := rfl
  have hp1 : (2 : Int) ^ (1 : Int).toNat = 2 := rfl
  have hp2 : (2 : Int) ^ (2 : Int).toNat = 4 := rfl
  have hp3 : (2 : Int) ^ (3 : Int).toNat = 8 := rfl
  have hp4 : (2 : Int) ^ (4 : Int).toNat = 16 := rfl
  rcases Cell.lvl l0 l1 with rfl | rfl | rfl | rfl | rfl
  all_goals
    simp only [hp0, hp1, hp2, hp3, hp4] at hS
    have HS := Lib.hid hS; clear hS
    clear hp0 hp1 hp2 hp3 hp4
    go_quiet (fail)
    go_wp2_with fail
    go_ret
    exact ⟨congrArg (fun z => Ending.returned (.int .i64 z)) (by have := HS.out; omega), (HE2.out.on (Cell.g_drewN (Cell.grown_refl _) nq)).gr⟩

set_option maxHeartbeats 4000000 in
theorem specPair_is (s t ma mb la lb : Int) (s0 : 0 ≤ s) (s1 : s ≤ 161000000) (r0 : 0 ≤ t) (r1 : t ≤ 161000000) (m0 : 0 ≤ ma) (m1 : ma ≤ 10000000) (n0 : 0 ≤ mb) (n1 : mb ≤ 10000000) (l0 : 0 ≤ la) (l1 : la ≤ 4) (k0 : 0 ≤ lb) (k1 : lb ≤ 4) (w : World) :
    Calls Try.prog 87 #[.int .i64 s, .int .i64 t, .int .i64 ma, .int .i64 mb, .int .i64 la, .int .i64 lb] w fun e w' => e = .returned (.int .i64 (fluxN s t ma mb la lb)) ∧ w.grownBy w' none := by
  obtain ⟨d0, d1⟩ := width_pos (l := max la lb) (by omega) (by omega)
  obtain ⟨w0, w1⟩ := width_pos l0 l1
  obtain ⟨v0, v1⟩ := width_pos k0 k1
  obtain ⟨q0, q1⟩ := quo_small s0 s1 r0 r1 l0 l1 k0 k1
  obtain ⟨p0, p1⟩ := prod_small (d := s - t) (p := widthOf (max la lb)) (by omega) (by omega) (by omega) d1
  have hq : ∀ u, Calls Try.prog 95 #[.int .i64 ((s - t) * widthOf (max la lb)), .int .i64 (32 * (widthOf la + widthOf lb))] u fun e w' => e = .returned (.int .i64 (quoN s t la lb)) ∧ w' = u := fun u => by
    have q := Draw.spec_trunc ((s - t) * widthOf (max la lb)) (32 * (widthOf la + widthOf lb)) (by omega) u
    rw [if_neg (by omega)] at q
    exact q
  have hx : fluxN s t ma mb la lb = max (-(mb / 4)) (min (quoN s t la lb) (ma / 4)) := rfl
  have hw1 : ∀ u, Calls Try.prog 83 #[.int .i64 la] u fun e w' => e = .returned (.int .i64 (widthOf la)) ∧ w' = u := fun u => specWidth_is la u
  have hw2 : ∀ u, Calls Try.prog 83 #[.int .i64 lb] u fun e w' => e = .returned (.int .i64 (widthOf lb)) ∧ w' = u := fun u => specWidth_is lb u
  have hw3 : ∀ u, Calls Try.prog 83 #[.int .i64 (if la < lb then lb else la)] u fun e w' => e = .returned (.int .i64 (widthOf (max la lb))) ∧ w' = u := fun u => by rw [max_if]; exact specWidth_is _ u
  have HX := Lib.hid hx
  have HQ := Lib.hid hq; have HW1 := Lib.hid hw1; have HW2 := Lib.hid hw2; have HW3 := Lib.hid hw3
  clear hq hw1 hw2 hw3 hx
  generalize fluxN s t ma mb la lb = F at *
  generalize quoN s t la lb = Q at *
  generalize widthOf (max la lb) = D at *
  generalize widthOf la = wa at *
  generalize widthOf lb = wb at *
  have hwr : IntKind.i64.wrap ((s - t) * D) = (s - t) * D := by rw [IntKind.wrap_i64]; omega
  go_enter Try.func87, Try.ntmps87
  go_wp2_with (first
    | (go_at_call 83; ((with_reducible refine (HW3.out _).mono ?_); rintro e u3 ⟨rfl, rfl⟩))
    | (go_at_call 83; ((with_reducible refine (HW1.out _).mono ?_); rintro e u4 ⟨rfl, rfl⟩))
    | (go_at_call 83; ((with_reducible refine (HW2.out _).mono ?_); rintro e u5 ⟨rfl, rfl⟩))
    | (go_at_call 95; ((with_reducible refine (HQ.out _).mono ?_); rintro e u6 ⟨rfl, rfl⟩)))
  all_goals go_ret
  all_goals exact ⟨congrArg (fun z => Ending.returned (.int .i64 z)) (by have := HX.out; first | omega | (split at * <;> omega)), grown_refl _⟩

/-- The cells that a face's flux reads, at whatever world has grown out of this one. -/
theorem face_cells {R : Int} {a1 a2 a3 a4 : Option Addr} {n1 n2 n3 n4 k : Nat} {xs : List C3} {ms ts bs : List Int} {w : World} (h : ReadsS w a1 a2 a3 a4 n1 n2 n3 n4 xs ms ts bs) (hs : stOk R xs ms ts bs = true) (hk : k + 1 < n1) :
    ∃ g1 g2 o2 : Nat, a1 = some ⟨g1, 0, none⟩ ∧ a2 = some ⟨g2, o2, none⟩ ∧ n2 = n1 ∧ ∀ u, w.grownBy u none → u.cell? ⟨g1, k * 3 + 1, none⟩ = some (.int .i64 (lvAt xs k)) ∧ u.cell? ⟨g1, (k + 1) * 3 + 1, none⟩ = some (.int .i64 (lvAt xs (k + 1))) ∧ u.cell? ⟨g2, o2 + k, none⟩ = some (.int .i64 (msAt ms k)) ∧ u.cell? ⟨g2, o2 + (k + 1), none⟩ = some (.int .i64 (msAt ms (k + 1))) := by
  obtain ⟨rn, l, i, m, b, hx, hm, -, -, -, -, -, -, -, -, -, el, em⟩ := leaf_at hs (k := k) (by rw [h.l.len]; omega)
  obtain ⟨rn', l', i', m', b', hx', hm', -, -, -, -, -, -, -, -, -, el', em'⟩ := leaf_at hs (k := k + 1) (by rw [h.l.len]; omega)
  obtain ⟨-, ⟨p2, p3, p4⟩, -⟩ := stOk_parts hs
  obtain ⟨g1, rfl, -, -, d1, -⟩ := h.l.at_ _ _ hx
  obtain ⟨g1', e, -, -, d1', -⟩ := h.l.at_ _ _ hx'
  cases e
  obtain ⟨g2, o2, rfl, f0⟩ := h.m.at_ _ _ hm
  obtain ⟨g2', o2', e, f1⟩ := h.m.at_ _ _ hm'
  cases e
  dsimp only at d1 d1'
  rw [el, em, el', em']
  exact ⟨g1, g2, o2, rfl, rfl, by rw [← h.m.len, p2, h.l.len], fun u hu => ⟨hu.cell d1 (by simp), hu.cell d1' (by simp), hu.cell f0 (by simp), hu.cell f1 (by simp)⟩⟩

end Go.Proofs.Ytnelgnfahkljmaa.State
