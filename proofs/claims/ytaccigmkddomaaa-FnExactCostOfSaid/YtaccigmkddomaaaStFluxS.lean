/- States: the reference model's surfaces, fluxes, SurfaceOf, FaceFlux, as contracts: what each answers; nothing that was there is written.
   Conditions: at most 2^20 leaves and numbers. -/
import Derived.Test.YtaccigmkddomaaaStFluxP
import Derived.Test.YtaccigmkddomaaaStOkS
import Derived.Test.YtaccigmkddomaaaPkDraw
import Derived.Deep.RegionWith
set_option maxRecDepth 100000
namespace Go.Proofs.Ytaccigmkddomaaa.State
open Go.ChangeShapes Go.WideShapes Go.ChangeAt Go.RowKit Go.Joins Go.Proofs.Ytaccigmkddomaaa.Cell Go.Proofs.Ytaccigmkddomaaa.Mesh Go.Proofs.Ytaccigmkddomaaa.Law Go.Proofs.Ytaccigmkddomaaa.Ints Go.Deep

theorem box3S {b : Nat} {t : TypeId} {x0 x1 x2 : Value} {W : World} (h : (boxG b t #[x0, x1, x2]).P W) : W.cell? ⟨b, 0, none⟩ = some x0 ∧ W.cell? ⟨b, 1, none⟩ = some x1 ∧ W.cell? ⟨b, 2, none⟩ = some x2 := ⟨boxG.cell h 0, boxG.cell h 1, boxG.cell h 2⟩

set_option maxHeartbeats 4000000 in
theorem specSurf_is (R : Int) (a1 a2 a3 a4 : Option Addr) (n1 n2 n3 n4 c1 c2 c3 c4 k : Nat) (xs : List C3) (ms ts bs : List Int) (w : World) (h : ReadsS w a1 a2 a3 a4 n1 n2 n3 n4 xs ms ts bs) (h1 : n1 ≤ 1048576) (hs : stOk R xs ms ts bs = true) (hk : k < n1) :
    Calls Try.prog 77 #[.agg #[.int .i64 R, .slice a1 n1 c1, .slice a2 n2 c2, .slice a3 n3 c3, .slice a4 n4 c4], .int .i64 k] w fun e w' =>
      e = .returned (.int .i64 (surf xs ms bs k)) ∧ w.grownBy w' none := by
  obtain ⟨rn, l, i, m, b, hx, hm, hb, l0, l1, m0, m1, b0, b1, hrn, es, el, em⟩ := leaf_at hs (k := k) (by rw [h.l.len]; exact hk)
  obtain ⟨-, ⟨p2, p3, p4⟩, -⟩ := stOk_parts hs
  have hn2 : n2 = n1 := by rw [← h.m.len, p2, h.l.len]
  have hn4 : rn < n4 := by rw [← h.b.len]; exact hrn
  rw [es]
  clear es el em p2 p3 p4 hrn
  obtain ⟨S, hS⟩ : ∃ S, b + m * 2 ^ l.toNat = S := ⟨_, rfl⟩
  rw [hS]
  subst hn2
  have hki : (k : Int) < n2 := by omega
  have hni : (n2 : Int) ≤ 1048576 := by omega
  have hri : (rn : Int) < n4 := by omega
  have he := (Held.nil w).box 29 #[.int .i64 R, .slice a1 n2 c1, .slice a2 n2 c2, .slice a3 n3 c3, .slice a4 n4 c4]
  have HE := Lib.hid he
  have HR := Lib.hid (h.on he.gr)
  clear he h h1
  go_enter Try.func77, Try.ntmps77
  go_upto_region 1 with fail
  generalize w.alloc (.cells #[.int .i64 R, .slice a1 n2 c1, .slice a2 n2 c2, .slice a3 n3 c3, .slice a4 n4 c4] 29) = W2 at *
  obtain ⟨p0, p1, p2, p3, p4⟩ := box5 (HE.out.nth 0 rfl)
  obtain ⟨g1, e, -, d0, d1, d2⟩ := HR.out.l.at_ k _ hx
  subst e
  dsimp only at d0 d1 d2
  go_upto_region 2 with fail
  have HE2 := Lib.hid (HE.out.box 35 #[.int .i64 (rn : Int), .int .i64 l, .int .i64 i])
  have HR2 := Lib.hid (HR.out.on (World.grownBy_alloc W2 (.cells #[.int .i64 (rn : Int), .int .i64 l, .int .i64 i] 35) none))
  obtain ⟨B, hB⟩ : ∃ B, B = W2.heap.size := ⟨_, rfl⟩
  rw [← hB] at HE2 ⊢
  clear hB p0 p1 p2 p3 p4 d0 d1 d2 HE HR
  generalize W2.alloc (.cells #[.int .i64 (rn : Int), .int .i64 l, .int .i64 i] 35) = W3 at *
  obtain ⟨p0, p1, p2, p3, p4⟩ := box5 (HE2.out.nth 0 rfl)
  obtain ⟨q0, q1, q2⟩ := box3S (HE2.out.nth 1 rfl)
  obtain ⟨g2, o2, e, f0⟩ := HR2.out.m.at_ k _ hm
  subst e
  obtain ⟨g4, o4, e, f1⟩ := HR2.out.b.at_ rn _ hb
  subst e
  clear hx hm hb hs
  have hp0 : (2 : Int) ^ (0 : Int).toNat = 1 := rfl
  have hp1 : (2 : Int) ^ (1 : Int).toNat = 2 := rfl
  have hp2 : (2 : Int) ^ (2 : Int).toNat = 4 := rfl
  have hp3 : (2 : Int) ^ (3 : Int).toNat = 8 := rfl
  have hp4 : (2 : Int) ^ (4 : Int).toNat = 16 := rfl
  rcases Cell.lvl l0 l1 with rfl | rfl | rfl | rfl | rfl
  all_goals
    simp only [hp0, hp1, hp2, hp3, hp4] at hS
    have HS := Lib.hid hS; clear hS
    clear hp0 hp1 hp2 hp3 hp4
    go_quiet (fail)
    go_wp2_with fail
    go_ret
    exact ⟨congrArg (fun z => Ending.returned (.int .i64 z)) (by have := HS.out; omega), (HE2.out.on (Cell.g_drewN (Cell.grown_refl _) nq)).gr⟩

theorem specGap_is (a b : Int) (ha0 : 0 ≤ a) (ha1 : a ≤ 161000000) (hb0 : 0 ≤ b) (hb1 : b ≤ 161000000) (w : World) :
    Calls Try.prog 76 #[.int .i64 a, .int .i64 b] w fun e w' => e = .returned (.int .i64 (gapN a b)) ∧ w' = w := by
  by_cases hh : b < a
  · rw [show gapN a b = a - b by unfold gapN; omega]
    go_enter Try.func76, Try.ntmps76
    go_wp2
    go_ret
    exact ⟨rfl, rfl⟩
  · rw [show gapN a b = b - a by unfold gapN; omega]
    go_enter Try.func76, Try.ntmps76
    go_wp2
    go_ret
    exact ⟨rfl, rfl⟩

/-- The cells that a face's flux reads, at whatever world has grown out of this one. -/
theorem face_cells {R : Int} {a1 a2 a3 a4 : Option Addr} {n1 n2 n3 n4 k : Nat} {xs : List C3} {ms ts bs : List Int} {w : World} (h : ReadsS w a1 a2 a3 a4 n1 n2 n3 n4 xs ms ts bs) (hs : stOk R xs ms ts bs = true) (hk : k + 1 < n1) :
    ∃ g1 g2 o2 : Nat, a1 = some ⟨g1, 0, none⟩ ∧ a2 = some ⟨g2, o2, none⟩ ∧ n2 = n1 ∧ ∀ u, w.grownBy u none → u.cell? ⟨g1, k * 3 + 1, none⟩ = some (.int .i64 (lvAt xs k)) ∧ u.cell? ⟨g1, (k + 1) * 3 + 1, none⟩ = some (.int .i64 (lvAt xs (k + 1))) ∧ u.cell? ⟨g2, o2 + k, none⟩ = some (.int .i64 (msAt ms k)) ∧ u.cell? ⟨g2, o2 + (k + 1), none⟩ = some (.int .i64 (msAt ms (k + 1))) := by
  obtain ⟨rn, l, i, m, b, hx, hm, -, -, -, -, -, -, -, -, -, el, em⟩ := leaf_at hs (k := k) (by rw [h.l.len]; omega)
  obtain ⟨rn', l', i', m', b', hx', hm', -, -, -, -, -, -, -, -, -, el', em'⟩ := leaf_at hs (k := k + 1) (by rw [h.l.len]; omega)
  obtain ⟨-, ⟨p2, p3, p4⟩, -⟩ := stOk_parts hs
  obtain ⟨g1, rfl, -, -, d1, -⟩ := h.l.at_ _ _ hx
  obtain ⟨g1', e, -, -, d1', -⟩ := h.l.at_ _ _ hx'
  cases e
  obtain ⟨g2, o2, rfl, f0⟩ := h.m.at_ _ _ hm
  obtain ⟨g2', o2', e, f1⟩ := h.m.at_ _ _ hm'
  cases e
  dsimp only at d1 d1'
  rw [el, em, el', em']
  exact ⟨g1, g2, o2, rfl, rfl, by rw [← h.m.len, p2, h.l.len], fun u hu => ⟨hu.cell d1 (by simp), hu.cell d1' (by simp), hu.cell f0 (by simp), hu.cell f1 (by simp)⟩⟩

end Go.Proofs.Ytaccigmkddomaaa.State
