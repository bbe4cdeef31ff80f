/- States: the program's sides of a face, drop, flux, SurfaceOf, FaceFlux, as contracts: what each answers; nothing that was there is written.
   Conditions: the state is valid, or is found not to be; at most 2^20 leaves and numbers. -/
import Derived.Test.YtaccigmkddomaaaStFluxP
import Derived.Test.YtaccigmkddomaaaStI
import Derived.Test.YtaccigmkddomaaaPkDraw
import Derived.Deep.RegionWith
set_option maxRecDepth 100000
namespace Go.Proofs.Ytaccigmkddomaaa.Law
open Go.ChangeShapes Go.WideShapes Go.ChangeAt Go.RowKit Go.Joins Go.Proofs.Ytaccigmkddomaaa.Cell Go.Proofs.Ytaccigmkddomaaa.Mesh

theorem box3 {b : Nat} {t : TypeId} {x0 x1 x2 : Value} {W : World} (h : (boxG b t #[x0, x1, x2]).P W) : W.cell? ⟨b, 0, none⟩ = some x0 ∧ W.cell? ⟨b, 1, none⟩ = some x1 ∧ W.cell? ⟨b, 2, none⟩ = some x2 := ⟨boxG.cell h 0, boxG.cell h 1, boxG.cell h 2⟩
theorem free3 {b : Nat} {t : TypeId} {vs : Array Value} {W : World} (h : (boxG b t vs).P W) : W.frozen? ⟨b, 0, none⟩ = false ∧ W.frozen? ⟨b, 1, none⟩ = false ∧ W.frozen? ⟨b, 2, none⟩ = false := ⟨boxG.free h 0, boxG.free h 1, boxG.free h 2⟩
theorem box6 {b : Nat} {t : TypeId} {x0 x1 x2 x3 x4 x5 : Value} {W : World} (h : (boxG b t #[x0, x1, x2, x3, x4, x5]).P W) : W.cell? ⟨b, 0, none⟩ = some x0 ∧ W.cell? ⟨b, 1, none⟩ = some x1 ∧ W.cell? ⟨b, 2, none⟩ = some x2 ∧ W.cell? ⟨b, 3, none⟩ = some x3 ∧ W.cell? ⟨b, 4, none⟩ = some x4 ∧ W.cell? ⟨b, 5, none⟩ = some x5 :=
  ⟨boxG.cell h 0, boxG.cell h 1, boxG.cell h 2, boxG.cell h 3, boxG.cell h 4, boxG.cell h 5⟩
/-- A struct of three cells stored whole. -/
theorem Held.put3 {w W : World} {gs : List Grp} {b : Nat} {t : TypeId} {x0 x1 x2 : Value} (h : Held w W gs) (k : Nat) (hk : gs[k]? = some (boxG b t #[x0, x1, x2])) (y0 y1 y2 : Value) :
    Held w (((W.setCell ⟨b, 0, none⟩ y0).setCell ⟨b, 1, none⟩ y1).setCell ⟨b, 2, none⟩ y2) (gs.set k (boxG b t #[y0, y1, y2])) := by
  have hlt := (List.getElem?_eq_some_iff.1 hk).1
  have g1 : Held w _ (gs.set k (boxG b t #[y0, x1, x2])) := h.put k hk 0 y0
  have g2 : Held w _ ((gs.set k (boxG b t #[y0, x1, x2])).set k (boxG b t #[y0, y1, x2])) := g1.put k (by rw [List.getElem?_set_self hlt]) 1 y1
  rw [List.set_set] at g2
  have g3 : Held w _ ((gs.set k (boxG b t #[y0, y1, x2])).set k (boxG b t #[y0, y1, y2])) := g2.put k (by rw [List.getElem?_set_self hlt]) 2 y2
  rw [List.set_set] at g3
  exact g3
end Go.Proofs.Ytaccigmkddomaaa.Law
namespace Go.Proofs.Ytaccigmkddomaaa.State
open Go.ChangeShapes Go.WideShapes Go.ChangeAt Go.RowKit Go.Joins Go.Proofs.Ytaccigmkddomaaa.Cell Go.Proofs.Ytaccigmkddomaaa.Mesh Go.Proofs.Ytaccigmkddomaaa.Law Go.Proofs.Ytaccigmkddomaaa.Ints Go.Deep

set_option maxHeartbeats 4000000 in
theorem sideAt_is (R : Int) (a1 a2 a3 a4 : Option Addr) (n1 n2 n3 n4 c1 c2 c3 c4 k : Nat) (xs : List C3) (ms ts bs : List Int) (w : World) (h : ReadsS w a1 a2 a3 a4 n1 n2 n3 n4 xs ms ts bs) (h1 : n1 ≤ 1048576) (hs : stOk R xs ms ts bs = true) (hk : k < n1) :
    Calls Try.prog 67 #[.agg #[.int .i64 R, .slice a1 n1 c1, .slice a2 n2 c2, .slice a3 n3 c3, .slice a4 n4 c4], .int .i64 k] w fun e w' =>
      e = .returned (.agg #[.int .i64 (lvAt xs k), .int .i64 (msAt ms k), .int .i64 (surf xs ms bs k)]) ∧ w.grownBy w' none := by
  obtain ⟨rn, l, i, m, b, hx, hm, hb, l0, l1, m0, m1, b0, b1, hrn, es, el, em⟩ := leaf_at hs (k := k) (by rw [h.l.len]; exact hk)
  obtain ⟨-, ⟨p2, p3, p4⟩, -⟩ := stOk_parts hs
  have hn2 : n2 = n1 := by rw [← h.m.len, p2, h.l.len]
  have hn4 : rn < n4 := by rw [← h.b.len]; exact hrn
  rw [es, el, em]
  clear es el em p2 p3 p4 hrn
  obtain ⟨S, hS⟩ : ∃ S, b + m * 2 ^ l.toNat = S := ⟨_, rfl⟩
  rw [hS]
  subst hn2
  have hki : (k : Int) < n2 := by omega
  have hni : (n2 : Int) ≤ 1048576 := by omega
  have hri : (rn : Int) < n4 := by omega
  have he := ((Held.nil w).box 29 #[.int .i64 R, .slice a1 n2 c1, .slice a2 n2 c2, .slice a3 n3 c3, .slice a4 n4 c4]).box 84 #[.int .i64 0, .int .i64 0, .int .i64 0]
  simp only [World.size_alloc] at he
  have HE := Lib.hid he
  have HR := Lib.hid (h.on he.gr)
  clear he h h1
  go_enter Try.func67, Try.ntmps67
  go_upto_region 1 with fail
  generalize (w.alloc (.cells #[.int .i64 R, .slice a1 n2 c1, .slice a2 n2 c2, .slice a3 n3 c3, .slice a4 n4 c4] 29)).alloc (.cells #[.int .i64 0, .int .i64 0, .int .i64 0] 84) = W2 at *
  obtain ⟨p0, p1, p2, p3, p4⟩ := box5 (HE.out.nth 0 rfl)
  obtain ⟨g1, e, -, d0, d1, d2⟩ := HR.out.l.at_ k _ hx
  subst e
  dsimp only at d0 d1 d2
  go_upto_region 2 with fail
  have HE2 := Lib.hid (HE.out.box 35 #[.int .i64 (rn : Int), .int .i64 l, .int .i64 i])
  have HR2 := Lib.hid (HR.out.on (World.grownBy_alloc W2 (.cells #[.int .i64 (rn : Int), .int .i64 l, .int .i64 i] 35) none))
  obtain ⟨B, hB⟩ : ∃ B, B = W2.heap.size := ⟨_, rfl⟩
  rw [← hB] at HE2 ⊢
  clear hB p0 p1 p2 p3 p4 d0 d1 d2 HE HR
  generalize W2.alloc (.cells #[.int .i64 (rn : Int), .int .i64 l, .int .i64 i] 35) = W3 at *
  obtain ⟨p0, p1, p2, p3, p4⟩ := box5 (HE2.out.nth 0 rfl)
  obtain ⟨q0, q1, q2⟩ := box3 (HE2.out.nth 2 rfl)
  obtain ⟨g2, o2, e, f0⟩ := HR2.out.m.at_ k _ hm
  subst e
  obtain ⟨g4, o4, e, f1⟩ := HR2.out.b.at_ rn _ hb
  subst e
  have HM := Lib.hid hm
  clear hx hm hb hs
  have hp0 : (2 : Int) ^ (0 : Int).toNat = 1 := rfl
  have hp1 : (2 : Int) ^ (1 : Int).toNat = 2 := rfl
  have hp2 : (2 : Int) ^ (2 : Int).toNat = 4 := rfl
  have hp3 : (2 : Int) ^ (3 : Int).toNat = 8 := rfl
  have hp4 : (2 : Int) ^ (4 : Int).toNat = 16 := rfl
  rcases Cell.lvl l0 l1 with rfl | rfl | rfl | rfl | rfl
  all_goals
    simp only [hp0, hp1, hp2, hp3, hp4] at hS
    have HS := Lib.hid hS; clear hS
    clear hp0 hp1 hp2 hp3 hp4
    go_quiet (fail)
    have HE3 := Lib.hid (HE2.out.on (Cell.g_drewN (Cell.grown_refl _) nq))
    have HR3 := Lib.hid (HR2.out.m.on (Cell.g_drewN (Cell.grown_refl _) nq))
    clear p0 p1 p2 p3 p4 q0 q1 q2 f0 f1 HE2 HR2
    generalize W3.drewN nq = W4 at *
    obtain ⟨p0, p1, p2, p3, p4⟩ := box5 (HE3.out.nth 0 rfl)
    obtain ⟨t0, t1, t2⟩ := box3 (HE3.out.nth 1 rfl)
    obtain ⟨z0, z1, z2⟩ := free3 (HE3.out.nth 1 rfl)
    obtain ⟨q0, q1, q2⟩ := box3 (HE3.out.nth 2 rfl)
    obtain ⟨g2', o2', e, f0⟩ := HR3.out.at_ k _ HM.out
    cases e
    go_wp2_with fail
    go_region
    go_wp2_with fail
    have he := fun y z => (HE3.out.put3 1 rfl (.int .i64 y) (.int .i64 m) (.int .i64 z)).on (Mesh.gr_drew (Cell.grown_refl _))
    exact bodyPost_ret_by (results_cell_row (fn := Try.f67) rfl _ _ (w.heap.size + 1) _ _ (0, 0) _ rfl ((he _ _).nth 1 rfl) Try.underlying84 rfl (by kernel_rfl)) rfl ⟨congrArg (fun z => Ending.returned (.agg #[.int .i64 _, .int .i64 m, .int .i64 z])) (by have := HS.out; omega), (he _ _).gr⟩

end Go.Proofs.Ytaccigmkddomaaa.State
