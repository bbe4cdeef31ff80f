/- Borders and ledgers: the reference model's l13Apply and ApplyBorder, as contracts: what each answers, in memory of the call's own; nothing that was there is written (written by wip/tools/stleds.py).
   Conditions: at most 2^20 leaves and numbers. -/
import Derived.Test.YtngacnckejnllaaStLedI
set_option maxRecDepth 100000
namespace Go.Proofs.Ytngacnckejnllaa.State
open Go.ChangeShapes Go.WideShapes Go.ChangeAt Go.RowKit Go.Joins Go.Proofs.Ytngacnckejnllaa.Cell Go.Proofs.Ytngacnckejnllaa.Mesh Go.Proofs.Ytngacnckejnllaa.Law Go.Proofs.Ytngacnckejnllaa.Ints Go.Proofs.Ytngacnckejnllaa.Draws Go.Deep
set_option linter.unusedVariables false

set_option maxHeartbeats 16000000 in
theorem specApply_is (R : Int) (g1 g2 g3 g4 n1 n2 n3 n4 c1 c2 c3 c4 : Nat) (xs : List C3) (ms ts bs : List Int) (i s o : Int) (w : World) (h : ReadsS w (some ⟨g1, 0, none⟩) (some ⟨g2, 0, none⟩) (some ⟨g3, 0, none⟩) (some ⟨g4, 0, none⟩) n1 n2 n3 n4 xs ms ts bs) (h1 : n1 ≤ 1048576) (h2 : n2 ≤ 1048576) (h3 : n3 ≤ 1048576) (h4 : n4 ≤ 1048576) (hs : stOk R xs ms ts bs = true) (hb : bordB i s o = true) :
    Calls Try.prog 51 #[.agg #[.int .i64 R, .slice (some ⟨g1, 0, none⟩) n1 c1, .slice (some ⟨g2, 0, none⟩) n2 c2, .slice (some ⟨g3, 0, none⟩) n3 c3, .slice (some ⟨g4, 0, none⟩) n4 c4], .agg #[.int .i64 i, .int .i64 s, .int .i64 o]] w (GivesSL R n1 n2 n3 n4 xs (moreM ms i o) (moreT ms ts i s o) bs (inM ms i o) (outM ms o) (inT ms i s o) (outT ms ts o) w) := by
  have HCP := Lib.hid (show ∀ u, w.grownBy u none → Calls Try.prog 50 #[.agg #[.int .i64 R, .slice (some ⟨g1, 0, none⟩) n1 c1, .slice (some ⟨g2, 0, none⟩) n2 c2, .slice (some ⟨g3, 0, none⟩) n3 c3, .slice (some ⟨g4, 0, none⟩) n4 c4]] u (GivesS R n1 n2 n3 n4 xs ms ts bs u) from fun u hu => specStCopy_is R g1 g2 g3 g4 n1 n2 n3 n4 c1 c2 c3 c4 xs ms ts bs u (h.on hu) h1 h2 h3 h4)
  have he := ((((Held.nil w).box 29 #[.int .i64 R, .slice (some ⟨g1, 0, none⟩) n1 c1, .slice (some ⟨g2, 0, none⟩) n2 c2, .slice (some ⟨g3, 0, none⟩) n3 c3, .slice (some ⟨g4, 0, none⟩) n4 c4]).box 32 #[.int .i64 i, .int .i64 s, .int .i64 o]).box 29 #[.int .i64 0, .slice none 0 0, .slice none 0 0, .slice none 0 0, .slice none 0 0]).box 35 #[.int .i64 0, .int .i64 0, .int .i64 0, .int .i64 0]
  simp only [World.size_alloc] at he
  have HE := Lib.hid he; clear he
  obtain ⟨z1, z2, z3, -⟩ := st_sizes hs
  have hn2 := h.m.len
  have hn3 := h.t.len
  obtain ⟨K, hK⟩ : ∃ K, K = ms.length - 1 := ⟨_, rfl⟩
  have hKn : n2 = K + 1 := by omega
  obtain ⟨⟨u0, u1⟩, ⟨u2, u3, u4⟩, u5, u6⟩ := out_facts hs hb
  obtain ⟨s1, s2, s3, s4, s5⟩ := st_at hs (k := K) (by omega)
  obtain ⟨⟨v1, v2, v3⟩, ⟨v4, v5⟩, v6, v7⟩ := first_at hs hb
  have hl1 := st_sizes (less_ok hs hb)
  rw [← hK] at u1 u3 u4 u5 u6
  have hx := at_get (xs := ms) (k := K) (by omega)
  have hy := at_get (xs := ts) (k := K) (by omega)
  obtain ⟨i0, i1, -⟩ := of_decide_eq_true hb
  have hLM : ms.set K (atI ms K - outM ms o) = lessM ms o := by unfold lessM; rw [← hK]
  have hLT : ts.set K (atI ts K - outT ms ts o) = lessT ms ts o := by unfold lessT; rw [← hK]
  have hT : shareOf (atI ts K) (outM ms o) (atI ms K) = outT ms ts o := by unfold outT; rw [← hK]
  have hO : (atI ms K * o).tdiv 1000 = outM ms o := by unfold outM; rw [← hK, Int.tdiv_eq_ediv_of_nonneg u5]
  have hll := less_len (ms := ms) (ts := ts) (o := o)
  have hx' := at_get (xs := lessM ms o) (k := 0) (by omega)
  have hy' := at_get (xs := lessT ms ts o) (k := 0) (by omega)
  have HMB := Lib.hid (fun x (hx : x ∈ lessM ms o) => mass_bounds (stOk_parts (less_ok hs hb)).2.2.1 (stOk_parts (less_ok hs hb)).2.1.2.1 hx)
  have HMO : inM ms i o = (if roomB ms i o = true then i else 0) := rfl
  have HTO : inT ms i s o = (if roomB ms i o = true then i * s else 0) := rfl
  have HMM : moreM ms i o = (if roomB ms i o = true then (lessM ms o).set 0 (atI (lessM ms o) 0 + i) else lessM ms o) := rfl
  have HMT : moreT ms ts i s o = (if roomB ms i o = true then (lessT ms ts o).set 0 (atI (lessT ms ts o) 0 + i * s) else lessT ms ts o) := rfl
  have HRB : roomB ms i o = decide ((lessM ms o).sum + i ≤ 10000000) := rfl
  have hw1 : IntKind.i64.wrap (atI ms K * o) = atI ms K * o := IntWalk.i64_in _ (by omega)
  have hw2 : IntKind.i64.wrap (i * s) = i * s := IntWalk.i64_in _ (by omega)
  have hw3 : IntKind.i64.wrap (outM ms o) = outM ms o := IntWalk.i64_in _ (by omega)
  have hw4 : IntKind.i64.wrap (atI ms K - outM ms o) = atI ms K - outM ms o := IntWalk.i64_in _ (by omega)
  have hw5 : IntKind.i64.wrap (atI ts K - outT ms ts o) = atI ts K - outT ms ts o := IntWalk.i64_in _ (by omega)
  have hw6 : IntKind.i64.wrap ((lessM ms o).sum + i) = (lessM ms o).sum + i := IntWalk.i64_in _ (by omega)
  have hw7 : IntKind.i64.wrap (atI (lessM ms o) 0 + i) = atI (lessM ms o) 0 + i := IntWalk.i64_in _ (by omega)
  have hw8 : IntKind.i64.wrap (atI (lessT ms ts o) 0 + i * s) = atI (lessT ms ts o) 0 + i * s := IntWalk.i64_in _ (by omega)
  obtain ⟨g2', o2, e2, d2'⟩ := h.m.at_ K _ hx
  cases e2
  rw [Nat.zero_add] at d2'
  obtain ⟨g3', o3, e3, d3'⟩ := h.t.at_ K _ hy
  cases e3
  rw [Nat.zero_add] at d3'
  have HCM := Lib.hid (fun u (hu : w.grownBy u none) => hu.cell d2' (by simp))
  have HCT := Lib.hid (fun u (hu : w.grownBy u none) => hu.cell d3' (by simp))
  have HSH := Lib.hid (fun u => specShare_is (atI ts K) (outM ms o) (atI ms K) u)
  rw [hT] at HSH
  generalize outM ms o = m at *
  generalize outT ms ts o = T at *
  generalize lessM ms o = ms' at *
  generalize lessT ms ts o = ts' at *
  generalize inM ms i o = l0 at *
  generalize inT ms i s o = l2 at *
  generalize moreM ms i o = mm at *
  generalize moreT ms ts i s o = mt at *
  generalize atI ms K = x at *
  generalize atI ts K = y at *
  generalize atI ms' 0 = x' at *
  generalize atI ts' 0 = y' at *
  generalize roomB ms i o = rb at *
  have HX := Lib.hid (And.intro hx hy)
  have HX2 := Lib.hid (And.intro hx' hy')
  have H2 := Lib.hid h2
  have HLL := Lib.hid (And.intro hLM hLT)
  have hni : (n2 : Int) - 1 = K := by omega
  have hni0 : 1 ≤ (n2 : Int) := by omega
  have hni1 : (n2 : Int) ≤ 1048576 := by omega
  have hn30 : 0 < (n3 : Int) := by omega
  have HK3 := Lib.hid (show K < n2 ∧ K < n3 ∧ 0 < n2 ∧ 0 < n3 by omega)
  have hKi : (K : Int) < n2 := by omega
  have hKj : (K : Int) < n3 := by omega
  have HR := Lib.hid (And.intro HMO (And.intro HTO (And.intro HMM (And.intro HMT HRB))))
  clear h h1 h2 h3 h4 hs hb z1 z2 z3 hn2 hn3 hK hKn u0 u1 u2 u3 u4 u5 u6 s1 s2 s3 s4 s5 v1 v2 v3 v4 v5 v6 v7 hl1 hx hy i0 i1 hLM hLT hT hll hx' hy' HMO HTO HMM HMT HRB d2' d3'
  go_enter Try.func51, Try.ntmps51
  go_upto_region 1 with fail
  generalize (((w.alloc (.cells #[.int .i64 R, .slice (some ⟨g1, 0, none⟩) n1 c1, .slice (some ⟨g2, 0, none⟩) n2 c2, .slice (some ⟨g3, 0, none⟩) n3 c3, .slice (some ⟨g4, 0, none⟩) n4 c4] 29)).alloc (.cells #[.int .i64 i, .int .i64 s, .int .i64 o] 32)).alloc (.cells #[.int .i64 0, .slice none 0 0, .slice none 0 0, .slice none 0 0, .slice none 0 0] 29)).alloc (.cells #[.int .i64 0, .int .i64 0, .int .i64 0, .int .i64 0] 35) = W0 at *
  obtain ⟨p0, p1, p2, p3, p4⟩ := box5 (HE.out.nth 0 rfl)
  go_upto_region 2 with (go_at_call 50; ((with_reducible refine (HCP.out _ HE.out.gr).mono ?_); rintro e w1 ⟨q1, d1, q2, d2, q3, d3, q4, d4, rfl, ho, hg⟩; have HE1 := Lib.hid (State.Held.state HE.out hg ho); clear ho hg))
  obtain ⟨k2, y2, rfl, -, -, -⟩ := own_cellI (OwnS.m (HE1.out.nth 4 rfl)) HK3.out.1
  obtain ⟨k3, y3, rfl, -, -, -⟩ := own_cellI (OwnS.t (HE1.out.nth 4 rfl)) HK3.out.2.1
  have HE2 := Lib.hid (HE1.out.box 29 #[.int .i64 R, .slice q1 n1 d1, .slice (some ⟨k2, 0, none⟩) n2 d2, .slice (some ⟨k3, 0, none⟩) n3 d3, .slice q4 n4 d4])
  clear p0 p1 p2 p3 p4 HE HE1 HCP
  obtain ⟨B, hB⟩ : ∃ B, B = w1.heap.size := ⟨_, rfl⟩
  rw [← hB] at HE2 ⊢
  clear hB
  generalize w1.alloc (.cells #[.int .i64 R, .slice q1 n1 d1, .slice (some ⟨k2, 0, none⟩) n2 d2, .slice (some ⟨k3, 0, none⟩) n3 d3, .slice q4 n4 d4] 29) = W2 at *
  obtain ⟨p0, p1, p2, p3, p4⟩ := box5 (HE2.out.nth 0 rfl)
  obtain ⟨b0, b1, b2⟩ := cells3 (HE2.out.nth 1 rfl)
  have hcm := HCM.out _ HE2.out.gr
  have hct := HCT.out _ HE2.out.gr
  go_upto_region 3 with fail
  go_quiet (fail)
  have HE3 := Lib.hid (HE2.out.on (Cell.g_drewN (Cell.grown_refl _) nq))
  clear p0 p1 p2 p3 p4 b0 b1 b2 hcm hct HE2
  generalize W2.drewN nq = W3 at *
  obtain ⟨p0, p1, p2, p3, p4⟩ := box5 (HE3.out.nth 0 rfl)
  have hcm := HCM.out _ HE3.out.gr
  have hct := HCT.out _ HE3.out.gr
  go_upto_region 4 with fail
  go_quiet ((refine Calls.quiet_of_same (HSH.out _); done))
  have HE4 := Lib.hid (HE3.out.on (Cell.g_drewN (Cell.grown_refl _) nq))
  clear p0 p1 p2 p3 p4 hcm hct HE3 HCM HCT HSH hw1 hO hw3
  generalize W3.drewN nq = W4 at *
  go_upto_region 5 with fail

  go_cut [] from 38 to 48 (fun wx => Hid (Held w wx [boxG w.heap.size 29 #[.int .i64 R, .slice (some ⟨g1, 0, none⟩) n1 c1, .slice (some ⟨g2, 0, none⟩) n2 c2, .slice (some ⟨g3, 0, none⟩) n3 c3, .slice (some ⟨g4, 0, none⟩) n4 c4], boxG (w.heap.size + 1) 32 #[.int .i64 i, .int .i64 s, .int .i64 o], boxG (w.heap.size + 2) 29 #[.int .i64 0, .slice none 0 0, .slice none 0 0, .slice none 0 0, .slice none 0 0], boxG (w.heap.size + 3) 35 #[.int .i64 0, .int .i64 0, .int .i64 0, .int .i64 0], stateG (.slice q1 n1 d1) (.slice (some ⟨k2, 0, none⟩) n2 d2) (.slice (some ⟨k3, 0, none⟩) n3 d3) (.slice q4 n4 d4) n1 n2 n3 n4 xs ms' ts bs, boxG B 29 #[.int .i64 R, .slice q1 n1 d1, .slice (some ⟨k2, 0, none⟩) n2 d2, .slice (some ⟨k3, 0, none⟩) n3 d3, .slice q4 n4 d4]]))
  case first =>
    obtain ⟨p0, p1, p2, p3, p4⟩ := box5 (HE4.out.nth 5 rfl)
    obtain ⟨b0, b1, b2⟩ := cells3 (HE4.out.nth 1 rfl)
    obtain ⟨g', y9, e, r, mc, mf⟩ := own_cellI (OwnS.m (HE4.out.nth 4 rfl)) HK3.out.1
    cases e
    rw [HX.out.1] at r
    cases r
    go_region
    all_goals
      go_wp2_with fail
      go_meet
      first
        | (have q := State.Held.setMass (HE4.out.on (Mesh.gr_drew (Cell.grown_refl _))) 4 rfl K (x - m); rw [HLL.out.1] at q; exact Lib.hid q)
        | (have q := (State.Held.setMass HE4.out 4 rfl K (x - m)).on (Mesh.gr_drew (Cell.grown_refl _)); rw [HLL.out.1] at q; exact Lib.hid q)
        | (have q := State.Held.setMass HE4.out 4 rfl K (x - m); rw [HLL.out.1] at q; exact Lib.hid q)
  case rest =>
  have HE5 := Lib.hid hcut.out
  clear hcut HE4
  go_upto_region 6 with fail

  go_cut [] from 49 to 59 (fun wx => Hid (Held w wx [boxG w.heap.size 29 #[.int .i64 R, .slice (some ⟨g1, 0, none⟩) n1 c1, .slice (some ⟨g2, 0, none⟩) n2 c2, .slice (some ⟨g3, 0, none⟩) n3 c3, .slice (some ⟨g4, 0, none⟩) n4 c4], boxG (w.heap.size + 1) 32 #[.int .i64 i, .int .i64 s, .int .i64 o], boxG (w.heap.size + 2) 29 #[.int .i64 0, .slice none 0 0, .slice none 0 0, .slice none 0 0, .slice none 0 0], boxG (w.heap.size + 3) 35 #[.int .i64 0, .int .i64 0, .int .i64 0, .int .i64 0], stateG (.slice q1 n1 d1) (.slice (some ⟨k2, 0, none⟩) n2 d2) (.slice (some ⟨k3, 0, none⟩) n3 d3) (.slice q4 n4 d4) n1 n2 n3 n4 xs ms' ts' bs, boxG B 29 #[.int .i64 R, .slice q1 n1 d1, .slice (some ⟨k2, 0, none⟩) n2 d2, .slice (some ⟨k3, 0, none⟩) n3 d3, .slice q4 n4 d4]]))
  case first =>
    obtain ⟨p0, p1, p2, p3, p4⟩ := box5 (HE5.out.nth 5 rfl)
    obtain ⟨b0, b1, b2⟩ := cells3 (HE5.out.nth 1 rfl)
    obtain ⟨g', y9, e, r, mc, mf⟩ := own_cellI (OwnS.t (HE5.out.nth 4 rfl)) HK3.out.2.1
    cases e
    rw [HX.out.2] at r
    cases r
    go_region
    all_goals
      go_wp2_with fail
      go_meet
      first
        | (have q := State.Held.setTracer (HE5.out.on (Mesh.gr_drew (Cell.grown_refl _))) 4 rfl K (y - T); rw [HLL.out.2] at q; exact Lib.hid q)
        | (have q := (State.Held.setTracer HE5.out 4 rfl K (y - T)).on (Mesh.gr_drew (Cell.grown_refl _)); rw [HLL.out.2] at q; exact Lib.hid q)
        | (have q := State.Held.setTracer HE5.out 4 rfl K (y - T); rw [HLL.out.2] at q; exact Lib.hid q)
  case rest =>
  have HE6 := Lib.hid hcut.out
  clear hcut HE5
  clear hw4 hw5 HX HLL
  go_upto_region 8 with fail
  have HE7 := Lib.hid (HE6.out.box 35 #[.int .i64 0, .int .i64 m, .int .i64 0, .int .i64 T])
  clear HE6
  obtain ⟨D, hD⟩ : ∃ D, D = wc.heap.size := ⟨_, rfl⟩
  rw [← hD] at HE7 ⊢
  clear hD
  generalize wc.alloc (.cells #[.int .i64 0, .int .i64 m, .int .i64 0, .int .i64 T] 35) = W7 at *
  obtain ⟨X, hX⟩ : ∃ X, X = ms'.sum := ⟨_, rfl⟩
  have HSM := Lib.hid (show ∀ u, W7.grownBy u none → Calls Try.prog 44 #[.slice (some ⟨k2, 0, none⟩) n2 d2] u fun e w' => e = .returned (.int .i64 X) ∧ u.grownBy w' none from fun u hu => by
    have q := specSum_is (some ⟨k2, 0, none⟩) n2 d2 ms' u (OwnS.reads ((HE7.out.on hu).nth 4 rfl)).m H2.out (fun x hx => by have := HMB.out x hx; omega)
    rw [← hX] at q
    exact q)
  rw [← hX] at HR hw6
  clear hX
  obtain ⟨p0, p1, p2, p3, p4⟩ := box5 (HE7.out.nth 5 rfl)
  obtain ⟨b0, b1, b2⟩ := cells3 (HE7.out.nth 1 rfl)
  obtain ⟨e1, e2, e3, e4, e5⟩ := HR.out
  have HR' := Lib.hid (And.intro e1 (And.intro e2 (And.intro e3 e4)))
  have hgg : W7.grownBy W7 none := Cell.grown_refl _
  clear HR e1 e2 e3 e4
  go_region_held3 (fun w' => w'.cell? ⟨B, 2, none⟩ = some (.slice (some ⟨k2, 0, none⟩) n2 d2) ∧ w'.cell? ⟨w.heap.size + 1, 0, none⟩ = some (.int .i64 i) ∧ W7.grownBy w' none)
    ((go_split_ands; refine ⟨?_, ?_, ?_⟩ <;> first | assumption | exact hgc.cell (by assumption) (by simp) | exact Cell.grown_trans (by assumption) hgc | exact Cell.g_drew (by assumption)))
    (first
      | (go_at_call 44; ((with_reducible refine (HSM.out _ (by first | assumption | exact Cell.g_drew (by assumption))).mono ?_); rintro e w'' ⟨rfl, hgc⟩)))
  go_split_ands
  rename_i r2 r3 hr
  have HE8 := Lib.hid (HE7.out.on hr)
  clear r2 r3 hr hgc hgg p0 p1 p2 p3 p4 b0 b1 b2 HE7 HSM
  cases rb with
  | false =>
    obtain ⟨e1, e2, e3, e4⟩ := HR'.out
    rw [if_neg (by decide)] at e1 e2 e3 e4
    have HEQ := Lib.hid (And.intro e1 e2)
    have HEM := Lib.hid (And.intro e3 e4)
    have hno : ¬ X + i ≤ 10000000 := of_decide_eq_false e5.symm
    clear HR' e1 e2 e3 e4 e5
    go_upto_region 13 with fail
    obtain ⟨p0, p1, p2, p3, p4⟩ := box5 (HE8.out.nth 5 rfl)
    obtain ⟨x0, x1, x2, x3⟩ := cells4 (HE8.out.nth 6 rfl)
    obtain ⟨r0, r1, r2, r3, r4⟩ := box5 (HE8.out.nth 2 rfl)
    obtain ⟨f0, f1, f2, f3, f4⟩ := free5 (HE8.out.nth 2 rfl)
    obtain ⟨y0, y1, y2, y3⟩ := cells4 (HE8.out.nth 3 rfl)
    obtain ⟨e0, e1, e2, e3⟩ := frees4 (HE8.out.nth 3 rfl)
    have n25 : w.heap.size + 1 + 1 ≠ B := HE8.out.boxNe 2 5 (by decide) rfl rfl
    have n35 : w.heap.size + 1 + 1 + 1 ≠ B := HE8.out.boxNe 3 5 (by decide) rfl rfl
    have n26 : w.heap.size + 1 + 1 ≠ D := HE8.out.boxNe 2 6 (by decide) rfl rfl
    have n36 : w.heap.size + 1 + 1 + 1 ≠ D := HE8.out.boxNe 3 6 (by decide) rfl rfl
    go_region
    all_goals
      go_wp2_with fail
      have he := ((HE8.out.put5 2 rfl (.int .i64 R) (.slice q1 n1 d1) (.slice (some ⟨k2, 0, none⟩) n2 d2) (.slice (some ⟨k3, 0, none⟩) n3 d3) (.slice q4 n4 d4)).put4 3 rfl (.int .i64 0) (.int .i64 m) (.int .i64 0) (.int .i64 T)).on (Mesh.gr_drew (Cell.grown_refl _))
      exact bodyPost_ret_by (results_two_rows (fn := Try.f51) rfl _ _ (w.heap.size + 2) (w.heap.size + 3) _ _ _ _ (0, 0) (0, 0) _ _ rfl rfl (he.nth 2 rfl) (he.nth 3 rfl) Try.underlying29 rfl (by kernel_rfl) Try.underlying35 rfl (by kernel_rfl)) rfl ⟨q1, d1, some ⟨k2, 0, none⟩, d2, some ⟨k3, 0, none⟩, d3, q4, d4, (by rw [HEQ.out.1, HEQ.out.2]; try rfl), (by rw [HEM.out.1, HEM.out.2]; exact Held.stateOwn he 4 rfl), he.gr⟩
  | true =>
  obtain ⟨e1, e2, e3, e4⟩ := HR'.out
  rw [if_pos rfl] at e1 e2 e3 e4
  have HEQ := Lib.hid (And.intro e1 e2)
  have HEM := Lib.hid (And.intro e3 e4)
  have hyes : X + i ≤ 10000000 := of_decide_eq_true e5.symm
  clear HR' e1 e2 e3 e4 e5
  go_upto_region 9 with fail

  go_cut [] from 70 to 79 (fun wx => Hid (Held w wx [boxG w.heap.size 29 #[.int .i64 R, .slice (some ⟨g1, 0, none⟩) n1 c1, .slice (some ⟨g2, 0, none⟩) n2 c2, .slice (some ⟨g3, 0, none⟩) n3 c3, .slice (some ⟨g4, 0, none⟩) n4 c4], boxG (w.heap.size + 1) 32 #[.int .i64 i, .int .i64 s, .int .i64 o], boxG (w.heap.size + 2) 29 #[.int .i64 0, .slice none 0 0, .slice none 0 0, .slice none 0 0, .slice none 0 0], boxG (w.heap.size + 3) 35 #[.int .i64 0, .int .i64 0, .int .i64 0, .int .i64 0], stateG (.slice q1 n1 d1) (.slice (some ⟨k2, 0, none⟩) n2 d2) (.slice (some ⟨k3, 0, none⟩) n3 d3) (.slice q4 n4 d4) n1 n2 n3 n4 xs mm ts' bs, boxG B 29 #[.int .i64 R, .slice q1 n1 d1, .slice (some ⟨k2, 0, none⟩) n2 d2, .slice (some ⟨k3, 0, none⟩) n3 d3, .slice q4 n4 d4], boxG D 35 #[.int .i64 0, .int .i64 m, .int .i64 0, .int .i64 T]]))
  case first =>
    obtain ⟨p0, p1, p2, p3, p4⟩ := box5 (HE8.out.nth 5 rfl)
    obtain ⟨b0, b1, b2⟩ := cells3 (HE8.out.nth 1 rfl)
    obtain ⟨g', y9, e, r, mc, mf⟩ := own_cellI (OwnS.m (HE8.out.nth 4 rfl)) HK3.out.2.2.1
    cases e
    rw [HX2.out.1] at r
    cases r
    go_region
    all_goals
      go_wp2_with fail
      go_meet
      first
        | (have q := State.Held.setMass (HE8.out.on (Mesh.gr_drew (Cell.grown_refl _))) 4 rfl 0 (x' + i); rw [← HEM.out.1] at q; exact Lib.hid q)
        | (have q := (State.Held.setMass HE8.out 4 rfl 0 (x' + i)).on (Mesh.gr_drew (Cell.grown_refl _)); rw [← HEM.out.1] at q; exact Lib.hid q)
        | (have q := State.Held.setMass HE8.out 4 rfl 0 (x' + i); rw [← HEM.out.1] at q; exact Lib.hid q)
  case rest =>
  have HE9 := Lib.hid hcut.out
  clear hcut HE8
  go_upto_region 10 with fail

  go_cut [] from 80 to 92 (fun wx => Hid (Held w wx [boxG w.heap.size 29 #[.int .i64 R, .slice (some ⟨g1, 0, none⟩) n1 c1, .slice (some ⟨g2, 0, none⟩) n2 c2, .slice (some ⟨g3, 0, none⟩) n3 c3, .slice (some ⟨g4, 0, none⟩) n4 c4], boxG (w.heap.size + 1) 32 #[.int .i64 i, .int .i64 s, .int .i64 o], boxG (w.heap.size + 2) 29 #[.int .i64 0, .slice none 0 0, .slice none 0 0, .slice none 0 0, .slice none 0 0], boxG (w.heap.size + 3) 35 #[.int .i64 0, .int .i64 0, .int .i64 0, .int .i64 0], stateG (.slice q1 n1 d1) (.slice (some ⟨k2, 0, none⟩) n2 d2) (.slice (some ⟨k3, 0, none⟩) n3 d3) (.slice q4 n4 d4) n1 n2 n3 n4 xs mm mt bs, boxG B 29 #[.int .i64 R, .slice q1 n1 d1, .slice (some ⟨k2, 0, none⟩) n2 d2, .slice (some ⟨k3, 0, none⟩) n3 d3, .slice q4 n4 d4], boxG D 35 #[.int .i64 0, .int .i64 m, .int .i64 0, .int .i64 T]]))
  case first =>
    obtain ⟨p0, p1, p2, p3, p4⟩ := box5 (HE9.out.nth 5 rfl)
    obtain ⟨b0, b1, b2⟩ := cells3 (HE9.out.nth 1 rfl)
    obtain ⟨g', y9, e, r, mc, mf⟩ := own_cellI (OwnS.t (HE9.out.nth 4 rfl)) HK3.out.2.2.2
    cases e
    rw [HX2.out.2] at r
    cases r
    go_region
    all_goals
      go_wp2_with fail
      go_meet
      first
        | (have q := State.Held.setTracer (HE9.out.on (Mesh.gr_drew (Cell.grown_refl _))) 4 rfl 0 (y' + i * s); rw [← HEM.out.2] at q; exact Lib.hid q)
        | (have q := (State.Held.setTracer HE9.out 4 rfl 0 (y' + i * s)).on (Mesh.gr_drew (Cell.grown_refl _)); rw [← HEM.out.2] at q; exact Lib.hid q)
        | (have q := State.Held.setTracer HE9.out 4 rfl 0 (y' + i * s); rw [← HEM.out.2] at q; exact Lib.hid q)
  case rest =>
  have HE10 := Lib.hid hcut.out
  clear hcut HE9
  clear hw6 hw7 hw8 HX2
  obtain ⟨b0, b1, b2⟩ := cells3 (HE10.out.nth 1 rfl)
  obtain ⟨x0, x1, x2, x3⟩ := cells4 (HE10.out.nth 6 rfl)
  obtain ⟨e0, e1, e2, e3⟩ := frees4 (HE10.out.nth 6 rfl)
  go_upto_region 11 with fail
  go_upto_region 12 with fail
  have HE11 := Lib.hid (HE10.out.put 6 rfl 0 (.int .i64 i))
  clear b0 b1 b2 x0 x1 x2 x3 e0 e1 e2 e3 HE10
  generalize wc.setCell ⟨D, 0, none⟩ (.int .i64 i) = W11 at *
  obtain ⟨b0, b1, b2⟩ := cells3 (HE11.out.nth 1 rfl)
  obtain ⟨x0, x1, x2, x3⟩ := cells4 (HE11.out.nth 6 rfl)
  obtain ⟨e0, e1, e2, e3⟩ := frees4 (HE11.out.nth 6 rfl)
  go_upto_region 13 with fail
  have HE8 := Lib.hid (HE11.out.put 6 rfl 2 (.int .i64 (i * s)))
  clear b0 b1 b2 x0 x1 x2 x3 e0 e1 e2 e3 HE11
  generalize W11.setCell ⟨D, 2, none⟩ (.int .i64 (i * s)) = W12 at *
  obtain ⟨p0, p1, p2, p3, p4⟩ := box5 (HE8.out.nth 5 rfl)
  obtain ⟨x0, x1, x2, x3⟩ := cells4 (HE8.out.nth 6 rfl)
  obtain ⟨r0, r1, r2, r3, r4⟩ := box5 (HE8.out.nth 2 rfl)
  obtain ⟨f0, f1, f2, f3, f4⟩ := free5 (HE8.out.nth 2 rfl)
  obtain ⟨y0, y1, y2, y3⟩ := cells4 (HE8.out.nth 3 rfl)
  obtain ⟨e0, e1, e2, e3⟩ := frees4 (HE8.out.nth 3 rfl)
  have n25 : w.heap.size + 1 + 1 ≠ B := HE8.out.boxNe 2 5 (by decide) rfl rfl
  have n35 : w.heap.size + 1 + 1 + 1 ≠ B := HE8.out.boxNe 3 5 (by decide) rfl rfl
  have n26 : w.heap.size + 1 + 1 ≠ D := HE8.out.boxNe 2 6 (by decide) rfl rfl
  have n36 : w.heap.size + 1 + 1 + 1 ≠ D := HE8.out.boxNe 3 6 (by decide) rfl rfl
  go_region
  all_goals
    go_wp2_with fail
    have he := ((HE8.out.put5 2 rfl (.int .i64 R) (.slice q1 n1 d1) (.slice (some ⟨k2, 0, none⟩) n2 d2) (.slice (some ⟨k3, 0, none⟩) n3 d3) (.slice q4 n4 d4)).put4 3 rfl (.int .i64 i) (.int .i64 m) (.int .i64 (i * s)) (.int .i64 T)).on (Mesh.gr_drew (Cell.grown_refl _))
    exact bodyPost_ret_by (results_two_rows (fn := Try.f51) rfl _ _ (w.heap.size + 2) (w.heap.size + 3) _ _ _ _ (0, 0) (0, 0) _ _ rfl rfl (he.nth 2 rfl) (he.nth 3 rfl) Try.underlying29 rfl (by kernel_rfl) Try.underlying35 rfl (by kernel_rfl)) rfl ⟨q1, d1, some ⟨k2, 0, none⟩, d2, some ⟨k3, 0, none⟩, d3, q4, d4, (by rw [HEQ.out.1, HEQ.out.2]; try rfl), (by exact Held.stateOwn he 4 rfl), he.gr⟩

set_option maxHeartbeats 8000000 in
theorem specApplyBorder_is (R : Int) (g1 g2 g3 g4 n1 n2 n3 n4 c1 c2 c3 c4 : Nat) (xs : List C3) (ms ts bs : List Int) (i s o : Int) (w : World) (h : ReadsS w (some ⟨g1, 0, none⟩) (some ⟨g2, 0, none⟩) (some ⟨g3, 0, none⟩) (some ⟨g4, 0, none⟩) n1 n2 n3 n4 xs ms ts bs) (h1 : n1 ≤ 1048576) (h2 : n2 ≤ 1048576) (h3 : n3 ≤ 1048576) (h4 : n4 ≤ 1048576) :
    Calls Try.prog 21 #[.agg #[.int .i64 R, .slice (some ⟨g1, 0, none⟩) n1 c1, .slice (some ⟨g2, 0, none⟩) n2 c2, .slice (some ⟨g3, 0, none⟩) n3 c3, .slice (some ⟨g4, 0, none⟩) n4 c4], .agg #[.int .i64 i, .int .i64 s, .int .i64 o]] w (GivesSL R n1 n2 n3 n4 xs (apM R xs ms ts bs i s o) (apT R xs ms ts bs i s o) bs (apL0 R xs ms ts bs i s o) (apL1 R xs ms ts bs i s o) (apL2 R xs ms ts bs i s o) (apL3 R xs ms ts bs i s o) w) := by
  have HOK := Lib.hid (show ∀ u, w.grownBy u none → Calls Try.prog 14 #[.agg #[.int .i64 R, .slice (some ⟨g1, 0, none⟩) n1 c1, .slice (some ⟨g2, 0, none⟩) n2 c2, .slice (some ⟨g3, 0, none⟩) n3 c3, .slice (some ⟨g4, 0, none⟩) n4 c4]] u fun e w' => e = .returned (.bool (stOk R xs ms ts bs)) ∧ u.grownBy w' none from fun u hu => specStateOk_is R _ _ _ _ n1 n2 n3 n4 c1 c2 c3 c4 xs ms ts bs u (h.on hu) h1 h2 h3 h4)
  have HBO := Lib.hid (show ∀ u, Calls Try.prog 18 #[.agg #[.int .i64 i, .int .i64 s, .int .i64 o]] u fun e w' => e = .returned (.bool (bordB i s o)) ∧ u.grownBy w' none from fun u => specBorderOk_is i s o u)
  have HCP := Lib.hid (show ∀ u, w.grownBy u none → Calls Try.prog 50 #[.agg #[.int .i64 R, .slice (some ⟨g1, 0, none⟩) n1 c1, .slice (some ⟨g2, 0, none⟩) n2 c2, .slice (some ⟨g3, 0, none⟩) n3 c3, .slice (some ⟨g4, 0, none⟩) n4 c4]] u (GivesS R n1 n2 n3 n4 xs ms ts bs u) from fun u hu => specStCopy_is R g1 g2 g3 g4 n1 n2 n3 n4 c1 c2 c3 c4 xs ms ts bs u (h.on hu) h1 h2 h3 h4)
  have HAP := Lib.hid (show stOk R xs ms ts bs = true → bordB i s o = true → ∀ u, w.grownBy u none → Calls Try.prog 51 #[.agg #[.int .i64 R, .slice (some ⟨g1, 0, none⟩) n1 c1, .slice (some ⟨g2, 0, none⟩) n2 c2, .slice (some ⟨g3, 0, none⟩) n3 c3, .slice (some ⟨g4, 0, none⟩) n4 c4], .agg #[.int .i64 i, .int .i64 s, .int .i64 o]] u (GivesSL R n1 n2 n3 n4 xs (moreM ms i o) (moreT ms ts i s o) bs (inM ms i o) (outM ms o) (inT ms i s o) (outT ms ts o) u) from fun hs hb u hu => specApply_is R g1 g2 g3 g4 n1 n2 n3 n4 c1 c2 c3 c4 xs ms ts bs i s o u (h.on hu) h1 h2 h3 h4 hs hb)
  clear h h1 h2 h3 h4
  have he := ((((Held.nil w).box 29 #[.int .i64 R, .slice (some ⟨g1, 0, none⟩) n1 c1, .slice (some ⟨g2, 0, none⟩) n2 c2, .slice (some ⟨g3, 0, none⟩) n3 c3, .slice (some ⟨g4, 0, none⟩) n4 c4]).box 32 #[.int .i64 i, .int .i64 s, .int .i64 o]).box 29 #[.int .i64 0, .slice none 0 0, .slice none 0 0, .slice none 0 0, .slice none 0 0]).box 35 #[.int .i64 0, .int .i64 0, .int .i64 0, .int .i64 0]
  simp only [World.size_alloc] at he
  have HE := Lib.hid he; clear he
  cases hs : stOk R xs ms ts bs with
  | false =>
    have hp : apB R xs ms ts bs i s o = false := by unfold apB; rw [hs]; rfl
    unfold apM apT apL0 apL1 apL2 apL3
    rw [hp]
    rw [hs] at HOK
    simp only [Bool.false_eq_true, if_false]
    clear hs hp HAP
    go_enter Try.func21, Try.ntmps21
    go_upto_region 1 with fail
    generalize (((w.alloc (.cells #[.int .i64 R, .slice (some ⟨g1, 0, none⟩) n1 c1, .slice (some ⟨g2, 0, none⟩) n2 c2, .slice (some ⟨g3, 0, none⟩) n3 c3, .slice (some ⟨g4, 0, none⟩) n4 c4] 29)).alloc (.cells #[.int .i64 i, .int .i64 s, .int .i64 o] 32)).alloc (.cells #[.int .i64 0, .slice none 0 0, .slice none 0 0, .slice none 0 0, .slice none 0 0] 29)).alloc (.cells #[.int .i64 0, .int .i64 0, .int .i64 0, .int .i64 0] 35) = W0 at *
    obtain ⟨p0, p1, p2, p3, p4⟩ := box5 (HE.out.nth 0 rfl)
    obtain ⟨b0, b1, b2⟩ := cells3 (HE.out.nth 1 rfl)
    go_wp2_with (first
      | (go_at_call 14; ((with_reducible refine (HOK.out _ HE.out.gr).mono ?_); rintro e w1 ⟨rfl, hg⟩; have HE1 := Lib.hid (HE.out.on hg); obtain ⟨z0, z1, z2, z3, z4⟩ := box5 (HE1.out.nth 0 rfl); obtain ⟨y0, y1, y2⟩ := cells3 (HE1.out.nth 1 rfl); clear hg))
      | (go_at_call 18; ((with_reducible refine (HBO.out _).mono ?_); rintro e w2 ⟨rfl, hg⟩; have HE1 := Lib.hid (HE1.out.on hg); obtain ⟨z0, z1, z2, z3, z4⟩ := box5 (HE1.out.nth 0 rfl); clear hg))
      | (go_at_call 50; ((with_reducible refine (HCP.out _ HE1.out.gr).mono ?_); rintro e w2 ⟨q1, d1, q2, d2, q3, d3, q4, d4, rfl, ho, hg⟩; have HE2 := Lib.hid (State.Held.state HE1.out hg ho); obtain ⟨r0, r1, r2, r3, r4⟩ := box5 (HE2.out.nth 2 rfl); obtain ⟨f0, f1, f2, f3, f4⟩ := free5 (HE2.out.nth 2 rfl); obtain ⟨x0, x1, x2, x3⟩ := cells4 (HE2.out.nth 3 rfl); obtain ⟨e0, e1, e2, e3⟩ := frees4 (HE2.out.nth 3 rfl); clear ho hg)))
    have he := (HE2.out.put5 2 rfl (.int .i64 R) (.slice q1 n1 d1) (.slice q2 n2 d2) (.slice q3 n3 d3) (.slice q4 n4 d4)).put4 3 rfl (.int .i64 0) (.int .i64 0) (.int .i64 0) (.int .i64 0)
    exact bodyPost_ret_by (results_two_rows (fn := Try.f21) rfl _ _ (w.heap.size + 2) (w.heap.size + 3) _ _ _ _ (0, 0) (0, 0) _ _ rfl rfl (he.nth 2 rfl) (he.nth 3 rfl) Try.underlying29 rfl (by kernel_rfl) Try.underlying35 rfl (by kernel_rfl)) rfl ⟨q1, d1, q2, d2, q3, d3, q4, d4, rfl, Held.stateOwn he 4 rfl, he.gr⟩
  | true =>
  cases hb : bordB i s o with
  | false =>
    have hp : apB R xs ms ts bs i s o = false := by unfold apB; rw [hs, hb]; rfl
    unfold apM apT apL0 apL1 apL2 apL3
    rw [hp]
    rw [hs] at HOK
    rw [hb] at HBO
    simp only [Bool.false_eq_true, if_false]
    clear hs hp hb HAP
    go_enter Try.func21, Try.ntmps21
    go_upto_region 1 with fail
    generalize (((w.alloc (.cells #[.int .i64 R, .slice (some ⟨g1, 0, none⟩) n1 c1, .slice (some ⟨g2, 0, none⟩) n2 c2, .slice (some ⟨g3, 0, none⟩) n3 c3, .slice (some ⟨g4, 0, none⟩) n4 c4] 29)).alloc (.cells #[.int .i64 i, .int .i64 s, .int .i64 o] 32)).alloc (.cells #[.int .i64 0, .slice none 0 0, .slice none 0 0, .slice none 0 0, .slice none 0 0] 29)).alloc (.cells #[.int .i64 0, .int .i64 0, .int .i64 0, .int .i64 0] 35) = W0 at *
    obtain ⟨p0, p1, p2, p3, p4⟩ := box5 (HE.out.nth 0 rfl)
    obtain ⟨b0, b1, b2⟩ := cells3 (HE.out.nth 1 rfl)
    go_wp2_with (first
      | (go_at_call 14; ((with_reducible refine (HOK.out _ HE.out.gr).mono ?_); rintro e w1 ⟨rfl, hg⟩; have HE1 := Lib.hid (HE.out.on hg); obtain ⟨z0, z1, z2, z3, z4⟩ := box5 (HE1.out.nth 0 rfl); obtain ⟨y0, y1, y2⟩ := cells3 (HE1.out.nth 1 rfl); clear hg))
      | (go_at_call 18; ((with_reducible refine (HBO.out _).mono ?_); rintro e w2 ⟨rfl, hg⟩; have HE1 := Lib.hid (HE1.out.on hg); obtain ⟨z0, z1, z2, z3, z4⟩ := box5 (HE1.out.nth 0 rfl); clear hg))
      | (go_at_call 50; ((with_reducible refine (HCP.out _ HE1.out.gr).mono ?_); rintro e w2 ⟨q1, d1, q2, d2, q3, d3, q4, d4, rfl, ho, hg⟩; have HE2 := Lib.hid (State.Held.state HE1.out hg ho); obtain ⟨r0, r1, r2, r3, r4⟩ := box5 (HE2.out.nth 2 rfl); obtain ⟨f0, f1, f2, f3, f4⟩ := free5 (HE2.out.nth 2 rfl); obtain ⟨x0, x1, x2, x3⟩ := cells4 (HE2.out.nth 3 rfl); obtain ⟨e0, e1, e2, e3⟩ := frees4 (HE2.out.nth 3 rfl); clear ho hg)))
    have he := (HE2.out.put5 2 rfl (.int .i64 R) (.slice q1 n1 d1) (.slice q2 n2 d2) (.slice q3 n3 d3) (.slice q4 n4 d4)).put4 3 rfl (.int .i64 0) (.int .i64 0) (.int .i64 0) (.int .i64 0)
    exact bodyPost_ret_by (results_two_rows (fn := Try.f21) rfl _ _ (w.heap.size + 2) (w.heap.size + 3) _ _ _ _ (0, 0) (0, 0) _ _ rfl rfl (he.nth 2 rfl) (he.nth 3 rfl) Try.underlying29 rfl (by kernel_rfl) Try.underlying35 rfl (by kernel_rfl)) rfl ⟨q1, d1, q2, d2, q3, d3, q4, d4, rfl, Held.stateOwn he 4 rfl, he.gr⟩
  | true =>
    have hp : apB R xs ms ts bs i s o = true := by unfold apB; rw [hs, hb]; rfl
    rw [show apM R xs ms ts bs i s o = moreM ms i o from if_pos hp, show apT R xs ms ts bs i s o = moreT ms ts i s o from if_pos hp, show apL0 R xs ms ts bs i s o = inM ms i o from if_pos hp, show apL1 R xs ms ts bs i s o = outM ms o from if_pos hp, show apL2 R xs ms ts bs i s o = inT ms i s o from if_pos hp, show apL3 R xs ms ts bs i s o = outT ms ts o from if_pos hp]
    have HA2 := Lib.hid (HAP.out hs hb)
    rw [hs] at HOK
    rw [hb] at HBO
    clear hs hp hb HAP HCP
    generalize moreM ms i o = mm at *
    generalize moreT ms ts i s o = mt at *
    generalize inM ms i o = l0 at *
    generalize outM ms o = l1 at *
    generalize inT ms i s o = l2 at *
    generalize outT ms ts o = l3 at *
    go_enter Try.func21, Try.ntmps21
    go_upto_region 1 with fail
    generalize (((w.alloc (.cells #[.int .i64 R, .slice (some ⟨g1, 0, none⟩) n1 c1, .slice (some ⟨g2, 0, none⟩) n2 c2, .slice (some ⟨g3, 0, none⟩) n3 c3, .slice (some ⟨g4, 0, none⟩) n4 c4] 29)).alloc (.cells #[.int .i64 i, .int .i64 s, .int .i64 o] 32)).alloc (.cells #[.int .i64 0, .slice none 0 0, .slice none 0 0, .slice none 0 0, .slice none 0 0] 29)).alloc (.cells #[.int .i64 0, .int .i64 0, .int .i64 0, .int .i64 0] 35) = W0 at *
    obtain ⟨p0, p1, p2, p3, p4⟩ := box5 (HE.out.nth 0 rfl)
    obtain ⟨b0, b1, b2⟩ := cells3 (HE.out.nth 1 rfl)
    go_wp2_with (first
      | (go_at_call 14; ((with_reducible refine (HOK.out _ HE.out.gr).mono ?_); rintro e w1 ⟨rfl, hg⟩; have HE1 := Lib.hid (HE.out.on hg); obtain ⟨z0, z1, z2, z3, z4⟩ := box5 (HE1.out.nth 0 rfl); obtain ⟨y0, y1, y2⟩ := cells3 (HE1.out.nth 1 rfl); clear hg))
      | (go_at_call 18; ((with_reducible refine (HBO.out _).mono ?_); rintro e w2 ⟨rfl, hg⟩; have HE1 := Lib.hid (HE1.out.on hg); obtain ⟨z0, z1, z2, z3, z4⟩ := box5 (HE1.out.nth 0 rfl); obtain ⟨y0, y1, y2⟩ := cells3 (HE1.out.nth 1 rfl); clear hg))
      | (go_at_call 51; ((with_reducible refine (HA2.out _ HE1.out.gr).mono ?_); rintro e w2 ⟨q1, d1, q2, d2, q3, d3, q4, d4, rfl, ho, hg⟩; have HE2 := Lib.hid (State.Held.state HE1.out hg ho); obtain ⟨r0, r1, r2, r3, r4⟩ := box5 (HE2.out.nth 2 rfl); obtain ⟨f0, f1, f2, f3, f4⟩ := free5 (HE2.out.nth 2 rfl); obtain ⟨x0, x1, x2, x3⟩ := cells4 (HE2.out.nth 3 rfl); obtain ⟨e0, e1, e2, e3⟩ := frees4 (HE2.out.nth 3 rfl); clear ho hg)))
    have he := (HE2.out.put5 2 rfl (.int .i64 R) (.slice q1 n1 d1) (.slice q2 n2 d2) (.slice q3 n3 d3) (.slice q4 n4 d4)).put4 3 rfl (.int .i64 l0) (.int .i64 l1) (.int .i64 l2) (.int .i64 l3)
    exact bodyPost_ret_by (results_two_rows (fn := Try.f21) rfl _ _ (w.heap.size + 2) (w.heap.size + 3) _ _ _ _ (0, 0) (0, 0) _ _ rfl rfl (he.nth 2 rfl) (he.nth 3 rfl) Try.underlying29 rfl (by kernel_rfl) Try.underlying35 rfl (by kernel_rfl)) rfl ⟨q1, d1, q2, d2, q3, d3, q4, d4, rfl, Held.stateOwn he 4 rfl, he.gr⟩
end Go.Proofs.Ytngacnckejnllaa.State
