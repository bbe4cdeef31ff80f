/- States: RefineState and CoarsenState of the reference model, as contracts: the changed state or the state itself, in memory of its own; nothing that was there is written (written by wip/tools/stref.py).
   Conditions: at most 2^20 leaves and numbers. -/
import Derived.Test.YtfoilfgiablleaaStSplitS
import Derived.Test.YtfoilfgiablleaaStMergeS
import Derived.Test.YtfoilfgiablleaaPkBal
set_option maxRecDepth 100000
namespace Go.Proofs.Ytfoilfgiablleaa.State
open Go.ChangeShapes Go.WideShapes Go.ChangeAt Go.RowKit Go.Joins Go.Proofs.Ytfoilfgiablleaa.Cell Go.Proofs.Ytfoilfgiablleaa.Mesh Go.Proofs.Ytfoilfgiablleaa.Law Go.Proofs.Ytfoilfgiablleaa.Ints Go.Proofs.Ytfoilfgiablleaa.Draws Go.Deep
set_option linter.unusedVariables false

set_option maxHeartbeats 16000000 in
theorem specRefState_is (R : Int) (g1 g2 g3 g4 n1 n2 n3 n4 c1 c2 c3 c4 : Nat) (xs : List C3) (ms ts bs : List Int) (i : Int) (w : World) (h : RoomS w (some ⟨g1, 0, none⟩) (some ⟨g2, 0, none⟩) (some ⟨g3, 0, none⟩) (some ⟨g4, 0, none⟩) n1 n2 n3 n4 c1 c2 c3 c4 xs ms ts bs) (h1 : n1 ≤ 1048576) (h2 : n2 ≤ 1048576) (h3 : n3 ≤ 1048576) (h4 : n4 ≤ 1048576) :
    Calls Try.prog 34 #[.agg #[.int .i64 R, .slice (some ⟨g1, 0, none⟩) n1 c1, .slice (some ⟨g2, 0, none⟩) n2 c2, .slice (some ⟨g3, 0, none⟩) n3 c3, .slice (some ⟨g4, 0, none⟩) n4 c4], .int .i64 i] w (GivesSB (refB R xs ms ts bs i) R (refX R xs ms ts bs i).length (refM R xs ms ts bs i).length (refT R xs ms ts bs i).length n4 (refX R xs ms ts bs i) (refM R xs ms ts bs i) (refT R xs ms ts bs i) bs w) := by
  have hok : ∀ u, w.grownBy u none → Calls Try.prog 19 #[.agg #[.int .i64 R, .slice (some ⟨g1, 0, none⟩) n1 c1, .slice (some ⟨g2, 0, none⟩) n2 c2, .slice (some ⟨g3, 0, none⟩) n3 c3, .slice (some ⟨g4, 0, none⟩) n4 c4]] u fun e w' => e = .returned (.bool (stOk R xs ms ts bs)) ∧ u.grownBy w' none := fun u hu => specStateOk_is R _ _ _ _ n1 n2 n3 n4 c1 c2 c3 c4 xs ms ts bs u (h.r.on hu) h1 h2 h3 h4
  have HCP := Lib.hid (show ∀ u, w.grownBy u none → Calls Try.prog 65 #[.agg #[.int .i64 R, .slice (some ⟨g1, 0, none⟩) n1 c1, .slice (some ⟨g2, 0, none⟩) n2 c2, .slice (some ⟨g3, 0, none⟩) n3 c3, .slice (some ⟨g4, 0, none⟩) n4 c4]] u (GivesS R n1 n2 n3 n4 xs ms ts bs u) from fun u hu => specStCopy_is R _ _ _ _ n1 n2 n3 n4 c1 c2 c3 c4 xs ms ts bs u (h.r.on hu) h1 h2 h3 h4)
  have hmr : ∀ u, w.grownBy u none → Calls Try.prog 64 #[.agg #[.int .i64 R, .slice (some ⟨g1, 0, none⟩) n1 c1], .int .i64 i] u fun e w' => e = .returned (.bool (mayRef R xs i)) ∧ u.grownBy w' none := fun u hu => specMayRef_is R i _ n1 c1 xs u (h.r.l.on hu) h1
  have he := ((Held.nil w).box 29 #[.int .i64 R, .slice (some ⟨g1, 0, none⟩) n1 c1, .slice (some ⟨g2, 0, none⟩) n2 c2, .slice (some ⟨g3, 0, none⟩) n3 c3, .slice (some ⟨g4, 0, none⟩) n4 c4]).box 29 #[.int .i64 0, .slice none 0 0, .slice none 0 0, .slice none 0 0, .slice none 0 0]
  simp only [World.size_alloc] at he
  have HE := Lib.hid he; clear he
  have L1 := h.r.l.len; have L2 := h.r.m.len; have L3 := h.r.t.len; have L4 := h.r.b.len
  cases hs : stOk R xs ms ts bs with
  | false =>
    have hp : refB R xs ms ts bs i = false := by simp [refB, hs]
    obtain ⟨e1, e2, e3⟩ := ref_no hp
    rw [hp, e1, e2, e3, L1, L2, L3]
    rw [hs] at hok
    have HOK := Lib.hid hok
    clear hok hmr h h1 h2 h3 h4 L1 L2 L3 L4 hs hp e1 e2 e3
    go_enter Try.func34, Try.ntmps34
    go_upto_region 1 with fail
    generalize (w.alloc (.cells #[.int .i64 R, .slice (some ⟨g1, 0, none⟩) n1 c1, .slice (some ⟨g2, 0, none⟩) n2 c2, .slice (some ⟨g3, 0, none⟩) n3 c3, .slice (some ⟨g4, 0, none⟩) n4 c4] 29)).alloc (.cells #[.int .i64 0, .slice none 0 0, .slice none 0 0, .slice none 0 0, .slice none 0 0] 29) = W0 at *
    obtain ⟨p0, p1, p2, p3, p4⟩ := box5 (HE.out.nth 0 rfl)
    go_wp2_with (first | (go_at_call 19; ((with_reducible refine (HOK.out _ HE.out.gr).mono ?_); rintro e w1 ⟨rfl, hg⟩; have HE1 := Lib.hid (HE.out.on hg); obtain ⟨z0, z1, z2, z3, z4⟩ := box5 (HE1.out.nth 0 rfl); clear hg)) | (go_at_call 65; ((with_reducible refine (HCP.out _ HE1.out.gr).mono ?_); rintro e w3 ⟨q1, d1, q2, d2, q3, d3, q4, d4, rfl, ho, hg⟩; have HE2 := Lib.hid (State.Held.state HE1.out hg ho); obtain ⟨r0, r1, r2, r3, r4⟩ := box5 (HE2.out.nth 1 rfl); obtain ⟨f0, f1, f2, f3, f4⟩ := free5 (HE2.out.nth 1 rfl); clear ho hg)))
    have he := HE2.out.put5 1 rfl (.int .i64 R) (.slice q1 n1 d1) (.slice q2 n2 d2) (.slice q3 n3 d3) (.slice q4 n4 d4)
    exact bodyPost_ret_by (results_row_tmp rfl _ _ (w.heap.size + 1) _ _ (0, 0) _ rfl (he.nth 1 rfl) Try.underlying29 rfl (by kernel_rfl)) rfl ⟨q1, d1, q2, d2, q3, d3, q4, d4, rfl, Held.stateOwn he 2 rfl, he.gr⟩
  | true =>
    rw [hs] at hok
    have HOK := Lib.hid hok
    cases hm : mayRef R xs i with
    | false =>
      have hp : refB R xs ms ts bs i = false := by simp [refB, hm]
      obtain ⟨e1, e2, e3⟩ := ref_no hp
      rw [hp, e1, e2, e3, L1, L2, L3]
      rw [hm] at hmr
      have HMR := Lib.hid hmr
      clear hok hmr h h1 h2 h3 h4 L1 L2 L3 L4 hs hm hp e1 e2 e3
      go_enter Try.func34, Try.ntmps34
      go_upto_region 1 with fail
      generalize (w.alloc (.cells #[.int .i64 R, .slice (some ⟨g1, 0, none⟩) n1 c1, .slice (some ⟨g2, 0, none⟩) n2 c2, .slice (some ⟨g3, 0, none⟩) n3 c3, .slice (some ⟨g4, 0, none⟩) n4 c4] 29)).alloc (.cells #[.int .i64 0, .slice none 0 0, .slice none 0 0, .slice none 0 0, .slice none 0 0] 29) = W0 at *
      obtain ⟨p0, p1, p2, p3, p4⟩ := box5 (HE.out.nth 0 rfl)
      go_wp2_with (first | (go_at_call 19; ((with_reducible refine (HOK.out _ HE.out.gr).mono ?_); rintro e w1 ⟨rfl, hg⟩; have HE1 := Lib.hid (HE.out.on hg); obtain ⟨z0, z1, z2, z3, z4⟩ := box5 (HE1.out.nth 0 rfl); clear hg)) | (go_at_call 64; ((with_reducible refine (HMR.out _ HE1.out.gr).mono ?_); rintro e w2 ⟨rfl, hg⟩; have HE2 := Lib.hid (HE1.out.on hg); obtain ⟨y0, y1, y2, y3, y4⟩ := box5 (HE2.out.nth 0 rfl); clear hg)) | (go_at_call 65; ((with_reducible refine (HCP.out _ HE2.out.gr).mono ?_); rintro e w3 ⟨q1, d1, q2, d2, q3, d3, q4, d4, rfl, ho, hg⟩; have HE3 := Lib.hid (State.Held.state HE2.out hg ho); obtain ⟨r0, r1, r2, r3, r4⟩ := box5 (HE3.out.nth 1 rfl); obtain ⟨f0, f1, f2, f3, f4⟩ := free5 (HE3.out.nth 1 rfl); clear ho hg)))
      have he := HE3.out.put5 1 rfl (.int .i64 R) (.slice q1 n1 d1) (.slice q2 n2 d2) (.slice q3 n3 d3) (.slice q4 n4 d4)
      exact bodyPost_ret_by (results_row_tmp rfl _ _ (w.heap.size + 1) _ _ (0, 0) _ rfl (he.nth 1 rfl) Try.underlying29 rfl (by kernel_rfl)) rfl ⟨q1, d1, q2, d2, q3, d3, q4, d4, rfl, Held.stateOwn he 2 rfl, he.gr⟩
    | true =>
      rw [hm] at hmr
      have HMR := Lib.hid hmr
      obtain ⟨hpre, hfl⟩ := pre_of hs
      obtain ⟨-, k, x, rfl, hx, -, hl, -⟩ := mayRef_parts hm
      have hq := hpre.split hx hl
      obtain ⟨-, m1, m2⟩ := mesh_parts hq.mesh
      have l1 : (split2 xs k).length = n1 + 1 := by rw [split2_len hx, L1]
      have l2 : (splitM ms k).length = n2 + 1 := by have := hq.lm; have := hpre.lm; omega
      have l3 : (splitT ms ts k).length = n3 + 1 := by have := hq.lt; have := hpre.lt; omega
      have HSP := Lib.hid (fun u hu => specStSplit_is R g1 g2 g3 g4 n1 n2 n3 n4 c1 c2 c3 c4 k xs ms ts bs x u (h.on hu) hpre hx hl)
      have hrb : refB R xs ms ts bs (k : Int) = decide (firstGap (split2 xs k) < 0) := by simp [refB, hs, hm]
      have hbl : ∀ (u : World) (a1 : Option Addr) (d1 : Nat), Reads u a1 (n1 + 1) (split2 xs k) → Calls Try.prog 74 #[.agg #[.int .i64 R, .slice a1 (n1 + 1) d1]] u fun e w' => e = .returned (.int .i64 (firstGap (split2 xs k))) ∧ u.grownBy w' none := fun u a1 d1 hu => specFirst_is R a1 (n1 + 1) d1 (split2 xs k) u hu (by omega) hq.mesh
      by_cases hb : firstGap (split2 xs k) < 0
      case pos =>
        have hp : refB R xs ms ts bs (k : Int) = true := by rw [hrb]; exact decide_eq_true hb
        obtain ⟨-, -, k', -, ek, -, -, -, -, e1, e2, e3⟩ := refB_parts hp
        obtain rfl : k = k' := by omega
        rw [hp, e1, e2, e3, l1, l2, l3]
        have HBL := Lib.hid hbl
        obtain ⟨fg, hfg⟩ : ∃ q, q = firstGap (split2 xs k) := ⟨_, rfl⟩
        rw [← hfg] at HBL hb
        clear hok hmr h h1 h2 h3 h4 L1 L2 L3 L4 hs hm hp e1 e2 e3 hpre hfl hx hl hq m1 m2 l1 l2 l3 hrb hbl ek hfg
        go_enter Try.func34, Try.ntmps34
        go_upto_region 1 with fail
        generalize (w.alloc (.cells #[.int .i64 R, .slice (some ⟨g1, 0, none⟩) n1 c1, .slice (some ⟨g2, 0, none⟩) n2 c2, .slice (some ⟨g3, 0, none⟩) n3 c3, .slice (some ⟨g4, 0, none⟩) n4 c4] 29)).alloc (.cells #[.int .i64 0, .slice none 0 0, .slice none 0 0, .slice none 0 0, .slice none 0 0] 29) = W0 at *
        obtain ⟨p0, p1, p2, p3, p4⟩ := box5 (HE.out.nth 0 rfl)
        go_upto_region 3 with (first | (go_at_call 19; ((with_reducible refine (HOK.out _ HE.out.gr).mono ?_); rintro e w1 ⟨rfl, hg⟩; have HE1 := Lib.hid (HE.out.on hg); obtain ⟨z0, z1, z2, z3, z4⟩ := box5 (HE1.out.nth 0 rfl); clear hg)) | (go_at_call 64; ((with_reducible refine (HMR.out _ HE1.out.gr).mono ?_); rintro e w2 ⟨rfl, hg⟩; have HE2 := Lib.hid (HE1.out.on hg); obtain ⟨y0, y1, y2, y3, y4⟩ := box5 (HE2.out.nth 0 rfl); clear hg)))
        clear p0 p1 p2 p3 p4 z0 z1 z2 z3 z4 HE HE1
        go_upto_region 4 with (go_at_call 67; ((with_reducible refine (HSP.out _ HE2.out.gr).mono ?_); rintro e w3 ⟨q1, d1, q2, d2, q3, d3, q4, d4, rfl, ho, hg⟩; have HE3 := Lib.hid (State.Held.state HE2.out hg ho); clear ho hg))
        clear y0 y1 y2 y3 y4 HE2
        have HE4 := Lib.hid (HE3.out.box 29 #[.int .i64 R, .slice q1 (n1 + 1) d1, .slice q2 (n2 + 1) d2, .slice q3 (n3 + 1) d3, .slice q4 n4 d4]); clear HE3
        obtain ⟨B2, hB2⟩ : ∃ B, B = w3.heap.size := ⟨_, rfl⟩
        rw [← hB2] at HE4 ⊢
        clear hB2
        generalize w3.alloc (.cells #[.int .i64 R, .slice q1 (n1 + 1) d1, .slice q2 (n2 + 1) d2, .slice q3 (n3 + 1) d3, .slice q4 n4 d4] 29) = W3 at *
        obtain ⟨o0, o1, o2, o3, o4⟩ := box5 (HE4.out.nth 3 rfl)
        go_wp2_with (go_at_call 74; ((with_reducible refine (HBL.out _ _ _ (OwnS.reads (HE4.out.nth 2 rfl)).l).mono ?_); rintro e w4 ⟨rfl, hg⟩; have HE5 := Lib.hid (HE4.out.on hg); obtain ⟨x0, x1, x2, x3, x4⟩ := box5 (HE5.out.nth 3 rfl); obtain ⟨u0, u1, u2, u3, u4⟩ := box5 (HE5.out.nth 0 rfl); obtain ⟨r0, r1, r2, r3, r4⟩ := box5 (HE5.out.nth 1 rfl); obtain ⟨f0, f1, f2, f3, f4⟩ := free5 (HE5.out.nth 1 rfl); clear hg))
        have he := HE5.out.put5 1 rfl (.int .i64 R) (.slice q1 (n1 + 1) d1) (.slice q2 (n2 + 1) d2) (.slice q3 (n3 + 1) d3) (.slice q4 n4 d4)
        exact bodyPost_ret_by (results_row_tmp rfl _ _ (w.heap.size + 1) _ _ (0, 0) _ rfl (he.nth 1 rfl) Try.underlying29 rfl (by kernel_rfl)) rfl ⟨q1, d1, q2, d2, q3, d3, q4, d4, rfl, Held.stateOwn he 2 rfl, he.gr⟩
      case neg =>
        have hp : refB R xs ms ts bs (k : Int) = false := by rw [hrb]; exact decide_eq_false hb
        obtain ⟨e1, e2, e3⟩ := ref_no hp
        rw [hp, e1, e2, e3, L1, L2, L3]
        have HBL := Lib.hid hbl
        obtain ⟨fg, hfg⟩ : ∃ q, q = firstGap (split2 xs k) := ⟨_, rfl⟩
        rw [← hfg] at HBL hb
        have hb2 : 0 ≤ fg := by omega
        clear hok hmr h h1 h2 h3 h4 L1 L2 L3 L4 hs hm hp e1 e2 e3 hpre hfl hx hl hq m1 m2 l1 l2 l3 hrb hbl hfg hb
        go_enter Try.func34, Try.ntmps34
        go_upto_region 1 with fail
        generalize (w.alloc (.cells #[.int .i64 R, .slice (some ⟨g1, 0, none⟩) n1 c1, .slice (some ⟨g2, 0, none⟩) n2 c2, .slice (some ⟨g3, 0, none⟩) n3 c3, .slice (some ⟨g4, 0, none⟩) n4 c4] 29)).alloc (.cells #[.int .i64 0, .slice none 0 0, .slice none 0 0, .slice none 0 0, .slice none 0 0] 29) = W0 at *
        obtain ⟨p0, p1, p2, p3, p4⟩ := box5 (HE.out.nth 0 rfl)
        go_upto_region 3 with (first | (go_at_call 19; ((with_reducible refine (HOK.out _ HE.out.gr).mono ?_); rintro e w1 ⟨rfl, hg⟩; have HE1 := Lib.hid (HE.out.on hg); obtain ⟨z0, z1, z2, z3, z4⟩ := box5 (HE1.out.nth 0 rfl); clear hg)) | (go_at_call 64; ((with_reducible refine (HMR.out _ HE1.out.gr).mono ?_); rintro e w2 ⟨rfl, hg⟩; have HE2 := Lib.hid (HE1.out.on hg); obtain ⟨y0, y1, y2, y3, y4⟩ := box5 (HE2.out.nth 0 rfl); clear hg)))
        clear p0 p1 p2 p3 p4 z0 z1 z2 z3 z4 HE HE1
        go_upto_region 4 with (go_at_call 67; ((with_reducible refine (HSP.out _ HE2.out.gr).mono ?_); rintro e w3 ⟨q1, d1, q2, d2, q3, d3, q4, d4, rfl, ho, hg⟩; have HE3 := Lib.hid (State.Held.state HE2.out hg ho); clear ho hg))
        clear y0 y1 y2 y3 y4 HE2
        have HE4 := Lib.hid (HE3.out.box 29 #[.int .i64 R, .slice q1 (n1 + 1) d1, .slice q2 (n2 + 1) d2, .slice q3 (n3 + 1) d3, .slice q4 n4 d4]); clear HE3
        obtain ⟨B2, hB2⟩ : ∃ B, B = w3.heap.size := ⟨_, rfl⟩
        rw [← hB2] at HE4 ⊢
        clear hB2
        generalize w3.alloc (.cells #[.int .i64 R, .slice q1 (n1 + 1) d1, .slice q2 (n2 + 1) d2, .slice q3 (n3 + 1) d3, .slice q4 n4 d4] 29) = W3 at *
        obtain ⟨o0, o1, o2, o3, o4⟩ := box5 (HE4.out.nth 3 rfl)
        go_wp2_with (first | (go_at_call 74; ((with_reducible refine (HBL.out _ _ _ (OwnS.reads (HE4.out.nth 2 rfl)).l).mono ?_); rintro e w4 ⟨rfl, hg⟩; have HE5 := Lib.hid (HE4.out.on hg); obtain ⟨x0, x1, x2, x3, x4⟩ := box5 (HE5.out.nth 3 rfl); obtain ⟨u0, u1, u2, u3, u4⟩ := box5 (HE5.out.nth 0 rfl); obtain ⟨r0, r1, r2, r3, r4⟩ := box5 (HE5.out.nth 1 rfl); obtain ⟨f0, f1, f2, f3, f4⟩ := free5 (HE5.out.nth 1 rfl); clear hg)) | (go_at_call 65; ((with_reducible refine (HCP.out _ HE5.out.gr).mono ?_); rintro e w3 ⟨s1, t1, s2, t2, s3, t3, s4, t4, rfl, ho, hg⟩; have HE6 := Lib.hid (State.Held.state HE5.out hg ho); obtain ⟨r0, r1, r2, r3, r4⟩ := box5 (HE6.out.nth 1 rfl); obtain ⟨f0, f1, f2, f3, f4⟩ := free5 (HE6.out.nth 1 rfl); clear ho hg)))
        have he := HE6.out.put5 1 rfl (.int .i64 R) (.slice s1 n1 t1) (.slice s2 n2 t2) (.slice s3 n3 t3) (.slice s4 n4 t4)
        exact bodyPost_ret_by (results_row_tmp rfl _ _ (w.heap.size + 1) _ _ (0, 0) _ rfl (he.nth 1 rfl) Try.underlying29 rfl (by kernel_rfl)) rfl ⟨s1, t1, s2, t2, s3, t3, s4, t4, rfl, Held.stateOwn he 4 rfl, he.gr⟩

end Go.Proofs.Ytfoilfgiablleaa.State
