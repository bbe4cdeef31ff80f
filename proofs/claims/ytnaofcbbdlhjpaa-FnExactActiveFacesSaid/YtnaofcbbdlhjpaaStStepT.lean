/- Steps: the reference model's StepState, MacroStep, FluxSum, as contracts: what each answers; a state in memory of the call's own.
   Conditions: at most 2^20 leaves and numbers. -/
import Derived.Test.YtnaofcbbdlhjpaaStStepS
import Derived.Test.YtnaofcbbdlhjpaaStStepI
set_option maxRecDepth 100000
namespace Go.Proofs.Ytnaofcbbdlhjpaa.State
open Go.ChangeShapes Go.WideShapes Go.ChangeAt Go.RowKit Go.Joins Go.Proofs.Ytnaofcbbdlhjpaa.Cell Go.Proofs.Ytnaofcbbdlhjpaa.Mesh Go.Proofs.Ytnaofcbbdlhjpaa.Law Go.Proofs.Ytnaofcbbdlhjpaa.Ints Go.Proofs.Ytnaofcbbdlhjpaa.Draws Go.Deep

theorem addrS {w : World} {base n1 n2 n3 n4 c1 c2 c3 c4 : Nat} {a1 a2 a3 a4 : Option Addr} {xs : List C3} {ms ts bs : List Int} (h : OwnS w base (.slice a1 n1 c1) (.slice a2 n2 c2) (.slice a3 n3 c3) (.slice a4 n4 c4) n1 n2 n3 n4 xs ms ts bs) (h1 : 1 ≤ n1) (h2 : 1 ≤ n2) (h3 : 1 ≤ n3) (h4 : 1 ≤ n4) :
    ∃ g1 g2 g3 g4 : Nat, a1 = some ⟨g1, 0, none⟩ ∧ a2 = some ⟨g2, 0, none⟩ ∧ a3 = some ⟨g3, 0, none⟩ ∧ a4 = some ⟨g4, 0, none⟩ := by
  obtain ⟨g1, c, e⟩ := own_at1 h.l h1
  cases e
  obtain ⟨g2, rfl, -, -⟩ := own_atI h.m h2
  obtain ⟨g3, rfl, -, -⟩ := own_atI h.t h3
  obtain ⟨g4, rfl, -, -⟩ := own_atI h.b h4
  exact ⟨g1, g2, g3, g4, rfl, rfl, rfl, rfl⟩
theorem Held.turnLast {w W : World} {a b c d : Grp} (h : Held w W [a, b, c, d]) : Held w W [a, b, d, c] :=
  have hp : [a, b, c, d].Perm [a, b, d, c] := .cons _ (.cons _ (.swap _ _ _))
  ⟨fun g hg => h.p g (hp.mem_iff.2 hg), fun g hg => h.lo g (hp.mem_iff.2 hg), (hp.pairwise_iff (fun hxy b hb hbx => hxy b hbx hb)).1 h.dis, h.gr⟩
/-- The sizes of a valid state. -/
theorem sizes_at {R : Int} {xs : List C3} {ms ts bs : List Int} {w : World} {a1 a2 a3 a4 : Option Addr} {n1 n2 n3 n4 : Nat} (h : ReadsS w a1 a2 a3 a4 n1 n2 n3 n4 xs ms ts bs) (hs : stOk R xs ms ts bs = true) : n2 = n1 ∧ n3 = n1 ∧ 1 ≤ n1 ∧ n1 ≤ 128 ∧ 1 ≤ n4 ∧ n4 ≤ 8 := by
  have hx := h.l.len; have hm := h.m.len; have ht := h.t.len; have hb := h.b.len
  obtain ⟨p1, ⟨q1, q2, q3⟩, -⟩ := stOk_parts hs
  have hm' : meshOk R xs = true := by unfold balanced at p1; simp only [Bool.and_eq_true] at p1; exact p1.1
  have hn := (mesh_parts hm').2
  have hR := of_decide_eq_true hm'
  omega

set_option maxHeartbeats 16000000 in
theorem specStepState_is (R t : Int) (g1 g2 g3 g4 n1 n2 n3 n4 c1 c2 c3 c4 : Nat) (xs : List C3) (ms ts bs : List Int) (w : World) (h : ReadsS w (some ⟨g1, 0, none⟩) (some ⟨g2, 0, none⟩) (some ⟨g3, 0, none⟩) (some ⟨g4, 0, none⟩) n1 n2 n3 n4 xs ms ts bs) (h1 : n1 ≤ 1048576) (h2 : n2 ≤ 1048576) (h3 : n3 ≤ 1048576) (h4 : n4 ≤ 1048576) :
    Calls Try.prog 32 #[.agg #[.int .i64 R, .slice (some ⟨g1, 0, none⟩) n1 c1, .slice (some ⟨g2, 0, none⟩) n2 c2, .slice (some ⟨g3, 0, none⟩) n3 c3, .slice (some ⟨g4, 0, none⟩) n4 c4], .int .i64 t] w (GivesS R n1 n2 n3 n4 xs (tickS R xs bs (ms, ts) t).1 (tickS R xs bs (ms, ts) t).2 bs w) := by
  have HOK := Lib.hid (show ∀ u, w.grownBy u none → Calls Try.prog 16 #[.agg #[.int .i64 R, .slice (some ⟨g1, 0, none⟩) n1 c1, .slice (some ⟨g2, 0, none⟩) n2 c2, .slice (some ⟨g3, 0, none⟩) n3 c3, .slice (some ⟨g4, 0, none⟩) n4 c4]] u fun e w' => e = .returned (.bool (stOk R xs ms ts bs)) ∧ u.grownBy w' none from fun u hu => specStateOk_is R (some ⟨g1, 0, none⟩) (some ⟨g2, 0, none⟩) (some ⟨g3, 0, none⟩) (some ⟨g4, 0, none⟩) n1 n2 n3 n4 c1 c2 c3 c4 xs ms ts bs u (h.on hu) h1 h2 h3 h4)
  have he := ((Held.nil w).box 29 #[.int .i64 R, .slice (some ⟨g1, 0, none⟩) n1 c1, .slice (some ⟨g2, 0, none⟩) n2 c2, .slice (some ⟨g3, 0, none⟩) n3 c3, .slice (some ⟨g4, 0, none⟩) n4 c4]).box 29 #[.int .i64 0, .slice none 0 0, .slice none 0 0, .slice none 0 0, .slice none 0 0]
  simp only [World.size_alloc] at he
  have HE := Lib.hid he
  clear he
  cases hs : stOk R xs ms ts bs with
  | false =>
    rw [hs] at HOK
    rw [tick_bad hs]
    have HCP := Lib.hid (show ∀ u, w.grownBy u none → Calls Try.prog 67 #[.agg #[.int .i64 R, .slice (some ⟨g1, 0, none⟩) n1 c1, .slice (some ⟨g2, 0, none⟩) n2 c2, .slice (some ⟨g3, 0, none⟩) n3 c3, .slice (some ⟨g4, 0, none⟩) n4 c4]] u (GivesS R n1 n2 n3 n4 xs ms ts bs u) from fun u hu => specStCopy_is R g1 g2 g3 g4 n1 n2 n3 n4 c1 c2 c3 c4 xs ms ts bs u (h.on hu) h1 h2 h3 h4)
    clear hs h h1 h2 h3 h4
    go_enter Try.func32, Try.ntmps32
    go_upto_region 1 with fail
    generalize (w.alloc (.cells #[.int .i64 R, .slice (some ⟨g1, 0, none⟩) n1 c1, .slice (some ⟨g2, 0, none⟩) n2 c2, .slice (some ⟨g3, 0, none⟩) n3 c3, .slice (some ⟨g4, 0, none⟩) n4 c4] 29)).alloc (.cells #[.int .i64 0, .slice none 0 0, .slice none 0 0, .slice none 0 0, .slice none 0 0] 29) = W0 at *
    obtain ⟨p0, p1, p2, p3, p4⟩ := box5 (HE.out.nth 0 rfl)
    go_wp2_with (first | (go_at_call 16; ((with_reducible refine (HOK.out _ HE.out.gr).mono ?_); rintro e w1 ⟨rfl, hg⟩; have HE1 := Lib.hid (HE.out.on hg); obtain ⟨z0, z1, z2, z3, z4⟩ := box5 (HE1.out.nth 0 rfl); clear hg)) | (go_at_call 67; ((with_reducible refine (HCP.out _ HE1.out.gr).mono ?_); rintro e w2 ⟨q1, d1, q2, d2, q3, d3, q4, d4, rfl, ho, hg⟩; have HE2 := Lib.hid (State.Held.state HE1.out hg ho); obtain ⟨r0, r1, r2, r3, r4⟩ := box5 (HE2.out.nth 1 rfl); obtain ⟨f0, f1, f2, f3, f4⟩ := free5 (HE2.out.nth 1 rfl); clear ho hg)))
    have he := HE2.out.put5 1 rfl (.int .i64 R) (.slice q1 n1 d1) (.slice q2 n2 d2) (.slice q3 n3 d3) (.slice q4 n4 d4)
    exact bodyPost_ret_by (results_cell_row (fn := Try.f32) rfl _ _ (w.heap.size + 1) _ _ (0, 0) _ rfl (he.nth 1 rfl) Try.underlying29 rfl (by kernel_rfl)) rfl ⟨q1, d1, q2, d2, q3, d3, q4, d4, rfl, Held.stateOwn he 2 rfl, he.gr⟩
  | true =>
    rw [hs] at HOK
    by_cases ht : t < 0
    · rw [tick_neg ht]
      have HCP := Lib.hid (show ∀ u, w.grownBy u none → Calls Try.prog 67 #[.agg #[.int .i64 R, .slice (some ⟨g1, 0, none⟩) n1 c1, .slice (some ⟨g2, 0, none⟩) n2 c2, .slice (some ⟨g3, 0, none⟩) n3 c3, .slice (some ⟨g4, 0, none⟩) n4 c4]] u (GivesS R n1 n2 n3 n4 xs ms ts bs u) from fun u hu => specStCopy_is R g1 g2 g3 g4 n1 n2 n3 n4 c1 c2 c3 c4 xs ms ts bs u (h.on hu) h1 h2 h3 h4)
      clear hs h h1 h2 h3 h4
      go_enter Try.func32, Try.ntmps32
      go_upto_region 1 with fail
      generalize (w.alloc (.cells #[.int .i64 R, .slice (some ⟨g1, 0, none⟩) n1 c1, .slice (some ⟨g2, 0, none⟩) n2 c2, .slice (some ⟨g3, 0, none⟩) n3 c3, .slice (some ⟨g4, 0, none⟩) n4 c4] 29)).alloc (.cells #[.int .i64 0, .slice none 0 0, .slice none 0 0, .slice none 0 0, .slice none 0 0] 29) = W0 at *
      obtain ⟨p0, p1, p2, p3, p4⟩ := box5 (HE.out.nth 0 rfl)
      go_wp2_with (first | (go_at_call 16; ((with_reducible refine (HOK.out _ HE.out.gr).mono ?_); rintro e w1 ⟨rfl, hg⟩; have HE1 := Lib.hid (HE.out.on hg); obtain ⟨z0, z1, z2, z3, z4⟩ := box5 (HE1.out.nth 0 rfl); clear hg)) | (go_at_call 67; ((with_reducible refine (HCP.out _ HE1.out.gr).mono ?_); rintro e w2 ⟨q1, d1, q2, d2, q3, d3, q4, d4, rfl, ho, hg⟩; have HE2 := Lib.hid (State.Held.state HE1.out hg ho); obtain ⟨r0, r1, r2, r3, r4⟩ := box5 (HE2.out.nth 1 rfl); obtain ⟨f0, f1, f2, f3, f4⟩ := free5 (HE2.out.nth 1 rfl); clear ho hg)))
      have he := HE2.out.put5 1 rfl (.int .i64 R) (.slice q1 n1 d1) (.slice q2 n2 d2) (.slice q3 n3 d3) (.slice q4 n4 d4)
      exact bodyPost_ret_by (results_cell_row (fn := Try.f32) rfl _ _ (w.heap.size + 1) _ _ (0, 0) _ rfl (he.nth 1 rfl) Try.underlying29 rfl (by kernel_rfl)) rfl ⟨q1, d1, q2, d2, q3, d3, q4, d4, rfl, Held.stateOwn he 2 rfl, he.gr⟩
    · rw [tick_ok (p := (ms, ts)) hs]
      have HSP := Lib.hid (show ∀ u, w.grownBy u none → Calls Try.prog 68 #[.agg #[.int .i64 R, .slice (some ⟨g1, 0, none⟩) n1 c1, .slice (some ⟨g2, 0, none⟩) n2 c2, .slice (some ⟨g3, 0, none⟩) n3 c3, .slice (some ⟨g4, 0, none⟩) n4 c4], .int .i64 t] u (GivesS R n1 n2 n3 n4 xs (stepM xs ms bs t) (stepT xs ms ts bs t) bs u) from fun u hu => specStep_is R t g1 g2 g3 g4 n1 n2 n3 n4 c1 c2 c3 c4 xs ms ts bs u (h.on hu) hs h1 h4)
      clear hs h h1 h2 h3 h4
      go_enter Try.func32, Try.ntmps32
      go_upto_region 1 with fail
      generalize (w.alloc (.cells #[.int .i64 R, .slice (some ⟨g1, 0, none⟩) n1 c1, .slice (some ⟨g2, 0, none⟩) n2 c2, .slice (some ⟨g3, 0, none⟩) n3 c3, .slice (some ⟨g4, 0, none⟩) n4 c4] 29)).alloc (.cells #[.int .i64 0, .slice none 0 0, .slice none 0 0, .slice none 0 0, .slice none 0 0] 29) = W0 at *
      obtain ⟨p0, p1, p2, p3, p4⟩ := box5 (HE.out.nth 0 rfl)
      go_wp2_with (first | (go_at_call 16; ((with_reducible refine (HOK.out _ HE.out.gr).mono ?_); rintro e w1 ⟨rfl, hg⟩; have HE1 := Lib.hid (HE.out.on hg); obtain ⟨z0, z1, z2, z3, z4⟩ := box5 (HE1.out.nth 0 rfl); clear hg)) | (go_at_call 68; ((with_reducible refine (HSP.out _ HE1.out.gr).mono ?_); rintro e w2 ⟨q1, d1, q2, d2, q3, d3, q4, d4, rfl, ho, hg⟩; have HE2 := Lib.hid (State.Held.state HE1.out hg ho); obtain ⟨r0, r1, r2, r3, r4⟩ := box5 (HE2.out.nth 1 rfl); obtain ⟨f0, f1, f2, f3, f4⟩ := free5 (HE2.out.nth 1 rfl); clear ho hg)))
      have he := HE2.out.put5 1 rfl (.int .i64 R) (.slice q1 n1 d1) (.slice q2 n2 d2) (.slice q3 n3 d3) (.slice q4 n4 d4)
      exact bodyPost_ret_by (results_cell_row (fn := Try.f32) rfl _ _ (w.heap.size + 1) _ _ (0, 0) _ rfl (he.nth 1 rfl) Try.underlying29 rfl (by kernel_rfl)) rfl ⟨q1, d1, q2, d2, q3, d3, q4, d4, rfl, Held.stateOwn he 2 rfl, he.gr⟩

set_option maxHeartbeats 16000000 in
theorem specMacroStep_is (R : Int) (g1 g2 g3 g4 n1 n2 n3 n4 c1 c2 c3 c4 : Nat) (xs : List C3) (ms ts bs : List Int) (w : World) (h : ReadsS w (some ⟨g1, 0, none⟩) (some ⟨g2, 0, none⟩) (some ⟨g3, 0, none⟩) (some ⟨g4, 0, none⟩) n1 n2 n3 n4 xs ms ts bs) (h1 : n1 ≤ 1048576) (h2 : n2 ≤ 1048576) (h3 : n3 ≤ 1048576) (h4 : n4 ≤ 1048576) :
    Calls Try.prog 37 #[.agg #[.int .i64 R, .slice (some ⟨g1, 0, none⟩) n1 c1, .slice (some ⟨g2, 0, none⟩) n2 c2, .slice (some ⟨g3, 0, none⟩) n3 c3, .slice (some ⟨g4, 0, none⟩) n4 c4]] w (GivesS R n1 n2 n3 n4 xs (ticks R xs bs (ms, ts) 0 16).1 (ticks R xs bs (ms, ts) 0 16).2 bs w) := by
  have HOK := Lib.hid (show ∀ u, w.grownBy u none → Calls Try.prog 16 #[.agg #[.int .i64 R, .slice (some ⟨g1, 0, none⟩) n1 c1, .slice (some ⟨g2, 0, none⟩) n2 c2, .slice (some ⟨g3, 0, none⟩) n3 c3, .slice (some ⟨g4, 0, none⟩) n4 c4]] u fun e w' => e = .returned (.bool (stOk R xs ms ts bs)) ∧ u.grownBy w' none from fun u hu => specStateOk_is R (some ⟨g1, 0, none⟩) (some ⟨g2, 0, none⟩) (some ⟨g3, 0, none⟩) (some ⟨g4, 0, none⟩) n1 n2 n3 n4 c1 c2 c3 c4 xs ms ts bs u (h.on hu) h1 h2 h3 h4)
  have HCP := Lib.hid (show ∀ u, w.grownBy u none → Calls Try.prog 67 #[.agg #[.int .i64 R, .slice (some ⟨g1, 0, none⟩) n1 c1, .slice (some ⟨g2, 0, none⟩) n2 c2, .slice (some ⟨g3, 0, none⟩) n3 c3, .slice (some ⟨g4, 0, none⟩) n4 c4]] u (GivesS R n1 n2 n3 n4 xs ms ts bs u) from fun u hu => specStCopy_is R g1 g2 g3 g4 n1 n2 n3 n4 c1 c2 c3 c4 xs ms ts bs u (h.on hu) h1 h2 h3 h4)
  have he := ((Held.nil w).box 29 #[.int .i64 R, .slice (some ⟨g1, 0, none⟩) n1 c1, .slice (some ⟨g2, 0, none⟩) n2 c2, .slice (some ⟨g3, 0, none⟩) n3 c3, .slice (some ⟨g4, 0, none⟩) n4 c4]).box 29 #[.int .i64 0, .slice none 0 0, .slice none 0 0, .slice none 0 0, .slice none 0 0]
  simp only [World.size_alloc] at he
  have HE := Lib.hid he
  clear he
  cases hs : stOk R xs ms ts bs with
  | false =>
    rw [hs] at HOK
    rw [ticks_bad (p := (ms, ts)) hs]
    clear hs h h1 h2 h3 h4
    go_enter Try.func37, Try.ntmps37
    go_upto_region 1 with fail
    generalize (w.alloc (.cells #[.int .i64 R, .slice (some ⟨g1, 0, none⟩) n1 c1, .slice (some ⟨g2, 0, none⟩) n2 c2, .slice (some ⟨g3, 0, none⟩) n3 c3, .slice (some ⟨g4, 0, none⟩) n4 c4] 29)).alloc (.cells #[.int .i64 0, .slice none 0 0, .slice none 0 0, .slice none 0 0, .slice none 0 0] 29) = W0 at *
    obtain ⟨p0, p1, p2, p3, p4⟩ := box5 (HE.out.nth 0 rfl)
    go_upto_region 2 with (go_at_call 67; ((with_reducible refine (HCP.out _ HE.out.gr).mono ?_); rintro e w2 ⟨q1, d1, q2, d2, q3, d3, q4, d4, rfl, ho, hg⟩; have HE2 := Lib.hid (State.Held.state HE.out hg ho); clear ho hg))
    have HE3 := Lib.hid (HE2.out.box 29 #[.int .i64 R, .slice q1 n1 d1, .slice q2 n2 d2, .slice q3 n3 d3, .slice q4 n4 d4])
    clear p0 p1 p2 p3 p4 HE HE2 HCP
    obtain ⟨B3, hB⟩ : ∃ B, B = w2.heap.size := ⟨_, rfl⟩
    rw [← hB] at HE3 ⊢
    clear hB
    generalize w2.alloc (.cells #[.int .i64 R, .slice q1 n1 d1, .slice q2 n2 d2, .slice q3 n3 d3, .slice q4 n4 d4] 29) = W3 at *
    go_wp2_with fail
    go_loopw [4] (fun i wr => i = .int .i64 0 ∧ wr = W3) (fun _ _ => 0)
    case atStart => exact ⟨rfl, rfl⟩
    case round =>
      obtain ⟨rfl, rfl⟩ := hrel
      obtain ⟨p0, p1, p2, p3, p4⟩ := box5 (HE3.out.nth 0 rfl)
      go_wp2_with (go_at_call 16; ((with_reducible refine (HOK.out _ HE3.out.gr).mono ?_); rintro e w5 ⟨rfl, hg⟩; have HE4 := Lib.hid (HE3.out.on hg); obtain ⟨y0, y1, y2, y3, y4⟩ := box5 (HE4.out.nth 3 rfl); obtain ⟨r0, r1, r2, r3, r4⟩ := box5 (HE4.out.nth 1 rfl); obtain ⟨f0, f1, f2, f3, f4⟩ := free5 (HE4.out.nth 1 rfl); clear hg))
      have he := HE4.out.put5 1 rfl (.int .i64 R) (.slice q1 n1 d1) (.slice q2 n2 d2) (.slice q3 n3 d3) (.slice q4 n4 d4)
      exact bodyPost_ret_by (results_cell_row (fn := Try.f37) rfl _ _ (w.heap.size + 1) _ _ (0, 0) _ rfl (he.nth 1 rfl) Try.underlying29 rfl (by kernel_rfl)) rfl ⟨q1, d1, q2, d2, q3, d3, q4, d4, rfl, Held.stateOwn he 2 rfl, he.gr⟩
  | true =>
    rw [hs] at HOK
    obtain ⟨-, -, m1, m1', m4, m4'⟩ := sizes_at h hs
    obtain ⟨m2, m3, -⟩ := sizes_at h hs
    have HSP := Lib.hid (show ∀ (k : Nat) u (b1 b2 b3 b4 d1 d2 d3 d4 : Nat), ReadsS u (some ⟨b1, 0, none⟩) (some ⟨b2, 0, none⟩) (some ⟨b3, 0, none⟩) (some ⟨b4, 0, none⟩) n1 n2 n3 n4 xs (ticks R xs bs (ms, ts) 0 k).1 (ticks R xs bs (ms, ts) 0 k).2 bs → Calls Try.prog 68 #[.agg #[.int .i64 R, .slice (some ⟨b1, 0, none⟩) n1 d1, .slice (some ⟨b2, 0, none⟩) n2 d2, .slice (some ⟨b3, 0, none⟩) n3 d3, .slice (some ⟨b4, 0, none⟩) n4 d4], .int .i64 (k : Int)] u (fun e w' => ∃ a1 c1 a2 c2 a3 c3 a4 c4 : Nat, e = .returned (.agg #[.int .i64 R, .slice (some ⟨a1, 0, none⟩) n1 c1, .slice (some ⟨a2, 0, none⟩) n2 c2, .slice (some ⟨a3, 0, none⟩) n3 c3, .slice (some ⟨a4, 0, none⟩) n4 c4]) ∧ OwnS w' u.heap.size (.slice (some ⟨a1, 0, none⟩) n1 c1) (.slice (some ⟨a2, 0, none⟩) n2 c2) (.slice (some ⟨a3, 0, none⟩) n3 c3) (.slice (some ⟨a4, 0, none⟩) n4 c4) n1 n2 n3 n4 xs (ticks R xs bs (ms, ts) 0 (k + 1)).1 (ticks R xs bs (ms, ts) 0 (k + 1)).2 bs ∧ u.grownBy w' none) from fun k u b1 b2 b3 b4 d1 d2 d3 d4 hu => by
      have hv : stOk R xs (ticks R xs bs (ms, ts) 0 k).1 (ticks R xs bs (ms, ts) 0 k).2 bs = true := (ticks_valid (p := (ms, ts)) 0 k).trans hs
      refine (specStep_is R k b1 b2 b3 b4 n1 n2 n3 n4 d1 d2 d3 d4 xs _ _ bs u hu hv h1 h4).mono ?_
      rintro e w' ⟨q1, e1, q2, e2, q3, e3, q4, e4, rfl, ho, hg⟩
      rw [ticks_succ0, tick_ok hv]
      obtain ⟨y1, y2, y3, y4, rfl, rfl, rfl, rfl⟩ := addrS ho (by omega) (by omega) (by omega) (by omega)
      exact ⟨y1, e1, y2, e2, y3, e3, y4, e4, rfl, ho, hg⟩)
    have HMS := Lib.hid (show (1 ≤ n1 ∧ 1 ≤ n2) ∧ (1 ≤ n3 ∧ 1 ≤ n4) by omega)
    clear hs h h1 h2 h3 h4 m1 m1' m4 m4' m2 m3
    go_enter Try.func37, Try.ntmps37
    go_upto_region 1 with fail
    generalize (w.alloc (.cells #[.int .i64 R, .slice (some ⟨g1, 0, none⟩) n1 c1, .slice (some ⟨g2, 0, none⟩) n2 c2, .slice (some ⟨g3, 0, none⟩) n3 c3, .slice (some ⟨g4, 0, none⟩) n4 c4] 29)).alloc (.cells #[.int .i64 0, .slice none 0 0, .slice none 0 0, .slice none 0 0, .slice none 0 0] 29) = W0 at *
    obtain ⟨p0, p1, p2, p3, p4⟩ := box5 (HE.out.nth 0 rfl)
    go_upto_region 2 with (go_at_call 67; ((with_reducible refine (HCP.out _ HE.out.gr).mono ?_); rintro e w2 ⟨q1, d1, q2, d2, q3, d3, q4, d4, rfl, ho, hg⟩; have HE2 := Lib.hid (State.Held.state HE.out hg ho); clear ho hg))
    obtain ⟨b1, b2, b3, b4, rfl, rfl, rfl, rfl⟩ := addrS (HE2.out.nth 2 rfl) HMS.out.1.1 HMS.out.1.2 HMS.out.2.1 HMS.out.2.2
    have HE3 := Lib.hid (HE2.out.box 29 #[.int .i64 R, .slice (some ⟨b1, 0, none⟩) n1 d1, .slice (some ⟨b2, 0, none⟩) n2 d2, .slice (some ⟨b3, 0, none⟩) n3 d3, .slice (some ⟨b4, 0, none⟩) n4 d4])
    clear p0 p1 p2 p3 p4 HE HE2 HCP
    obtain ⟨B3, hB⟩ : ∃ B, B = w2.heap.size := ⟨_, rfl⟩
    rw [← hB] at HE3 ⊢
    clear hB
    generalize w2.alloc (.cells #[.int .i64 R, .slice (some ⟨b1, 0, none⟩) n1 d1, .slice (some ⟨b2, 0, none⟩) n2 d2, .slice (some ⟨b3, 0, none⟩) n3 d3, .slice (some ⟨b4, 0, none⟩) n4 d4] 29) = W3 at *
    have HE4 := Lib.hid (State.Held.turnLast HE3.out)
    clear HE3
    go_wp2_with fail
    go_loopw [4] (fun i wr => ∃ k : Nat, (k : Int) ≤ 16 ∧ i = .int .i64 k ∧ Hid (∃ b1 d1 b2 d2 b3 d3 b4 d4 : Nat, Held w wr [boxG w.heap.size 29 #[.int .i64 R, .slice (some ⟨g1, 0, none⟩) n1 c1, .slice (some ⟨g2, 0, none⟩) n2 c2, .slice (some ⟨g3, 0, none⟩) n3 c3, .slice (some ⟨g4, 0, none⟩) n4 c4], boxG (w.heap.size + 1) 29 #[.int .i64 0, .slice none 0 0, .slice none 0 0, .slice none 0 0, .slice none 0 0], boxG B3 29 #[.int .i64 R, .slice (some ⟨b1, 0, none⟩) n1 d1, .slice (some ⟨b2, 0, none⟩) n2 d2, .slice (some ⟨b3, 0, none⟩) n3 d3, .slice (some ⟨b4, 0, none⟩) n4 d4], stateG (.slice (some ⟨b1, 0, none⟩) n1 d1) (.slice (some ⟨b2, 0, none⟩) n2 d2) (.slice (some ⟨b3, 0, none⟩) n3 d3) (.slice (some ⟨b4, 0, none⟩) n4 d4) n1 n2 n3 n4 xs (ticks R xs bs (ms, ts) 0 (k)).1 (ticks R xs bs (ms, ts) 0 (k)).2 bs])) (fun i _ => 16 - (intOf i).toNat)
    case atStart => exact ⟨0, by omega, rfl, Lib.hid ⟨b1, d1, b2, d2, b3, d3, b4, d4, HE4.out⟩⟩
    case round =>
      clear HE4
      obtain ⟨k, hk, rfl, HC⟩ := hrel
      obtain ⟨b1, d1, b2, d2, b3, d3, b4, d4, hh⟩ := HC.out
      have HF := Lib.hid hh
      clear hh HC
      obtain ⟨p0, p1, p2, p3, p4⟩ := box5 (HF.out.nth 0 rfl)
      by_cases hlt : (k : Int) < 16
      · go_wp2_with (first
          | (go_at_call 16; ((with_reducible refine (HOK.out _ HF.out.gr).mono ?_); rintro e w4 ⟨rfl, hg⟩; have HF1 := Lib.hid (HF.out.on hg); obtain ⟨x0, x1, x2, x3, x4⟩ := box5 (HF1.out.nth 2 rfl); clear hg))
          | (go_at_call 68; ((with_reducible refine (HSP.out k _ b1 b2 b3 b4 d1 d2 d3 d4 (OwnS.reads (HF1.out.nth 3 rfl))).mono ?_); rintro e w5 ⟨q1, e1, q2, e2, q3, e3, q4, e4, rfl, ho, hg⟩; have HF2 := Lib.hid (State.Held.state HF1.out hg ho); obtain ⟨y0, y1, y2, y3, y4⟩ := box5 (HF2.out.nth 2 rfl); obtain ⟨g0, g1', g2', g3', g4'⟩ := free5 (HF2.out.nth 2 rfl); clear ho hg)))
        go_roundw
        case rel =>
          have he := HF2.out.put5 2 rfl (.int .i64 R) (.slice (some ⟨q1, 0, none⟩) n1 e1) (.slice (some ⟨q2, 0, none⟩) n2 e2) (.slice (some ⟨q3, 0, none⟩) n3 e3) (.slice (some ⟨q4, 0, none⟩) n4 e4)
          exact ⟨k + 1, by omega, by go_num, Lib.hid ⟨q1, e1, q2, e2, q3, e3, q4, e4, (State.Held.some he (.cons_cons _ (.cons_cons _ (.cons_cons _ (.cons _ (.refl _))))))⟩⟩
        case measure => simp [intOf]; omega
      · obtain rfl : k = 16 := by omega
        obtain ⟨y0, y1, y2, y3, y4⟩ := box5 (HF.out.nth 2 rfl)
        obtain ⟨r0, r1, r2, r3, r4⟩ := box5 (HF.out.nth 1 rfl)
        obtain ⟨f0, f1, f2, f3, f4⟩ := free5 (HF.out.nth 1 rfl)
        go_wp2_with fail
        have he := HF.out.put5 1 rfl (.int .i64 R) (.slice (some ⟨b1, 0, none⟩) n1 d1) (.slice (some ⟨b2, 0, none⟩) n2 d2) (.slice (some ⟨b3, 0, none⟩) n3 d3) (.slice (some ⟨b4, 0, none⟩) n4 d4)
        exact bodyPost_ret_by (results_cell_row (fn := Try.f37) rfl _ _ (w.heap.size + 1) _ _ (0, 0) _ rfl (he.nth 1 rfl) Try.underlying29 rfl (by kernel_rfl)) rfl ⟨_, d1, _, d2, _, d3, _, d4, rfl, Held.stateOwn he 3 rfl, he.gr⟩

set_option maxHeartbeats 16000000 in
theorem specFluxSum_is (R : Int) (g1 g2 g3 g4 n1 n2 n3 n4 c1 c2 c3 c4 : Nat) (xs : List C3) (ms ts bs : List Int) (i : Int) (w : World) (h : ReadsS w (some ⟨g1, 0, none⟩) (some ⟨g2, 0, none⟩) (some ⟨g3, 0, none⟩) (some ⟨g4, 0, none⟩) n1 n2 n3 n4 xs ms ts bs) (h1 : n1 ≤ 1048576) (h2 : n2 ≤ 1048576) (h3 : n3 ≤ 1048576) (h4 : n4 ≤ 1048576) (hi : -9223372036854775808 ≤ i ∧ i ≤ 9223372036854775807) :
    Calls Try.prog 46 #[.agg #[.int .i64 R, .slice (some ⟨g1, 0, none⟩) n1 c1, .slice (some ⟨g2, 0, none⟩) n2 c2, .slice (some ⟨g3, 0, none⟩) n3 c3, .slice (some ⟨g4, 0, none⟩) n4 c4], .int .i64 i] w fun e w' => e = .returned (.int .i64 (fsumG R xs ms ts bs i)) ∧ w.grownBy w' none := by
  have HOK := Lib.hid (show ∀ u, w.grownBy u none → Calls Try.prog 16 #[.agg #[.int .i64 R, .slice (some ⟨g1, 0, none⟩) n1 c1, .slice (some ⟨g2, 0, none⟩) n2 c2, .slice (some ⟨g3, 0, none⟩) n3 c3, .slice (some ⟨g4, 0, none⟩) n4 c4]] u fun e w' => e = .returned (.bool (stOk R xs ms ts bs)) ∧ u.grownBy w' none from fun u hu => specStateOk_is R (some ⟨g1, 0, none⟩) (some ⟨g2, 0, none⟩) (some ⟨g3, 0, none⟩) (some ⟨g4, 0, none⟩) n1 n2 n3 n4 c1 c2 c3 c4 xs ms ts bs u (h.on hu) h1 h2 h3 h4)
  have HE := Lib.hid ((Held.nil w).box 29 #[.int .i64 R, .slice (some ⟨g1, 0, none⟩) n1 c1, .slice (some ⟨g2, 0, none⟩) n2 c2, .slice (some ⟨g3, 0, none⟩) n3 c3, .slice (some ⟨g4, 0, none⟩) n4 c4])
  have hni : (n2 : Int) ≤ 1048576 := by omega
  cases hs : stOk R xs ms ts bs with
  | false =>
    rw [show fsumG R xs ms ts bs i = 0 from if_neg (fun hh => by rw [hs] at hh; exact nomatch hh.1)]
    rw [hs] at HOK
    clear hs h h1 h2 h3 h4
    go_enter Try.func46, Try.ntmps46
    go_upto_region 1 with fail
    generalize w.alloc (.cells #[.int .i64 R, .slice (some ⟨g1, 0, none⟩) n1 c1, .slice (some ⟨g2, 0, none⟩) n2 c2, .slice (some ⟨g3, 0, none⟩) n3 c3, .slice (some ⟨g4, 0, none⟩) n4 c4] 29) = W0 at *
    obtain ⟨p0, p1, p2, p3, p4⟩ := box5 (HE.out.nth 0 rfl)
    go_wp2_with (go_at_call 16; ((with_reducible refine (HOK.out _ HE.out.gr).mono ?_); rintro e w1 ⟨rfl, hg⟩; have HE1 := Lib.hid (HE.out.on hg); obtain ⟨z0, z1, z2, z3, z4⟩ := box5 (HE1.out.nth 0 rfl); clear hg))
    go_ret
    exact ⟨rfl, HE1.out.gr⟩
  | true =>
    rw [hs] at HOK
    have hl := h.l.len
    obtain ⟨-, -, m1, m1', m4, m4'⟩ := sizes_at h hs
    obtain ⟨m2, m3, -⟩ := sizes_at h hs
    by_cases hr : 0 ≤ i ∧ i ≤ (n2 : Int) - 2
    · have HIN := Lib.hid fun u => Cell.in_is i 0 ((n2 : Int) - 2) true (decide_eq_true hr) u
      have HSM := Lib.hid (sumG_bounds R xs ms ts bs i)
      rw [show fsumG R xs ms ts bs i = sumG R xs ms ts bs i 16 from rfl]
      have HSP := Lib.hid (show ∀ (k : Nat) u (b1 b2 b3 b4 d1 d2 d3 d4 : Nat), ReadsS u (some ⟨b1, 0, none⟩) (some ⟨b2, 0, none⟩) (some ⟨b3, 0, none⟩) (some ⟨b4, 0, none⟩) n1 n2 n3 n4 xs (ticks R xs bs (ms, ts) 0 k).1 (ticks R xs bs (ms, ts) 0 k).2 bs → Calls Try.prog 68 #[.agg #[.int .i64 R, .slice (some ⟨b1, 0, none⟩) n1 d1, .slice (some ⟨b2, 0, none⟩) n2 d2, .slice (some ⟨b3, 0, none⟩) n3 d3, .slice (some ⟨b4, 0, none⟩) n4 d4], .int .i64 (k : Int)] u (fun e w' => ∃ a1 c1 a2 c2 a3 c3 a4 c4 : Nat, e = .returned (.agg #[.int .i64 R, .slice (some ⟨a1, 0, none⟩) n1 c1, .slice (some ⟨a2, 0, none⟩) n2 c2, .slice (some ⟨a3, 0, none⟩) n3 c3, .slice (some ⟨a4, 0, none⟩) n4 c4]) ∧ OwnS w' u.heap.size (.slice (some ⟨a1, 0, none⟩) n1 c1) (.slice (some ⟨a2, 0, none⟩) n2 c2) (.slice (some ⟨a3, 0, none⟩) n3 c3) (.slice (some ⟨a4, 0, none⟩) n4 c4) n1 n2 n3 n4 xs (ticks R xs bs (ms, ts) 0 (k + 1)).1 (ticks R xs bs (ms, ts) 0 (k + 1)).2 bs ∧ u.grownBy w' none) from fun k u b1 b2 b3 b4 d1 d2 d3 d4 hu => by
        have hv : stOk R xs (ticks R xs bs (ms, ts) 0 k).1 (ticks R xs bs (ms, ts) 0 k).2 bs = true := (ticks_valid (p := (ms, ts)) 0 k).trans hs
        refine (specStep_is R k b1 b2 b3 b4 n1 n2 n3 n4 d1 d2 d3 d4 xs _ _ bs u hu hv h1 h4).mono ?_
        rintro e w' ⟨q1, e1, q2, e2, q3, e3, q4, e4, rfl, ho, hg⟩
        rw [ticks_succ0, tick_ok hv]
        obtain ⟨y1, y2, y3, y4, rfl, rfl, rfl, rfl⟩ := addrS ho (by omega) (by omega) (by omega) (by omega)
        exact ⟨y1, e1, y2, e2, y3, e3, y4, e4, rfl, ho, hg⟩)
      obtain ⟨j, rfl⟩ := Int.eq_ofNat_of_zero_le hr.1
      have hj : j + 1 < n1 := by omega
      have hfo : faceOf R xs (j : Int) = faceAt xs j := if_pos ⟨by
        obtain ⟨p1, -⟩ := stOk_parts hs
        unfold balanced at p1; simp only [Bool.and_eq_true] at p1; exact p1.1, by omega, by omega⟩
      have HFO := Lib.hid hfo
      have HLV := Lib.hid fun u b1 d1 (hu : Reads u (some ⟨b1, 0, none⟩) n1 xs) => specFace_is R j (some ⟨b1, 0, none⟩) n1 d1 xs (xs[j]'(by omega)) (xs[j + 1]'(by omega)) u hu h1 (List.getElem?_eq_getElem (by omega)) (List.getElem?_eq_getElem (by omega))
      have HFX := Lib.hid (show ∀ (k : Nat) u (b1 b2 b3 b4 d1 d2 d3 d4 : Nat), ReadsS u (some ⟨b1, 0, none⟩) (some ⟨b2, 0, none⟩) (some ⟨b3, 0, none⟩) (some ⟨b4, 0, none⟩) n1 n2 n3 n4 xs (ticks R xs bs (ms, ts) 0 k).1 (ticks R xs bs (ms, ts) 0 k).2 bs → Calls Try.prog 75 #[.agg #[.int .i64 R, .slice (some ⟨b1, 0, none⟩) n1 d1, .slice (some ⟨b2, 0, none⟩) n2 d2, .slice (some ⟨b3, 0, none⟩) n3 d3, .slice (some ⟨b4, 0, none⟩) n4 d4], .int .i64 (j : Int)] u (fun e w' => e = .returned (.int .i64 (faceG R xs (ticks R xs bs (ms, ts) 0 k).1 (ticks R xs bs (ms, ts) 0 k).2 bs j)) ∧ u.grownBy w' none) from fun k u b1 b2 b3 b4 d1 d2 d3 d4 hu => by
        have hv : stOk R xs (ticks R xs bs (ms, ts) 0 k).1 (ticks R xs bs (ms, ts) 0 k).2 bs = true := (ticks_valid (p := (ms, ts)) 0 k).trans hs
        rw [show faceG R xs (ticks R xs bs (ms, ts) 0 k).1 (ticks R xs bs (ms, ts) 0 k).2 bs j = fluxAt xs (ticks R xs bs (ms, ts) 0 k).1 bs j from if_pos ⟨hv, by omega, by omega⟩]
        exact specFlux_is R _ _ _ _ n1 n2 n3 n4 d1 d2 d3 d4 j xs _ _ bs u hu h1 hv hj)
      have HRD := Lib.hid h
      clear hs h h1 h2 h3 h4 hl m1 m1' m4 m4' m2 m3 hj hfo
      go_enter Try.func46, Try.ntmps46
      go_upto_region 1 with fail
      generalize w.alloc (.cells #[.int .i64 R, .slice (some ⟨g1, 0, none⟩) n1 c1, .slice (some ⟨g2, 0, none⟩) n2 c2, .slice (some ⟨g3, 0, none⟩) n3 c3, .slice (some ⟨g4, 0, none⟩) n4 c4] 29) = W0 at *
      obtain ⟨p0, p1, p2, p3, p4⟩ := box5 (HE.out.nth 0 rfl)
      go_wp2_with (first
        | (go_at_call 16; ((with_reducible refine (HOK.out _ HE.out.gr).mono ?_); rintro e w1 ⟨rfl, hg⟩; have HE1 := Lib.hid (HE.out.on hg); obtain ⟨z0, z1, z2, z3, z4⟩ := box5 (HE1.out.nth 0 rfl); clear hg))
        | (go_at_call 54; ((with_reducible refine (HIN.out _).mono ?_); rintro e w3 ⟨rfl, rfl⟩)))
      have HC0 := Lib.hid (HE1.out.addE)
      have HR0 := Lib.hid (HRD.out.on HE1.out.gr)
      clear p0 p1 p2 p3 p4 z0 z1 z2 z3 z4 HE HE1 HRD HIN HOK
      go_loopw [5, 6] (fun v i_ wr => ∃ (k : Nat) (s : Int), (k : Int) ≤ 16 ∧ i_ = .int .i64 k ∧ v = .int .i64 s ∧ Hid (s = sumG R xs ms ts bs j k) ∧ Hid (∃ (b1 d1 b2 d2 b3 d3 b4 d4 : Nat) (G : Grp), Held w wr [boxG w.heap.size 29 #[.int .i64 R, .slice (some ⟨b1, 0, none⟩) n1 d1, .slice (some ⟨b2, 0, none⟩) n2 d2, .slice (some ⟨b3, 0, none⟩) n3 d3, .slice (some ⟨b4, 0, none⟩) n4 d4], G] ∧ ReadsS wr (some ⟨b1, 0, none⟩) (some ⟨b2, 0, none⟩) (some ⟨b3, 0, none⟩) (some ⟨b4, 0, none⟩) n1 n2 n3 n4 xs (ticks R xs bs (ms, ts) 0 (k)).1 (ticks R xs bs (ms, ts) 0 (k)).2 bs)) (fun _ i _ => 16 - (intOf i).toNat)
      case atStart => exact ⟨0, 0, by omega, rfl, rfl, Lib.hid (by unfold sumG; split <;> rfl), Lib.hid ⟨g1, c1, g2, c2, g3, c3, g4, c4, emptyG, HC0.out, HR0.out⟩⟩
      case round =>
        clear HC0 HR0
        obtain ⟨k, s, hk, rfl, rfl, HS, HC⟩ := hrel
        obtain ⟨b1, d1, b2, d2, b3, d3, b4, d4, G, hh, hr_⟩ := HC.out
        have HF := Lib.hid hh; have HR := Lib.hid hr_
        clear hh hr_ HC
        obtain ⟨p0, p1, p2, p3, p4⟩ := box5 (HF.out.nth 0 rfl)
        by_cases hlt : (k : Int) < 16
        · have HA := Lib.hid fun u => specIsActive_is k (faceAt xs j) u
          have HLVA := Lib.hid (HLV.out _ b1 d1 HR.out.l)
          cases ha : actN k (faceAt xs j) with
          | true =>
            have HN := Lib.hid (sumG_on (R := R) (xs := xs) (i := (j : Int)) (k := k) (ms := ms) (ts := ts) (bs := bs) (by rw [HFO.out]; exact ha))
            obtain ⟨s0, s1⟩ := HSM.out k
            obtain ⟨v0, v1⟩ := faceG_bounds R xs (ticks R xs bs (ms, ts) 0 k).1 (ticks R xs bs (ms, ts) 0 k).2 bs j
            have HFK := Lib.hid (HFX.out k)
            rw [← HS.out] at HN s0 s1
            rw [ha] at HA
            generalize faceG R xs (ticks R xs bs (ms, ts) 0 k).1 (ticks R xs bs (ms, ts) 0 k).2 bs j = V at *
            generalize faceAt xs j = L at *
            clear ha
            go_wp2_with (first
              | (go_at_call 64; ((with_reducible refine HLVA.out.mono ?_); rintro e w2 ⟨rfl, hg⟩; have HF2 := Lib.hid (HF.out.on hg); have HR2 := Lib.hid (HR.out.on hg); obtain ⟨x0, x1, x2, x3, x4⟩ := box5 (HF2.out.nth 0 rfl); clear hg))
              | (go_at_call 30; ((with_reducible refine (HA.out _).mono ?_); rintro e w3 ⟨rfl, rfl⟩))
              | (go_at_call 75; ((with_reducible refine (HFK.out _ b1 b2 b3 b4 d1 d2 d3 d4 HR2.out).mono ?_); rintro e w4 ⟨rfl, hg⟩; have HF3 := Lib.hid (HF2.out.on hg); have HR3 := Lib.hid (HR2.out.on hg); obtain ⟨z0, z1, z2, z3, z4⟩ := box5 (HF3.out.nth 0 rfl); clear hg))
              | (go_at_call 68; ((with_reducible refine (HSP.out k _ b1 b2 b3 b4 d1 d2 d3 d4 HR3.out).mono ?_); rintro e w5 ⟨q1, e1, q2, e2, q3, e3, q4, e4, rfl, ho, hg⟩; have HF4 := Lib.hid (State.Held.state HF3.out hg ho); obtain ⟨y0, y1, y2, y3, y4⟩ := box5 (HF4.out.nth 0 rfl); obtain ⟨g0, g1', g2', g3', g4'⟩ := free5 (HF4.out.nth 0 rfl); clear ho hg)))
            go_roundw
            case rel =>
              have he := HF4.out.put5 0 rfl (.int .i64 R) (.slice (some ⟨q1, 0, none⟩) n1 e1) (.slice (some ⟨q2, 0, none⟩) n2 e2) (.slice (some ⟨q3, 0, none⟩) n3 e3) (.slice (some ⟨q4, 0, none⟩) n4 e4)
              exact ⟨k + 1, s + V, by omega, by go_num, rfl, Lib.hid HN.out.symm, Lib.hid ⟨q1, e1, q2, e2, q3, e3, q4, e4, _, (State.Held.some he (.cons_cons _ (.cons _ (.refl _)))), OwnS.reads (he.nth 2 rfl)⟩⟩
            case measure => simp [intOf]; omega
          | false =>
            have HN := Lib.hid (sumG_off (R := R) (xs := xs) (i := (j : Int)) (k := k) (ms := ms) (ts := ts) (bs := bs) (by rw [HFO.out]; exact ha))
            rw [← HS.out] at HN
            rw [ha] at HA
            generalize faceAt xs j = L at *
            clear ha
            go_wp2_with (first
              | (go_at_call 64; ((with_reducible refine HLVA.out.mono ?_); rintro e w2 ⟨rfl, hg⟩; have HF3 := Lib.hid (HF.out.on hg); have HR2 := Lib.hid (HR.out.on hg); obtain ⟨x0, x1, x2, x3, x4⟩ := box5 (HF3.out.nth 0 rfl); clear hg))
              | (go_at_call 30; ((with_reducible refine (HA.out _).mono ?_); rintro e w3 ⟨rfl, rfl⟩))
              | (go_at_call 68; ((with_reducible refine (HSP.out k _ b1 b2 b3 b4 d1 d2 d3 d4 HR2.out).mono ?_); rintro e w5 ⟨q1, e1, q2, e2, q3, e3, q4, e4, rfl, ho, hg⟩; have HF4 := Lib.hid (State.Held.state HF3.out hg ho); obtain ⟨y0, y1, y2, y3, y4⟩ := box5 (HF4.out.nth 0 rfl); obtain ⟨g0, g1', g2', g3', g4'⟩ := free5 (HF4.out.nth 0 rfl); clear ho hg)))
            go_roundw
            case rel =>
              have he := HF4.out.put5 0 rfl (.int .i64 R) (.slice (some ⟨q1, 0, none⟩) n1 e1) (.slice (some ⟨q2, 0, none⟩) n2 e2) (.slice (some ⟨q3, 0, none⟩) n3 e3) (.slice (some ⟨q4, 0, none⟩) n4 e4)
              exact ⟨k + 1, s, by omega, by go_num, rfl, Lib.hid HN.out.symm, Lib.hid ⟨q1, e1, q2, e2, q3, e3, q4, e4, _, (State.Held.some he (.cons_cons _ (.cons _ (.refl _)))), OwnS.reads (he.nth 2 rfl)⟩⟩
            case measure => simp [intOf]; omega
        · obtain rfl : k = 16 := by omega
          go_wp2_with fail
          go_ret
          exact ⟨congrArg (fun z => Ending.returned (.int .i64 z)) HS.out, HF.out.gr⟩
    · have HIN := Lib.hid fun u => Cell.in_is i 0 ((n2 : Int) - 2) false (decide_eq_false hr) u
      rw [show fsumG R xs ms ts bs i = 0 from if_neg (fun hh => hr ⟨hh.2.1, by have := hh.2.2; omega⟩)]
      clear hs h h1 h2 h3 h4 hl hr m1 m1' m4 m4' m2 m3
      go_enter Try.func46, Try.ntmps46
      go_upto_region 1 with fail
      generalize w.alloc (.cells #[.int .i64 R, .slice (some ⟨g1, 0, none⟩) n1 c1, .slice (some ⟨g2, 0, none⟩) n2 c2, .slice (some ⟨g3, 0, none⟩) n3 c3, .slice (some ⟨g4, 0, none⟩) n4 c4] 29) = W0 at *
      obtain ⟨p0, p1, p2, p3, p4⟩ := box5 (HE.out.nth 0 rfl)
      go_wp2_with (first
        | (go_at_call 16; ((with_reducible refine (HOK.out _ HE.out.gr).mono ?_); rintro e w1 ⟨rfl, hg⟩; have HE1 := Lib.hid (HE.out.on hg); obtain ⟨z0, z1, z2, z3, z4⟩ := box5 (HE1.out.nth 0 rfl); clear hg))
        | (go_at_call 54; ((with_reducible refine (HIN.out _).mono ?_); rintro e w3 ⟨rfl, rfl⟩)))
      go_ret
      exact ⟨rfl, HE1.out.gr⟩
end Go.Proofs.Ytnaofcbbdlhjpaa.State
