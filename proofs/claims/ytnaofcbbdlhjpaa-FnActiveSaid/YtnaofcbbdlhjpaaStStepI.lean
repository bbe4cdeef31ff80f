/- Steps: the program's StepState, MacroStep, FluxSum, as contracts: what each answers; a state in memory of the call's own.
   Conditions: at most 2^20 leaves and numbers. -/
import Derived.Test.YtnaofcbbdlhjpaaStFlow
import Derived.Test.YtnaofcbbdlhjpaaStAct
import Derived.Test.YtnaofcbbdlhjpaaMFaceIF
set_option maxRecDepth 100000
namespace Go.Proofs.Ytnaofcbbdlhjpaa.State
open Go.ChangeShapes Go.WideShapes Go.ChangeAt Go.RowKit Go.Joins Go.Proofs.Ytnaofcbbdlhjpaa.Cell Go.Proofs.Ytnaofcbbdlhjpaa.Mesh Go.Proofs.Ytnaofcbbdlhjpaa.Law Go.Proofs.Ytnaofcbbdlhjpaa.Ints Go.Proofs.Ytnaofcbbdlhjpaa.Draws Go.Deep

theorem Held.some {w W : World} {gs gs' : List Grp} (h : Held w W gs) (hs : gs'.Sublist gs) : Held w W gs' :=
  ⟨fun g hg => h.p g (hs.subset hg), fun g hg => h.lo g (hs.subset hg), h.dis.sublist hs, h.gr⟩

set_option maxHeartbeats 16000000 in
theorem stepState_is (R t : Int) (a1 a2 a3 a4 : Option Addr) (n1 n2 n3 n4 c1 c2 c3 c4 : Nat) (xs : List C3) (ms ts bs : List Int) (w : World) (h : ReadsS w a1 a2 a3 a4 n1 n2 n3 n4 xs ms ts bs) (h1 : n1 ≤ 1048576) (h2 : n2 ≤ 1048576) (h3 : n3 ≤ 1048576) (h4 : n4 ≤ 1048576) :
    Calls Try.prog 15 #[.agg #[.int .i64 R, .slice a1 n1 c1, .slice a2 n2 c2, .slice a3 n3 c3, .slice a4 n4 c4], .int .i64 t] w (GivesS R n1 n2 n3 n4 xs (tickS R xs bs (ms, ts) t).1 (tickS R xs bs (ms, ts) t).2 bs w) := by
  have HOK := Lib.hid (show ∀ u, w.grownBy u none → Calls Try.prog 50 #[.agg #[.int .i64 R, .slice a1 n1 c1, .slice a2 n2 c2, .slice a3 n3 c3, .slice a4 n4 c4]] u fun e w' => e = .returned (.bool (stOk R xs ms ts bs)) ∧ u.grownBy w' none from fun u hu => stateOk_is R a1 a2 a3 a4 n1 n2 n3 n4 c1 c2 c3 c4 xs ms ts bs u (h.on hu) h1 h2 h3 h4)
  have he := ((Held.nil w).box 29 #[.int .i64 R, .slice a1 n1 c1, .slice a2 n2 c2, .slice a3 n3 c3, .slice a4 n4 c4]).box 29 #[.int .i64 0, .slice none 0 0, .slice none 0 0, .slice none 0 0, .slice none 0 0]
  simp only [World.size_alloc] at he
  have HE := Lib.hid he
  clear he
  cases hs : stOk R xs ms ts bs with
  | false =>
    rw [hs] at HOK
    rw [tick_bad hs]
    have HCP := Lib.hid (show ∀ u, w.grownBy u none → Calls Try.prog 51 #[.agg #[.int .i64 R, .slice a1 n1 c1, .slice a2 n2 c2, .slice a3 n3 c3, .slice a4 n4 c4]] u (GivesS R n1 n2 n3 n4 xs ms ts bs u) from fun u hu => stClone_is R _ _ _ _ n1 n2 n3 n4 c1 c2 c3 c4 xs ms ts bs u (h.on hu) h1 h2 h3 h4)
    clear hs h h1 h2 h3 h4
    go_enter Try.func15, Try.ntmps15
    go_upto_region 1 with fail
    generalize (w.alloc (.cells #[.int .i64 R, .slice a1 n1 c1, .slice a2 n2 c2, .slice a3 n3 c3, .slice a4 n4 c4] 29)).alloc (.cells #[.int .i64 0, .slice none 0 0, .slice none 0 0, .slice none 0 0, .slice none 0 0] 29) = W0 at *
    obtain ⟨p0, p1, p2, p3, p4⟩ := box5 (HE.out.nth 0 rfl)
    go_wp2_with (first | (go_at_call 50; ((with_reducible refine (HOK.out _ HE.out.gr).mono ?_); rintro e w1 ⟨rfl, hg⟩; have HE1 := Lib.hid (HE.out.on hg); obtain ⟨z0, z1, z2, z3, z4⟩ := box5 (HE1.out.nth 0 rfl); clear hg)) | (go_at_call 51; ((with_reducible refine (HCP.out _ HE1.out.gr).mono ?_); rintro e w2 ⟨q1, d1, q2, d2, q3, d3, q4, d4, rfl, ho, hg⟩; have HE2 := Lib.hid (State.Held.state HE1.out hg ho); obtain ⟨r0, r1, r2, r3, r4⟩ := box5 (HE2.out.nth 1 rfl); obtain ⟨f0, f1, f2, f3, f4⟩ := free5 (HE2.out.nth 1 rfl); clear ho hg)))
    have he := HE2.out.put5 1 rfl (.int .i64 R) (.slice q1 n1 d1) (.slice q2 n2 d2) (.slice q3 n3 d3) (.slice q4 n4 d4)
    exact bodyPost_ret_by (results_cell_row (fn := Try.f15) rfl _ _ (w.heap.size + 1) _ _ (0, 0) _ rfl (he.nth 1 rfl) Try.underlying29 rfl (by kernel_rfl)) rfl ⟨q1, d1, q2, d2, q3, d3, q4, d4, rfl, Held.stateOwn he 2 rfl, he.gr⟩
  | true =>
    rw [hs] at HOK
    rw [tick_ok (p := (ms, ts)) hs]
    obtain ⟨nf, hnf⟩ : ∃ nf, nf = (toI (actF xs t (xs.length - 1))).length := ⟨_, rfl⟩
    have hm : meshOk R xs = true := by
      obtain ⟨p1, -⟩ := stOk_parts hs
      unfold balanced at p1; simp only [Bool.and_eq_true] at p1; exact p1.1
    have HAF := Lib.hid (show ∀ u, w.grownBy u none → Calls Try.prog 27 #[.agg #[.int .i64 R, .slice a1 n1 c1], .int .i64 t] u fun e w' => ∃ q d, e = .returned (.slice q nf d) ∧ w'.ownsRow u.heap.size 3 1 (.slice q nf d) nf (vals (toI (actF xs t (xs.length - 1)))) ∧ u.grownBy w' none from fun u hu => by
      have q := activeFaces_is R t a1 n1 c1 xs u (h.l.on hu) h1
      rw [show actG R xs t = toI (actF xs t (xs.length - 1)) from if_pos hm] at q
      unfold GivesI at q
      rw [← hnf] at q
      exact q)
    have HSP := Lib.hid (show ∀ u q d, w.grownBy u none → ReadsI u q nf (toI (actF xs t (xs.length - 1))) → Calls Try.prog 52 #[.agg #[.int .i64 R, .slice a1 n1 c1, .slice a2 n2 c2, .slice a3 n3 c3, .slice a4 n4 c4], .slice q nf d] u (GivesS R n1 n2 n3 n4 xs (stepM xs ms bs t) (stepT xs ms ts bs t) bs u) from fun u q d hu hf => stepThrough_is R t a1 a2 a3 a4 q n1 n2 n3 n4 c1 c2 c3 c4 nf d xs ms ts bs u (h.on hu) hf hs h1 h4)
    clear hs h h1 h2 h3 h4 hm hnf
    go_enter Try.func15, Try.ntmps15
    go_upto_region 1 with fail
    generalize (w.alloc (.cells #[.int .i64 R, .slice a1 n1 c1, .slice a2 n2 c2, .slice a3 n3 c3, .slice a4 n4 c4] 29)).alloc (.cells #[.int .i64 0, .slice none 0 0, .slice none 0 0, .slice none 0 0, .slice none 0 0] 29) = W0 at *
    obtain ⟨p0, p1, p2, p3, p4⟩ := box5 (HE.out.nth 0 rfl)
    go_upto_region 3 with (go_at_call 50; ((with_reducible refine (HOK.out _ HE.out.gr).mono ?_); rintro e w1 ⟨rfl, hg⟩; have HE1 := Lib.hid (HE.out.on hg); clear hg))
    clear p0 p1 p2 p3 p4 HE HOK
    obtain ⟨p0, p1, p2, p3, p4⟩ := box5 (HE1.out.nth 0 rfl)
    have HD := Lib.hid (Cell.grown_refl w1)
    go_region_with (first
      | (go_at_call 27; ((with_reducible refine (HAF.out _ (HE1.out.on (by first | exact Mesh.gr_drew HD.out | exact HD.out)).gr).mono ?_); rintro e w2 ⟨q, d, rfl, ho, hg⟩; have HE2 := Lib.hid ((HE1.out.on (by first | exact Mesh.gr_drew HD.out | exact HD.out)).row hg ho); obtain ⟨z0, z1, z2, z3, z4⟩ := box5 (HE2.out.nth 0 rfl); clear ho hg))
      | (go_at_call 52; ((with_reducible refine (HSP.out _ _ _ HE2.out.gr (own_readsI (HE2.out.nth 2 rfl))).mono ?_); rintro e w3 ⟨q1, d1, q2, d2, q3, d3, q4, d4, rfl, ho, hg⟩; have HE3 := Lib.hid (State.Held.state HE2.out hg ho); obtain ⟨r0, r1, r2, r3, r4⟩ := box5 (HE3.out.nth 1 rfl); obtain ⟨f0, f1, f2, f3, f4⟩ := free5 (HE3.out.nth 1 rfl); clear ho hg)))
    all_goals
      go_wp2_with fail
      have he := HE3.out.put5 1 rfl (.int .i64 R) (.slice q1 n1 d1) (.slice q2 n2 d2) (.slice q3 n3 d3) (.slice q4 n4 d4)
      exact bodyPost_ret_by (results_cell_row (fn := Try.f15) rfl _ _ (w.heap.size + 1) _ _ (0, 0) _ rfl (he.nth 1 rfl) Try.underlying29 rfl (by kernel_rfl)) rfl ⟨q1, d1, q2, d2, q3, d3, q4, d4, rfl, Held.stateOwn he 3 rfl, he.gr⟩

/-- What a run of ticks holds: the state in a box, in the caller's memory before the first tick, then in memory of the call's own. -/
def Cur (R : Int) (n1 n2 n3 n4 : Nat) (xs : List C3) (bs : List Int) (p : List Int × List Int) (B : Nat) (k : Nat) (w W : World) (rest : List Grp) : Prop :=
  ∃ b1 d1 b2 d2 b3 d3 b4 d4 G, Held w W ([boxG B 29 #[.int .i64 R, .slice b1 n1 d1, .slice b2 n2 d2, .slice b3 n3 d3, .slice b4 n4 d4]] ++ rest ++ [G]) ∧ ReadsS W b1 b2 b3 b4 n1 n2 n3 n4 xs (ticks R xs bs p 0 k).1 (ticks R xs bs p 0 k).2 bs
    ∧ (0 < k → G = stateG (.slice b1 n1 d1) (.slice b2 n2 d2) (.slice b3 n3 d3) (.slice b4 n4 d4) n1 n2 n3 n4 xs (ticks R xs bs p 0 k).1 (ticks R xs bs p 0 k).2 bs)
theorem ticks_succ0 (R : Int) (xs : List C3) (bs : List Int) (p : List Int × List Int) (k : Nat) : ticks R xs bs p 0 (k + 1) = tickS R xs bs (ticks R xs bs p 0 k) k := by
  rw [ticks, show (0 : Int) + (k : Int) = k by omega]

set_option maxHeartbeats 16000000 in
theorem macroStep_is (R : Int) (a1 a2 a3 a4 : Option Addr) (n1 n2 n3 n4 c1 c2 c3 c4 : Nat) (xs : List C3) (ms ts bs : List Int) (w : World) (h : ReadsS w a1 a2 a3 a4 n1 n2 n3 n4 xs ms ts bs) (h1 : n1 ≤ 1048576) (h2 : n2 ≤ 1048576) (h3 : n3 ≤ 1048576) (h4 : n4 ≤ 1048576) :
    Calls Try.prog 23 #[.agg #[.int .i64 R, .slice a1 n1 c1, .slice a2 n2 c2, .slice a3 n3 c3, .slice a4 n4 c4]] w (GivesS R n1 n2 n3 n4 xs (ticks R xs bs (ms, ts) 0 16).1 (ticks R xs bs (ms, ts) 0 16).2 bs w) := by
  have HST := Lib.hid (show ∀ (k : Nat) (b1 b2 b3 b4 : Option Addr) (d1 d2 d3 d4 : Nat) u, ReadsS u b1 b2 b3 b4 n1 n2 n3 n4 xs (ticks R xs bs (ms, ts) 0 k).1 (ticks R xs bs (ms, ts) 0 k).2 bs → Calls Try.prog 15 #[.agg #[.int .i64 R, .slice b1 n1 d1, .slice b2 n2 d2, .slice b3 n3 d3, .slice b4 n4 d4], .int .i64 (k : Int)] u (GivesS R n1 n2 n3 n4 xs (ticks R xs bs (ms, ts) 0 (k + 1)).1 (ticks R xs bs (ms, ts) 0 (k + 1)).2 bs u) from fun k b1 b2 b3 b4 d1 d2 d3 d4 u hu => by
    rw [ticks_succ0]
    exact stepState_is R k b1 b2 b3 b4 n1 n2 n3 n4 d1 d2 d3 d4 xs _ _ bs u hu h1 h2 h3 h4)
  have he := ((Held.nil w).box 29 #[.int .i64 R, .slice a1 n1 c1, .slice a2 n2 c2, .slice a3 n3 c3, .slice a4 n4 c4]).box 29 #[.int .i64 0, .slice none 0 0, .slice none 0 0, .slice none 0 0, .slice none 0 0]
  simp only [World.size_alloc] at he
  have HE := Lib.hid (show Cur R n1 n2 n3 n4 xs bs (ms, ts) w.heap.size 0 w _ [boxG (w.heap.size + 1) 29 #[.int .i64 0, .slice none 0 0, .slice none 0 0, .slice none 0 0, .slice none 0 0]] from ⟨a1, c1, a2, c2, a3, c3, a4, c4, emptyG, he.addE, h.on he.gr, fun q => absurd q (by omega)⟩)
  clear he h h1 h2 h3 h4
  go_enter Try.func23, Try.ntmps23
  go_upto_region 1 with fail
  generalize (w.alloc (.cells #[.int .i64 R, .slice a1 n1 c1, .slice a2 n2 c2, .slice a3 n3 c3, .slice a4 n4 c4] 29)).alloc (.cells #[.int .i64 0, .slice none 0 0, .slice none 0 0, .slice none 0 0, .slice none 0 0] 29) = W0 at *
  go_wp2_with fail
  go_loopw [4] (fun i wr => ∃ k : Nat, (k : Int) ≤ 16 ∧ i = .int .i64 k ∧ Hid (Cur R n1 n2 n3 n4 xs bs (ms, ts) w.heap.size k w wr [boxG (w.heap.size + 1) 29 #[.int .i64 0, .slice none 0 0, .slice none 0 0, .slice none 0 0, .slice none 0 0]])) (fun i _ => 16 - (intOf i).toNat)
  case atStart => exact ⟨0, by omega, rfl, HE⟩
  case round =>
    clear HE
    obtain ⟨k, hk, rfl, HC⟩ := hrel
    obtain ⟨b1, d1, b2, d2, b3, d3, b4, d4, G, hh, hr, hG⟩ := HC.out
    have HF := Lib.hid hh; have HR := Lib.hid hr; have HG := Lib.hid hG
    clear hh hr hG HC
    obtain ⟨p0, p1, p2, p3, p4⟩ := box5 (HF.out.nth 0 rfl)
    by_cases hlt : (k : Int) < 16
    · obtain ⟨f0, f1, f2, f3, f4⟩ := free5 (HF.out.nth 0 rfl)
      go_wp2_with (go_at_call 15; ((with_reducible refine (HST.out k b1 b2 b3 b4 d1 d2 d3 d4 _ HR.out).mono ?_); rintro e w5 ⟨q1, e1, q2, e2, q3, e3, q4, e4, rfl, ho, hg⟩; have HF2 := Lib.hid (State.Held.state HF.out hg ho); obtain ⟨y0, y1, y2, y3, y4⟩ := box5 (HF2.out.nth 0 rfl); obtain ⟨g0, g1, g2, g3, g4⟩ := free5 (HF2.out.nth 0 rfl); clear ho hg))
      go_roundw
      case rel =>
        have he := HF2.out.put5 0 rfl (.int .i64 R) (.slice q1 n1 e1) (.slice q2 n2 e2) (.slice q3 n3 e3) (.slice q4 n4 e4)
        exact ⟨k + 1, by omega, by go_num, Lib.hid ⟨q1, e1, q2, e2, q3, e3, q4, e4, _, (State.Held.some he (.cons_cons _ (.cons_cons _ (.cons _ (.refl _))))), OwnS.reads (he.nth 3 rfl), fun _ => rfl⟩⟩
      case measure => simp [intOf]; omega
    · obtain rfl : k = 16 := by omega
      obtain ⟨r0, r1, r2, r3, r4⟩ := box5 (HF.out.nth 1 rfl)
      obtain ⟨f0, f1, f2, f3, f4⟩ := free5 (HF.out.nth 1 rfl)
      go_wp2_with fail
      have he := HF.out.put5 1 rfl (.int .i64 R) (.slice b1 n1 d1) (.slice b2 n2 d2) (.slice b3 n3 d3) (.slice b4 n4 d4)
      rw [HG.out (by omega)] at he
      exact bodyPost_ret_by (results_cell_row (fn := Try.f23) rfl _ _ (w.heap.size + 1) _ _ (0, 0) _ rfl (he.nth 1 rfl) Try.underlying29 rfl (by kernel_rfl)) rfl ⟨b1, d1, b2, d2, b3, d3, b4, d4, rfl, Held.stateOwn he 2 rfl, he.gr⟩

/-- The sum of the fluxes through a face in the first k ticks, whatever the state and the face. -/
def sumG (R : Int) (xs : List C3) (ms ts bs : List Int) (i : Int) (k : Nat) : Int := if stOk R xs ms ts bs = true ∧ 0 ≤ i ∧ i + 1 < xs.length then sumF R xs bs (ms, ts) i.toNat k else 0
theorem sumG_bounds (R : Int) (xs : List C3) (ms ts bs : List Int) (i : Int) (k : Nat) : -2500000 * (k : Int) ≤ sumG R xs ms ts bs i k ∧ sumG R xs ms ts bs i k ≤ 2500000 * (k : Int) := by
  unfold sumG
  split
  · rename_i h; exact sumF_bounds h.1 _ k
  · omega
theorem faceG_bounds (R : Int) (xs : List C3) (ms ts bs : List Int) (i : Int) : -2500000 ≤ faceG R xs ms ts bs i ∧ faceG R xs ms ts bs i ≤ 2500000 := by
  unfold faceG
  split
  · rename_i h
    obtain ⟨-, ⟨p2, p3, -⟩, -⟩ := stOk_parts h.1
    obtain ⟨f1, f2, -⟩ := flux_facts h.1 (k := i.toNat) (by omega)
    obtain ⟨m, tt, -, -, em, -, m0, m1, -⟩ := pair_at h.1 (show i.toNat < ms.length by omega)
    obtain ⟨m', tt', -, -, em', -, m0', m1', -⟩ := pair_at h.1 (show i.toNat + 1 < ms.length by omega)
    rw [em] at f1; rw [em'] at f2
    omega
  · omega
theorem sumG_next (R : Int) (xs : List C3) (ms ts bs : List Int) (i : Int) (k : Nat) : sumG R xs ms ts bs i (k + 1) = sumG R xs ms ts bs i k + (if actN k (faceOf R xs i) = true then faceG R xs (ticks R xs bs (ms, ts) 0 k).1 (ticks R xs bs (ms, ts) 0 k).2 bs i else 0) := by
  have hv : stOk R xs (ticks R xs bs (ms, ts) 0 k).1 (ticks R xs bs (ms, ts) 0 k).2 bs = stOk R xs ms ts bs := ticks_valid 0 k
  unfold sumG faceG
  rw [hv]
  by_cases h : stOk R xs ms ts bs = true ∧ 0 ≤ i ∧ i + 1 < xs.length
  · have hm : meshOk R xs = true := by
      obtain ⟨p1, -⟩ := stOk_parts h.1
      unfold balanced at p1; simp only [Bool.and_eq_true] at p1; exact p1.1
    rw [if_pos h, if_pos h, if_pos h, sumF, show faceOf R xs i = faceAt xs i.toNat from if_pos ⟨hm, h.2.1, h.2.2⟩]
    unfold flowAt
    by_cases ha : actN k (faceAt xs i.toNat) = true
    · rw [if_pos ⟨by omega, ha⟩, if_pos ha]
    · rw [if_neg (fun q => ha q.2), if_neg ha]
  · rw [if_neg h, if_neg h, if_neg h]
    split <;> rfl
theorem sumG_on {R : Int} {xs : List C3} {ms ts bs : List Int} {i : Int} {k : Nat} (h : actN k (faceOf R xs i) = true) : sumG R xs ms ts bs i (k + 1) = sumG R xs ms ts bs i k + faceG R xs (ticks R xs bs (ms, ts) 0 k).1 (ticks R xs bs (ms, ts) 0 k).2 bs i := by rw [sumG_next, if_pos h]
theorem sumG_off {R : Int} {xs : List C3} {ms ts bs : List Int} {i : Int} {k : Nat} (h : actN k (faceOf R xs i) = false) : sumG R xs ms ts bs i (k + 1) = sumG R xs ms ts bs i k := by rw [sumG_next, if_neg (by rw [h]; simp), Int.add_zero]

set_option maxHeartbeats 16000000 in
theorem fluxSum_is (R : Int) (a1 a2 a3 a4 : Option Addr) (n1 n2 n3 n4 c1 c2 c3 c4 : Nat) (xs : List C3) (ms ts bs : List Int) (i : Int) (w : World) (h : ReadsS w a1 a2 a3 a4 n1 n2 n3 n4 xs ms ts bs) (h1 : n1 ≤ 1048576) (h2 : n2 ≤ 1048576) (h3 : n3 ≤ 1048576) (h4 : n4 ≤ 1048576) (hi : -9223372036854775808 ≤ i ∧ i ≤ 9223372036854775807) :
    Calls Try.prog 24 #[.agg #[.int .i64 R, .slice a1 n1 c1, .slice a2 n2 c2, .slice a3 n3 c3, .slice a4 n4 c4], .int .i64 i] w fun e w' => e = .returned (.int .i64 (fsumG R xs ms ts bs i)) ∧ w.grownBy w' none := by
  have HST := Lib.hid (show ∀ (k : Nat) (b1 b2 b3 b4 : Option Addr) (d1 d2 d3 d4 : Nat) u, ReadsS u b1 b2 b3 b4 n1 n2 n3 n4 xs (ticks R xs bs (ms, ts) 0 k).1 (ticks R xs bs (ms, ts) 0 k).2 bs → Calls Try.prog 15 #[.agg #[.int .i64 R, .slice b1 n1 d1, .slice b2 n2 d2, .slice b3 n3 d3, .slice b4 n4 d4], .int .i64 (k : Int)] u (GivesS R n1 n2 n3 n4 xs (ticks R xs bs (ms, ts) 0 (k + 1)).1 (ticks R xs bs (ms, ts) 0 (k + 1)).2 bs u) from fun k b1 b2 b3 b4 d1 d2 d3 d4 u hu => by
    rw [ticks_succ0]
    exact stepState_is R k b1 b2 b3 b4 n1 n2 n3 n4 d1 d2 d3 d4 xs _ _ bs u hu h1 h2 h3 h4)
  have HFF := Lib.hid (show ∀ (k : Nat) (b1 b2 b3 b4 : Option Addr) (d1 d2 d3 d4 : Nat) u, ReadsS u b1 b2 b3 b4 n1 n2 n3 n4 xs (ticks R xs bs (ms, ts) 0 k).1 (ticks R xs bs (ms, ts) 0 k).2 bs → Calls Try.prog 57 #[.agg #[.int .i64 R, .slice b1 n1 d1, .slice b2 n2 d2, .slice b3 n3 d3, .slice b4 n4 d4], .int .i64 i] u fun e w' => e = .returned (.int .i64 (faceG R xs (ticks R xs bs (ms, ts) 0 k).1 (ticks R xs bs (ms, ts) 0 k).2 bs i)) ∧ u.grownBy w' none from fun k b1 b2 b3 b4 d1 d2 d3 d4 u hu =>
    faceFlux_is R b1 b2 b3 b4 n1 n2 n3 n4 d1 d2 d3 d4 xs _ _ bs i u hu h1 h2 h3 h4 hi)
  have HLV := Lib.hid (show ∀ u, w.grownBy u none → Calls Try.prog 56 #[.agg #[.int .i64 R, .slice a1 n1 c1], .int .i64 i] u fun e w' => e = .returned (.int .i64 (faceOf R xs i)) ∧ u.grownBy w' none from fun u hu => faceLvl_is R i a1 n1 c1 xs u (h.l.on hu) h1)
  have he := (Held.nil w).box 29 #[.int .i64 R, .slice a1 n1 c1, .slice a2 n2 c2, .slice a3 n3 c3, .slice a4 n4 c4]
  have HE := Lib.hid he; have HRD := Lib.hid h
  clear he h h1 h2 h3 h4 hi
  go_enter Try.func24, Try.ntmps24
  go_upto_region 1 with fail
  generalize w.alloc (.cells #[.int .i64 R, .slice a1 n1 c1, .slice a2 n2 c2, .slice a3 n3 c3, .slice a4 n4 c4] 29) = W0 at *
  obtain ⟨p0, p1, p2, p3, p4⟩ := box5 (HE.out.nth 0 rfl)
  go_wp2_with (go_at_call 56; ((with_reducible refine (HLV.out _ HE.out.gr).mono ?_); rintro e w1 ⟨rfl, hg⟩; have HE1 := Lib.hid (HE.out.on hg); clear hg))
  have HC0 := Lib.hid (show Cur R n1 n2 n3 n4 xs bs (ms, ts) w.heap.size 0 w w1 [] from ⟨a1, c1, a2, c2, a3, c3, a4, c4, emptyG, HE1.out.addE, HRD.out.on HE1.out.gr, fun q => absurd q (by omega)⟩)
  clear p0 p1 p2 p3 p4 HE HE1 HRD HLV
  go_loopw [6, 12] (fun v i_ wr => ∃ (k : Nat) (s : Int), (k : Int) ≤ 16 ∧ i_ = .int .i64 k ∧ v = .int .i64 s ∧ Hid (s = sumG R xs ms ts bs i k) ∧ Hid (Cur R n1 n2 n3 n4 xs bs (ms, ts) w.heap.size k w wr [])) (fun _ i _ => 16 - (intOf i).toNat)
  case atStart => exact ⟨0, 0, by omega, rfl, rfl, Lib.hid (by unfold sumG; split <;> rfl), HC0⟩
  case round =>
    clear HC0
    obtain ⟨k, s, hk, rfl, rfl, HS, HC⟩ := hrel
    obtain ⟨b1, d1, b2, d2, b3, d3, b4, d4, G, hh, hr, hG⟩ := HC.out
    have HF := Lib.hid hh; have HR := Lib.hid hr
    clear hh hr hG HC
    obtain ⟨p0, p1, p2, p3, p4⟩ := box5 (HF.out.nth 0 rfl)
    by_cases hlt : (k : Int) < 16
    · obtain ⟨f0, f1, f2, f3, f4⟩ := free5 (HF.out.nth 0 rfl)
      have HA := Lib.hid fun u => isActive_is k (faceOf R xs i) u
      cases ha : actN k (faceOf R xs i) with
      | true =>
        have HN := Lib.hid (sumG_on (ms := ms) (ts := ts) (bs := bs) ha)
        obtain ⟨s0, s1⟩ := sumG_bounds R xs ms ts bs i k
        obtain ⟨v0, v1⟩ := faceG_bounds R xs (ticks R xs bs (ms, ts) 0 k).1 (ticks R xs bs (ms, ts) 0 k).2 bs i
        have HFK := Lib.hid (HFF.out k)
        rw [← HS.out] at HN s0 s1
        rw [ha] at HA
        generalize faceG R xs (ticks R xs bs (ms, ts) 0 k).1 (ticks R xs bs (ms, ts) 0 k).2 bs i = V at *
        generalize faceOf R xs i = L at *
        clear ha
        go_wp2_with (first
          | (go_at_call 28; ((with_reducible refine (HA.out _).mono ?_); rintro e w3 ⟨rfl, rfl⟩))
          | (go_at_call 57; ((with_reducible refine (HFK.out b1 b2 b3 b4 d1 d2 d3 d4 _ HR.out).mono ?_); rintro e w4 ⟨rfl, hg⟩; have HF1 := Lib.hid (HF.out.on hg); have HR1 := Lib.hid (HR.out.on hg); obtain ⟨z0, z1, z2, z3, z4⟩ := box5 (HF1.out.nth 0 rfl); clear hg))
          | (go_at_call 15; ((with_reducible refine (HST.out k b1 b2 b3 b4 d1 d2 d3 d4 _ HR1.out).mono ?_); rintro e w5 ⟨q1, e1, q2, e2, q3, e3, q4, e4, rfl, ho, hg⟩; have HF2 := Lib.hid (State.Held.state HF1.out hg ho); obtain ⟨y0, y1, y2, y3, y4⟩ := box5 (HF2.out.nth 0 rfl); obtain ⟨g0, g1, g2, g3, g4⟩ := free5 (HF2.out.nth 0 rfl); clear ho hg)))
        go_roundw
        case rel =>
          have he := HF2.out.put5 0 rfl (.int .i64 R) (.slice q1 n1 e1) (.slice q2 n2 e2) (.slice q3 n3 e3) (.slice q4 n4 e4)
          exact ⟨k + 1, s + V, by omega, by go_num, rfl, Lib.hid HN.out.symm, Lib.hid ⟨q1, e1, q2, e2, q3, e3, q4, e4, _, (State.Held.some he (.cons_cons _ (.cons _ (.refl _)))), OwnS.reads (he.nth 2 rfl), fun _ => rfl⟩⟩
        case measure => simp [intOf]; omega
      | false =>
        have HN := Lib.hid (sumG_off (ms := ms) (ts := ts) (bs := bs) ha)
        rw [← HS.out] at HN
        rw [ha] at HA
        generalize faceOf R xs i = L at *
        clear ha
        go_wp2_with (first
          | (go_at_call 28; ((with_reducible refine (HA.out _).mono ?_); rintro e w3 ⟨rfl, rfl⟩))
          | (go_at_call 15; ((with_reducible refine (HST.out k b1 b2 b3 b4 d1 d2 d3 d4 _ HR.out).mono ?_); rintro e w5 ⟨q1, e1, q2, e2, q3, e3, q4, e4, rfl, ho, hg⟩; have HF2 := Lib.hid (State.Held.state HF.out hg ho); obtain ⟨y0, y1, y2, y3, y4⟩ := box5 (HF2.out.nth 0 rfl); obtain ⟨g0, g1, g2, g3, g4⟩ := free5 (HF2.out.nth 0 rfl); clear ho hg)))
        go_roundw
        case rel =>
          have he := HF2.out.put5 0 rfl (.int .i64 R) (.slice q1 n1 e1) (.slice q2 n2 e2) (.slice q3 n3 e3) (.slice q4 n4 e4)
          exact ⟨k + 1, s, by omega, by go_num, rfl, Lib.hid HN.out.symm, Lib.hid ⟨q1, e1, q2, e2, q3, e3, q4, e4, _, (State.Held.some he (.cons_cons _ (.cons _ (.refl _)))), OwnS.reads (he.nth 2 rfl), fun _ => rfl⟩⟩
        case measure => simp [intOf]; omega
    · obtain rfl : k = 16 := by omega
      go_wp2_with fail
      go_ret
      exact ⟨congrArg (fun z => Ending.returned (.int .i64 z)) HS.out, HF.out.gr⟩
end Go.Proofs.Ytnaofcbbdlhjpaa.State
