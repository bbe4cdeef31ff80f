/- States: what the exact laws call (szState, toState, eqState, markState, heldState), as contracts.
   Conditions: at most 2^20 leaves and numbers. -/
import Derived.Test.YtaccigmkddomaaaSt
set_option maxRecDepth 100000
namespace Go.Proofs.Ytaccigmkddomaaa.State
open Go.ChangeShapes Go.WideShapes Go.ChangeAt Go.RowKit Go.Joins Go.Proofs.Ytaccigmkddomaaa.Cell Go.Proofs.Ytaccigmkddomaaa.Mesh Go.Proofs.Ytaccigmkddomaaa.Law Go.Proofs.Ytaccigmkddomaaa.Ints Go.Deep

theorem Held.ownS {w W : World} {gs : List Grp} {v1 v2 v3 v4 : Value} {n1 n2 n3 n4 : Nat} {xs : List C3} {ms ts bs : List Int} (h : Held w W gs) (i : Nat)
    (h1 : gs[i]? = some (rowG 35 3 v1 n1 (flatC xs))) (h2 : gs[i + 1]? = some (rowG 3 1 v2 n2 (vals ms))) (h3 : gs[i + 2]? = some (rowG 3 1 v3 n3 (vals ts))) (h4 : gs[i + 3]? = some (rowG 3 1 v4 n4 (vals bs))) :
    OwnS W w.heap.size v1 v2 v3 v4 n1 n2 n3 n4 xs ms ts bs :=
  ⟨h.own _ h1, h.own _ h2, h.own _ h3, h.own _ h4, h.apart _ _ (by omega) h1 h2, h.apart _ _ (by omega) h1 h3, h.apart _ _ (by omega) h1 h4, h.apart _ _ (by omega) h2 h3, h.apart _ _ (by omega) h2 h4, h.apart _ _ (by omega) h3 h4⟩

/-- What a law hands on: a state of its own. -/
def MadeS (w : World) (R : Int) (n1 n2 n3 n4 : Nat) (xs : List C3) (ms ts bs : List Int) (e : Ending) (w' : World) : Prop :=
  ∃ g1 g2 g3 g4, e = .returned (.agg #[.int .i64 R, .slice (some ⟨g1, 0, none⟩) n1 n1, .slice (some ⟨g2, 0, none⟩) n2 n2, .slice (some ⟨g3, 0, none⟩) n3 n3, .slice (some ⟨g4, 0, none⟩) n4 n4])
    ∧ OwnS w' w.heap.size (.slice (some ⟨g1, 0, none⟩) n1 n1) (.slice (some ⟨g2, 0, none⟩) n2 n2) (.slice (some ⟨g3, 0, none⟩) n3 n3) (.slice (some ⟨g4, 0, none⟩) n4 n4) n1 n2 n3 n4 xs ms ts bs ∧ w.grownBy w' none

set_option maxHeartbeats 4000000 in
theorem toState_is (R : Int) (a1 a2 a3 a4 : Option Addr) (n1 n2 n3 n4 c1 c2 c3 c4 : Nat) (xs : List C3) (ms ts bs : List Int) (w : World) (h : ArgS w a1 a2 a3 a4 n1 n2 n3 n4 xs ms ts bs) (h1 : n1 ≤ 1048576) (h2 : n2 ≤ 1048576) (h3 : n3 ≤ 1048576) (h4 : n4 ≤ 1048576) :
    Calls Try.prog 23 #[.agg #[.int .i64 R, .slice a1 n1 c1, .slice a2 n2 c2, .slice a3 n3 c3, .slice a4 n4 c4]] w (MadeS w R n1 n2 n3 n4 xs ms ts bs) := by
  have HA := Lib.hid h; have H1 := Lib.hid h1; have H2 := Lib.hid h2; have H3 := Lib.hid h3; have H4 := Lib.hid h4
  clear h h1 h2 h3 h4
  have he := (((Held.nil w).box 47 #[.int .i64 R, .slice a1 n1 c1, .slice a2 n2 c2, .slice a3 n3 c3, .slice a4 n4 c4]).box 29 #[.int .i64 0, .slice none 0 0, .slice none 0 0, .slice none 0 0, .slice none 0 0]).box 29 #[.int .i64 0, .slice none 0 0, .slice none 0 0, .slice none 0 0, .slice none 0 0]
  simp only [World.size_alloc] at he
  have HE := Lib.hid he; clear he
  go_enter Try.func23, Try.ntmps23
  go_upto_region 2 with fail
  generalize ((w.alloc (.cells #[.int .i64 R, .slice a1 n1 c1, .slice a2 n2 c2, .slice a3 n3 c3, .slice a4 n4 c4] 47)).alloc (.cells #[.int .i64 0, .slice none 0 0, .slice none 0 0, .slice none 0 0, .slice none 0 0] 29)).alloc (.cells #[.int .i64 0, .slice none 0 0, .slice none 0 0, .slice none 0 0, .slice none 0 0] 29) = W0 at *
  obtain ⟨b0, b1, -⟩ := box5 (HE.out.nth 0 rfl)
  go_upto_region 3 with (go_at_call 34; ((with_reducible refine (to_own _ _ _ _ _ _ (HA.out.l.on HE.out.gr) H1.out).mono ?_); rintro e w1 ⟨g1, rfl, ho, hg⟩; have HE1 := Lib.hid (HE.out.row hg ho); obtain ⟨o0, o1, -⟩ := box5 (HE1.out.nth 2 rfl); obtain ⟨f0, f1, -⟩ := free5 (HE1.out.nth 2 rfl); clear ho hg))
  have HE2 := Lib.hid ((HE1.out.put5a 2 rfl (.int .i64 R)).put5b 2 rfl (.slice (some ⟨g1, 0, none⟩) n1 n1))
  clear b0 b1 o0 o1 f0 f1 HE HE1
  generalize (w1.setCell ⟨w.heap.size + 1 + 1, 0, none⟩ (.int .i64 R)).setCell ⟨w.heap.size + 1 + 1, 1, none⟩ (.slice (some ⟨g1, 0, none⟩) n1 n1) = W2 at *
  obtain ⟨-, -, b2, -⟩ := box5 (HE2.out.nth 0 rfl)
  go_upto_region 4 with (go_at_call 31; ((with_reducible refine (toI_is _ _ _ _ _ (HA.out.m.on HE2.out.gr) H2.out).mono ?_); rintro e w1 ⟨g2, rfl, ho, hg⟩; have HE3 := Lib.hid (HE2.out.row hg ho); obtain ⟨-, -, o2, -⟩ := box5 (HE3.out.nth 2 rfl); obtain ⟨-, -, f2, -⟩ := free5 (HE3.out.nth 2 rfl); clear ho hg))
  have HE4 := Lib.hid (HE3.out.put5c 2 rfl (.slice (some ⟨g2, 0, none⟩) n2 n2))
  clear b2 o2 f2 HE2 HE3
  generalize w1.setCell ⟨w.heap.size + 1 + 1, 2, none⟩ (.slice (some ⟨g2, 0, none⟩) n2 n2) = W4 at *
  obtain ⟨-, -, -, b3, -⟩ := box5 (HE4.out.nth 0 rfl)
  go_upto_region 5 with (go_at_call 31; ((with_reducible refine (toI_is _ _ _ _ _ (HA.out.t.on HE4.out.gr) H3.out).mono ?_); rintro e w1 ⟨g3, rfl, ho, hg⟩; have HE5 := Lib.hid (HE4.out.row hg ho); obtain ⟨-, -, -, o3, -⟩ := box5 (HE5.out.nth 2 rfl); obtain ⟨-, -, -, f3, -⟩ := free5 (HE5.out.nth 2 rfl); clear ho hg))
  have HE6 := Lib.hid (HE5.out.put5d 2 rfl (.slice (some ⟨g3, 0, none⟩) n3 n3))
  clear b3 o3 f3 HE4 HE5
  generalize w1.setCell ⟨w.heap.size + 1 + 1, 3, none⟩ (.slice (some ⟨g3, 0, none⟩) n3 n3) = W6 at *
  obtain ⟨-, -, -, -, b4⟩ := box5 (HE6.out.nth 0 rfl)
  go_upto_region 6 with (go_at_call 31; ((with_reducible refine (toI_is _ _ _ _ _ (HA.out.b.on HE6.out.gr) H4.out).mono ?_); rintro e w1 ⟨g4, rfl, ho, hg⟩; have HE7 := Lib.hid (HE6.out.row hg ho); obtain ⟨-, -, -, -, o4⟩ := box5 (HE7.out.nth 2 rfl); obtain ⟨-, -, -, -, f4⟩ := free5 (HE7.out.nth 2 rfl); clear ho hg))
  have HE8 := Lib.hid (HE7.out.put5e 2 rfl (.slice (some ⟨g4, 0, none⟩) n4 n4))
  clear b4 o4 f4 HE6 HE7
  generalize w1.setCell ⟨w.heap.size + 1 + 1, 4, none⟩ (.slice (some ⟨g4, 0, none⟩) n4 n4) = W8 at *
  obtain ⟨o0, o1, o2, o3, o4⟩ := box5 (HE8.out.nth 2 rfl)
  obtain ⟨r0, r1, r2, r3, r4⟩ := box5 (HE8.out.nth 1 rfl)
  obtain ⟨f0, f1, f2, f3, f4⟩ := free5 (HE8.out.nth 1 rfl)
  go_wp2_with fail
  have he := HE8.out.put5 1 rfl (.int .i64 R) (.slice (some ⟨g1, 0, none⟩) n1 n1) (.slice (some ⟨g2, 0, none⟩) n2 n2) (.slice (some ⟨g3, 0, none⟩) n3 n3) (.slice (some ⟨g4, 0, none⟩) n4 n4)
  exact bodyPost_ret_by (results_cell_row (fn := Try.f23) rfl _ _ (w.heap.size + 1) _ _ (0, 0) _ rfl (he.nth 1 rfl) Try.underlying29 rfl (by kernel_rfl)) rfl
    ⟨g1, g2, g3, g4, rfl, Held.ownS he 3 rfl rfl rfl rfl, he.gr⟩

set_option maxHeartbeats 4000000 in
theorem eqState_is (R : Int) (a1 a2 a3 a4 b1 b2 b3 b4 : Option Addr) (n1 n2 n3 n4 c1 c2 c3 c4 d1 d2 d3 d4 : Nat) (xs : List C3) (ms ts bs : List Int) (w : World) (hx : ReadsS w a1 a2 a3 a4 n1 n2 n3 n4 xs ms ts bs) (hy : ReadsS w b1 b2 b3 b4 n1 n2 n3 n4 xs ms ts bs) (h1 : n1 ≤ 1048576) (h2 : n2 ≤ 1048576) (h3 : n3 ≤ 1048576) (h4 : n4 ≤ 1048576) :
    Calls Try.prog 24 #[.agg #[.int .i64 R, .slice a1 n1 c1, .slice a2 n2 c2, .slice a3 n3 c3, .slice a4 n4 c4], .agg #[.int .i64 R, .slice b1 n1 d1, .slice b2 n2 d2, .slice b3 n3 d3, .slice b4 n4 d4]] w fun e w' => e = .returned (.bool true) ∧ w.grownBy w' none := by
  have HA := Lib.hid hx; have HB := Lib.hid hy; have H1 := Lib.hid h1; have H2 := Lib.hid h2; have H3 := Lib.hid h3; have H4 := Lib.hid h4
  clear hx hy h1 h2 h3 h4
  have he := ((Held.nil w).box 29 #[.int .i64 R, .slice a1 n1 c1, .slice a2 n2 c2, .slice a3 n3 c3, .slice a4 n4 c4]).box 29 #[.int .i64 R, .slice b1 n1 d1, .slice b2 n2 d2, .slice b3 n3 d3, .slice b4 n4 d4]
  simp only [World.size_alloc] at he
  have HE := Lib.hid he; clear he
  go_enter Try.func24, Try.ntmps24
  go_upto_region 1 with fail
  generalize (w.alloc (.cells #[.int .i64 R, .slice a1 n1 c1, .slice a2 n2 c2, .slice a3 n3 c3, .slice a4 n4 c4] 29)).alloc (.cells #[.int .i64 R, .slice b1 n1 d1, .slice b2 n2 d2, .slice b3 n3 d3, .slice b4 n4 d4] 29) = W0 at *
  obtain ⟨p0, p1, -⟩ := box5 (HE.out.nth 0 rfl)
  obtain ⟨q0, q1, -⟩ := box5 (HE.out.nth 1 rfl)
  go_upto_region 3 with (go_at_call 35; ((with_reducible refine (Mesh.eq_is _ _ _ _ _ _ _ xs _ (HA.out.l.on HE.out.gr) (HB.out.l.on HE.out.gr) H1.out H1.out).mono ?_); rintro e w1 ⟨rfl, hg⟩; have HE1 := Lib.hid (HE.out.on hg); clear hg))
  clear p0 p1 q0 q1 HE
  obtain ⟨-, -, p2, -⟩ := box5 (HE1.out.nth 0 rfl)
  obtain ⟨-, -, q2, -⟩ := box5 (HE1.out.nth 1 rfl)
  go_upto_region 5 with (go_at_call 26; ((with_reducible refine (eqI_is _ _ _ _ _ ms _ (HA.out.m.on HE1.out.gr) (HB.out.m.on HE1.out.gr) H2.out).mono ?_); rintro e w2 ⟨rfl, hg⟩; have HE2 := Lib.hid (HE1.out.on hg); clear hg))
  clear p2 q2 HE1
  obtain ⟨-, -, -, p3, -⟩ := box5 (HE2.out.nth 0 rfl)
  obtain ⟨-, -, -, q3, -⟩ := box5 (HE2.out.nth 1 rfl)
  go_upto_region 7 with (go_at_call 26; ((with_reducible refine (eqI_is _ _ _ _ _ ts _ (HA.out.t.on HE2.out.gr) (HB.out.t.on HE2.out.gr) H3.out).mono ?_); rintro e w3 ⟨rfl, hg⟩; have HE3 := Lib.hid (HE2.out.on hg); clear hg))
  clear p3 q3 HE2
  obtain ⟨-, -, -, -, p4⟩ := box5 (HE3.out.nth 0 rfl)
  obtain ⟨-, -, -, -, q4⟩ := box5 (HE3.out.nth 1 rfl)
  go_wp2_with (go_at_call 26; ((with_reducible refine (eqI_is _ _ _ _ _ bs _ (HA.out.b.on HE3.out.gr) (HB.out.b.on HE3.out.gr) H4.out).mono ?_); rintro e w4 ⟨rfl, hg⟩; have HE4 := Lib.hid (HE3.out.on hg); clear hg))
  go_ret
  exact ⟨rfl, HE4.out.gr⟩

theorem szState_is (R : Int) (a1 a2 a3 a4 : Option Addr) (n1 n2 n3 n4 c1 c2 c3 c4 : Nat) (L : Int) (hm1 : n1 ≤ maxLen) (hm2 : n2 ≤ maxLen) (hm3 : n3 ≤ maxLen) (hm4 : n4 ≤ maxLen) (h0 : 0 ≤ L) (h1 : L ≤ 1048576) :
    ∃ r, Left L r (n1 + n2 + n3 + n4) ∧ ∀ w : World, Calls Try.prog 21 #[.agg #[.int .i64 R, .slice a1 n1 c1, .slice a2 n2 c2, .slice a3 n3 c3, .slice a4 n4 c4], .int .i64 L] w fun e w' => e = .returned (.int .i64 r) ∧ w.grownBy w' none := by
  have HM1 := Lib.hid hm1; have HM2 := Lib.hid hm2; have HM3 := Lib.hid hm3; have HM4 := Lib.hid hm4
  clear hm1 hm2 hm3 hm4
  have hs1 : ∃ r1, Left L r1 n1 ∧ ∀ u, Calls Try.prog 32 #[.agg #[.int .i64 R, .slice a1 n1 c1], .int .i64 L] u fun e w' => e = .returned (.int .i64 r1) ∧ u.grownBy w' none := ⟨_, left_of L n1 h0, fun u => szM_to R a1 n1 c1 L HM1.out h0 h1 u⟩
  obtain ⟨r1, hl1, hs1⟩ := hs1
  rcases hl1 with ⟨k1, hl1⟩ | rfl
  · have hs2 : ∃ r2, Left r1 r2 n2 ∧ ∀ u, Calls Try.prog 51 #[.slice a2 n2 c2, .int .i64 r1] u fun e w' => e = .returned (.int .i64 r2) ∧ w' = u := ⟨_, left_of r1 n2 k1, fun u => szI_is a2 n2 c2 r1 HM2.out k1 (by omega) u⟩
    obtain ⟨r2, hl2, hs2⟩ := hs2
    rcases hl2 with ⟨k2, hl2⟩ | rfl
    · have hs3 : ∃ r3, Left r2 r3 n3 ∧ ∀ u, Calls Try.prog 51 #[.slice a3 n3 c3, .int .i64 r2] u fun e w' => e = .returned (.int .i64 r3) ∧ w' = u := ⟨_, left_of r2 n3 k2, fun u => szI_is a3 n3 c3 r2 HM3.out k2 (by omega) u⟩
      obtain ⟨r3, hl3, hs3⟩ := hs3
      rcases hl3 with ⟨k3, hl3⟩ | rfl
      · have hs4 : ∃ r4, Left r3 r4 n4 ∧ ∀ u, Calls Try.prog 51 #[.slice a4 n4 c4, .int .i64 r3] u fun e w' => e = .returned (.int .i64 r4) ∧ w' = u := ⟨_, left_of r3 n4 k3, fun u => szI_is a4 n4 c4 r3 HM4.out k3 (by omega) u⟩
        obtain ⟨r4, hl4, hs4⟩ := hs4
        have HS1 := Lib.hid hs1; have HS2 := Lib.hid hs2; have HS3 := Lib.hid hs3; have HS4 := Lib.hid hs4
        have HL : Hid (Left L r4 (n1 + n2 + n3 + n4)) := Lib.hid (by rcases hl4 with ⟨k4, hl4⟩ | rfl; exact .inl ⟨k4, by omega⟩; exact .inr rfl)
        clear hs1 hs2 hs3 hs4 hl1 hl2 hl3 
        rcases hl4 with ⟨k4, -⟩ | rfl
        all_goals
          refine ⟨_, HL.out, fun w => ?_⟩
          have HE := Lib.hid ((Held.nil w).box 47 #[.int .i64 R, .slice a1 n1 c1, .slice a2 n2 c2, .slice a3 n3 c3, .slice a4 n4 c4])
          go_enter Try.func21, Try.ntmps21
          go_upto_region 1 with fail
          generalize w.alloc (.cells #[.int .i64 R, .slice a1 n1 c1, .slice a2 n2 c2, .slice a3 n3 c3, .slice a4 n4 c4] 47) = W0 at *
          obtain ⟨p0, p1, -⟩ := box5 (HE.out.nth 0 rfl)
          go_upto_region 4 with (go_at_call 32; ((with_reducible refine (HS1.out _).mono ?_); rintro e w1 ⟨rfl, hg⟩; have HE1 := Lib.hid (HE.out.on hg); clear hg))
          clear p0 p1 HE
          obtain ⟨-, -, p2, p3, p4⟩ := box5 (HE1.out.nth 0 rfl)
          go_wp2_with (first
            | (go_at_call 51; ((with_reducible refine (HS2.out _).mono ?_); rintro e w2 ⟨rfl, rfl⟩))
            | (go_at_call 51; ((with_reducible refine (HS3.out _).mono ?_); rintro e w2 ⟨rfl, rfl⟩))
            | (go_at_call 51; ((with_reducible refine (HS4.out _).mono ?_); rintro e w2 ⟨rfl, rfl⟩)))
          go_ret
          exact ⟨rfl, HE1.out.gr⟩
      · have HS1 := Lib.hid hs1; have HS2 := Lib.hid hs2; have HS3 := Lib.hid hs3
        clear hs1 hs2 hs3 hl1 hl2
        refine ⟨_, .inr rfl, fun w => ?_⟩
        have HE := Lib.hid ((Held.nil w).box 47 #[.int .i64 R, .slice a1 n1 c1, .slice a2 n2 c2, .slice a3 n3 c3, .slice a4 n4 c4])
        go_enter Try.func21, Try.ntmps21
        go_upto_region 1 with fail
        generalize w.alloc (.cells #[.int .i64 R, .slice a1 n1 c1, .slice a2 n2 c2, .slice a3 n3 c3, .slice a4 n4 c4] 47) = W0 at *
        obtain ⟨p0, p1, -⟩ := box5 (HE.out.nth 0 rfl)
        go_upto_region 4 with (go_at_call 32; ((with_reducible refine (HS1.out _).mono ?_); rintro e w1 ⟨rfl, hg⟩; have HE1 := Lib.hid (HE.out.on hg); clear hg))
        clear p0 p1 HE
        obtain ⟨-, -, p2, p3, p4⟩ := box5 (HE1.out.nth 0 rfl)
        go_wp2_with (first
          | (go_at_call 51; ((with_reducible refine (HS2.out _).mono ?_); rintro e w2 ⟨rfl, rfl⟩))
          | (go_at_call 51; ((with_reducible refine (HS3.out _).mono ?_); rintro e w2 ⟨rfl, rfl⟩)))
        go_ret
        exact ⟨rfl, HE1.out.gr⟩
    · have HS1 := Lib.hid hs1; have HS2 := Lib.hid hs2
      clear hs1 hs2 hl1
      refine ⟨_, .inr rfl, fun w => ?_⟩
      have HE := Lib.hid ((Held.nil w).box 47 #[.int .i64 R, .slice a1 n1 c1, .slice a2 n2 c2, .slice a3 n3 c3, .slice a4 n4 c4])
      go_enter Try.func21, Try.ntmps21
      go_upto_region 1 with fail
      generalize w.alloc (.cells #[.int .i64 R, .slice a1 n1 c1, .slice a2 n2 c2, .slice a3 n3 c3, .slice a4 n4 c4] 47) = W0 at *
      obtain ⟨p0, p1, -⟩ := box5 (HE.out.nth 0 rfl)
      go_upto_region 4 with (go_at_call 32; ((with_reducible refine (HS1.out _).mono ?_); rintro e w1 ⟨rfl, hg⟩; have HE1 := Lib.hid (HE.out.on hg); clear hg))
      clear p0 p1 HE
      obtain ⟨-, -, p2, p3, p4⟩ := box5 (HE1.out.nth 0 rfl)
      go_wp2_with (go_at_call 51; ((with_reducible refine (HS2.out _).mono ?_); rintro e w2 ⟨rfl, rfl⟩))
      go_ret
      exact ⟨rfl, HE1.out.gr⟩
  · have HS1 := Lib.hid hs1
    clear hs1
    refine ⟨_, .inr rfl, fun w => ?_⟩
    have HE := Lib.hid ((Held.nil w).box 47 #[.int .i64 R, .slice a1 n1 c1, .slice a2 n2 c2, .slice a3 n3 c3, .slice a4 n4 c4])
    go_enter Try.func21, Try.ntmps21
    go_upto_region 1 with fail
    generalize w.alloc (.cells #[.int .i64 R, .slice a1 n1 c1, .slice a2 n2 c2, .slice a3 n3 c3, .slice a4 n4 c4] 47) = W0 at *
    obtain ⟨p0, p1, -⟩ := box5 (HE.out.nth 0 rfl)
    go_wp2_with (go_at_call 32; ((with_reducible refine (HS1.out _).mono ?_); rintro e w1 ⟨rfl, hg⟩; have HE1 := Lib.hid (HE.out.on hg); clear hg))
    go_ret
    exact ⟨rfl, HE1.out.gr⟩

section
variable {w w' : World} {base n1 n2 n3 n4 : Nat} {v1 v2 v3 v4 : Value} {xs xs' : List C3} {ms ts bs ys : List Int}
theorem OwnS.markL (h : OwnS w base v1 v2 v3 v4 n1 n2 n3 n4 xs ms ts bs) (hg : w.grownBy w' v1.ownBlock) (ho : w'.ownsRow base 35 3 v1 n1 (flatC xs')) : OwnS w' base v1 v2 v3 v4 n1 n2 n3 n4 xs' ms ts bs :=
  ⟨ho, own_turned h.m hg (h.lm.symm), own_turned h.t hg (h.lt.symm), own_turned h.b hg (h.lb.symm), h.lm, h.lt, h.lb, h.mt, h.mb, h.tb⟩
theorem OwnS.markM (h : OwnS w base v1 v2 v3 v4 n1 n2 n3 n4 xs ms ts bs) (hg : w.grownBy w' v2.ownBlock) (ho : w'.ownsRow base 3 1 v2 n2 (vals ys)) : OwnS w' base v1 v2 v3 v4 n1 n2 n3 n4 xs ys ts bs :=
  ⟨own_turned h.l hg h.lm, ho, own_turned h.t hg (h.mt.symm), own_turned h.b hg (h.mb.symm), h.lm, h.lt, h.lb, h.mt, h.mb, h.tb⟩
theorem OwnS.markT (h : OwnS w base v1 v2 v3 v4 n1 n2 n3 n4 xs ms ts bs) (hg : w.grownBy w' v3.ownBlock) (ho : w'.ownsRow base 3 1 v3 n3 (vals ys)) : OwnS w' base v1 v2 v3 v4 n1 n2 n3 n4 xs ms ys bs :=
  ⟨own_turned h.l hg h.lt, own_turned h.m hg h.mt, ho, own_turned h.b hg (h.tb.symm), h.lm, h.lt, h.lb, h.mt, h.mb, h.tb⟩
theorem OwnS.markB (h : OwnS w base v1 v2 v3 v4 n1 n2 n3 n4 xs ms ts bs) (hg : w.grownBy w' v4.ownBlock) (ho : w'.ownsRow base 3 1 v4 n4 (vals ys)) : OwnS w' base v1 v2 v3 v4 n1 n2 n3 n4 xs ms ts ys :=
  ⟨own_turned h.l hg h.lb, own_turned h.m hg h.mb, own_turned h.t hg h.tb, ho, h.lm, h.lt, h.lb, h.mt, h.mb, h.tb⟩
/-- The blocks of a state. -/
def blocksS (v1 v2 v3 v4 : Value) : List Nat := v1.ownBlock.toList ++ (v2.ownBlock.toList ++ (v3.ownBlock.toList ++ v4.ownBlock.toList))
theorem turnedL (h : w.grownBy w' v1.ownBlock) : Turned w w' (blocksS v1 v2 v3 v4) := (Turned.of h).wide (fun _ hb => List.mem_append_left _ hb)
theorem turnedM (h : w.grownBy w' v2.ownBlock) : Turned w w' (blocksS v1 v2 v3 v4) := (Turned.of h).wide (fun _ hb => List.mem_append_right _ (List.mem_append_left _ hb))
theorem turnedT (h : w.grownBy w' v3.ownBlock) : Turned w w' (blocksS v1 v2 v3 v4) := (Turned.of h).wide (fun _ hb => List.mem_append_right _ (List.mem_append_right _ (List.mem_append_left _ hb)))
theorem turnedB (h : w.grownBy w' v4.ownBlock) : Turned w w' (blocksS v1 v2 v3 v4) := (Turned.of h).wide (fun _ hb => List.mem_append_right _ (List.mem_append_right _ (List.mem_append_right _ hb)))
end
theorem box_turn {b : Nat} {t : TypeId} {vs : Array Value} {W W' : World} {row : Option Nat} (h : (boxG b t vs).P W) (hg : W.grownBy W' row) (hne : row ≠ some b) : (boxG b t vs).P W' :=
  (hg.block b (lt_of_block h) (fun e => hne e.symm)).trans h

set_option maxHeartbeats 4000000 in
theorem markState_is (R : Int) {base r : Nat} {a1 a2 a3 a4 : Option Addr} {n1 n2 n3 n4 c1 c2 c3 c4 : Nat} {xs : List C3} {ms ts bs : List Int} {w : World} (h1 : n1 ≤ 1048576) (h2 : n2 ≤ 1048576) (h3 : n3 ≤ 1048576) (h4 : n4 ≤ 1048576) (hr : r ≤ 549755813888)
    (ho : OwnS w base (.slice a1 n1 c1) (.slice a2 n2 c2) (.slice a3 n3 c3) (.slice a4 n4 c4) n1 n2 n3 n4 xs ms ts bs) :
    Calls Try.prog 27 #[.agg #[.int .i64 R, .slice a1 n1 c1, .slice a2 n2 c2, .slice a3 n3 c3, .slice a4 n4 c4], .int .i64 r] w fun e w' => e = .returned (.int .i64 (r + 3 * n1 + n2 + n3 + n4 : Nat))
      ∧ OwnS w' base (.slice a1 n1 c1) (.slice a2 n2 c2) (.slice a3 n3 c3) (.slice a4 n4 c4) n1 n2 n3 n4 (marksC r n1) (marksI (r + 3 * n1) n2) (marksI (r + 3 * n1 + n2) n3) (marksI (r + 3 * n1 + n2 + n3) n4) ∧ Turned w w' (blocksS (.slice a1 n1 c1) (.slice a2 n2 c2) (.slice a3 n3 c3) (.slice a4 n4 c4)) := by
  obtain ⟨s1, e1⟩ : ∃ s, s = r + 3 * n1 := ⟨_, rfl⟩
  obtain ⟨s2, e2⟩ : ∃ s, s = s1 + n2 := ⟨_, rfl⟩
  obtain ⟨s3, e3⟩ : ∃ s, s = s2 + n3 := ⟨_, rfl⟩
  obtain ⟨s4, e4⟩ : ∃ s, s = s3 + n4 := ⟨_, rfl⟩
  have E1 := Lib.hid e1; have E2 := Lib.hid e2; have E3 := Lib.hid e3; have E4 := Lib.hid e4
  have B1 := Lib.hid (show s1 ≤ 1099511627776 by omega); have B2 := Lib.hid (show s2 ≤ 1099511627776 by omega); have B3 := Lib.hid (show s3 ≤ 1099511627776 by omega)
  clear e1 e2 e3 e4
  have hb : ∀ v : Value, ∀ (t : TypeId) (s n : Nat) (ys : List Value), w.ownsRow base t s v n ys → v.ownBlock ≠ some w.heap.size := fun v t s n ys h e => by have := (h.lt _ e).2; omega
  have k1 := hb _ _ _ _ _ ho.l; have k2 := hb _ _ _ _ _ ho.m; have k3 := hb _ _ _ _ _ ho.t; have k4 := hb _ _ _ _ _ ho.b
  have hx := World.alloc_heap_new w (.cells #[.int .i64 R, .slice a1 n1 c1, .slice a2 n2 c2, .slice a3 n3 c3, .slice a4 n4 c4] 29)
  have HX : Hid ((boxG w.heap.size 29 #[.int .i64 R, .slice a1 n1 c1, .slice a2 n2 c2, .slice a3 n3 c3, .slice a4 n4 c4]).P (w.alloc (.cells #[.int .i64 R, .slice a1 n1 c1, .slice a2 n2 c2, .slice a3 n3 c3, .slice a4 n4 c4] 29))) := Lib.hid hx
  have HO := Lib.hid (ho.on (World.grownBy_alloc w (.cells #[.int .i64 R, .slice a1 n1 c1, .slice a2 n2 c2, .slice a3 n3 c3, .slice a4 n4 c4] 29) none))
  have HT : Hid (Turned w (w.alloc (.cells #[.int .i64 R, .slice a1 n1 c1, .slice a2 n2 c2, .slice a3 n3 c3, .slice a4 n4 c4] 29)) (blocksS (.slice a1 n1 c1) (.slice a2 n2 c2) (.slice a3 n3 c3) (.slice a4 n4 c4))) := Lib.hid (Turned.none (World.grownBy_alloc w _ none))
  have K1 := Lib.hid k1; have K2 := Lib.hid k2; have K3 := Lib.hid k3; have K4 := Lib.hid k4
  have H1 := Lib.hid h1; have H2 := Lib.hid h2; have H3 := Lib.hid h3; have H4 := Lib.hid h4; have HR := Lib.hid hr
  clear h1 h2 h3 h4 hr hb k1 k2 k3 k4 ho hx
  go_enter Try.func27, Try.ntmps27
  go_upto_region 1 with fail
  generalize w.alloc (.cells #[.int .i64 R, .slice a1 n1 c1, .slice a2 n2 c2, .slice a3 n3 c3, .slice a4 n4 c4] 29) = W0 at *
  obtain ⟨p0, p1, -⟩ := box5 HX.out
  go_upto_region 2 with (go_at_call 55; ((with_reducible refine (markM_is R (r := r) H1.out (by have := HR.out; omega) HO.out.l).mono ?_); rw [← E1.out]; rintro e w1 ⟨rfl, ho, hg⟩; have HO1 := Lib.hid (HO.out.markL hg ho); have HX1 := Lib.hid (box_turn HX.out hg K1.out); have HT1 := Lib.hid (HT.out.trans (turnedL hg)); clear ho hg))
  clear p0 p1 HO HX HT
  obtain ⟨-, -, p2, -⟩ := box5 HX1.out
  go_upto_region 3 with (go_at_call 28; ((with_reducible refine (markI_is (r := s1) H2.out B1.out HO1.out.m).mono ?_); rw [← E2.out]; rintro e w2 ⟨rfl, ho, hg⟩; have HO2 := Lib.hid (HO1.out.markM hg ho); have HX2 := Lib.hid (box_turn HX1.out hg K2.out); have HT2 := Lib.hid (HT1.out.trans (turnedM hg)); clear ho hg))
  clear p2 HO1 HX1 HT1
  obtain ⟨-, -, -, p3, -⟩ := box5 HX2.out
  go_upto_region 4 with (go_at_call 28; ((with_reducible refine (markI_is (r := s2) H3.out B2.out HO2.out.t).mono ?_); rw [← E3.out]; rintro e w3 ⟨rfl, ho, hg⟩; have HO3 := Lib.hid (HO2.out.markT hg ho); have HX3 := Lib.hid (box_turn HX2.out hg K3.out); have HT3 := Lib.hid (HT2.out.trans (turnedT hg)); clear ho hg))
  clear p3 HO2 HX2 HT2
  obtain ⟨-, -, -, -, p4⟩ := box5 HX3.out
  go_wp2_with (go_at_call 28; ((with_reducible refine (markI_is (r := s3) H4.out B3.out HO3.out.b).mono ?_); rw [← E4.out]; rintro e w4 ⟨rfl, ho, hg⟩; have HO4 := Lib.hid (HO3.out.markB hg ho); have HT4 := Lib.hid (HT3.out.trans (turnedB hg)); clear ho hg))
  go_ret
  have e1 := E1.out; have e2 := E2.out; have e3 := E3.out; have e4 := E4.out
  subst e1; subst e2; subst e3; subst e4
  exact ⟨rfl, HO4.out, HT4.out⟩

theorem markState1 (R : Int) {base : Nat} {a1 a2 a3 a4 : Option Addr} {n1 n2 n3 n4 c1 c2 c3 c4 : Nat} {xs : List C3} {ms ts bs : List Int} {w : World} (h1 : n1 ≤ 1048576) (h2 : n2 ≤ 1048576) (h3 : n3 ≤ 1048576) (h4 : n4 ≤ 1048576)
    (ho : OwnS w base (.slice a1 n1 c1) (.slice a2 n2 c2) (.slice a3 n3 c3) (.slice a4 n4 c4) n1 n2 n3 n4 xs ms ts bs) :
    Calls Try.prog 27 #[.agg #[.int .i64 R, .slice a1 n1 c1, .slice a2 n2 c2, .slice a3 n3 c3, .slice a4 n4 c4], .int .i64 1] w fun e w' => e = .returned (.int .i64 (1 + 3 * n1 + n2 + n3 + n4 : Nat))
      ∧ OwnS w' base (.slice a1 n1 c1) (.slice a2 n2 c2) (.slice a3 n3 c3) (.slice a4 n4 c4) n1 n2 n3 n4 (marksC 1 n1) (marksI (1 + 3 * n1) n2) (marksI (1 + 3 * n1 + n2) n3) (marksI (1 + 3 * n1 + n2 + n3) n4) ∧ Turned w w' (blocksS (.slice a1 n1 c1) (.slice a2 n2 c2) (.slice a3 n3 c3) (.slice a4 n4 c4)) := markState_is R (r := 1) h1 h2 h3 h4 (by omega) ho
end Go.Proofs.Ytaccigmkddomaaa.State
