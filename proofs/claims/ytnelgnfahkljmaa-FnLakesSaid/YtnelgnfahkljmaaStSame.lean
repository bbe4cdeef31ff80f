/- States: SameState of the reference model at two states that are one, as a contract.
   Conditions: at most 2^20 leaves and numbers. -/
import Derived.Test.YtnelgnfahkljmaaStTrPure
import Derived.Test.YtnelgnfahkljmaaSt
import Derived.Test.YtnelgnfahkljmaaMBalAll
set_option maxRecDepth 100000
namespace Go.Proofs.Ytnelgnfahkljmaa.State
open Go.ChangeShapes Go.WideShapes Go.ChangeAt Go.RowKit Go.Joins Go.Proofs.Ytnelgnfahkljmaa.Cell Go.Proofs.Ytnelgnfahkljmaa.Mesh Go.Proofs.Ytnelgnfahkljmaa.Law Go.Proofs.Ytnelgnfahkljmaa.Ints Go.Deep

set_option maxHeartbeats 2000000 in
theorem sameI_is (a b : Option Addr) (n c1 c2 : Nat) (xs : List Int) (w : World) (hx : ReadsI w a n xs) (hy : ReadsI w b n xs) (hn : n ≤ 1048576) :
    Calls Try.prog 48 #[.slice a n c1, .slice b n c2] w fun e w' => e = .returned (.bool true) ∧ w.grownBy w' none := by
  have hni : (n : Int) ≤ 1048576 := by omega
  clear hn
  have HA := Lib.hid hx; clear hx
  have HB := Lib.hid hy; clear hy
  go_enter Try.func48, Try.ntmps48
  go_wp2_with fail
  go_loopw [5] (fun i wr => ∃ k : Nat, (k : Int) ≤ n ∧ i = .int .i64 k ∧ Hid (w.grownBy wr none)) (fun i _ => n - (intOf i).toNat)
  case atStart => exact ⟨0, by omega, rfl, Lib.hid (grown_refl w)⟩
  case round =>
    obtain ⟨k, hk, rfl, HG⟩ := hrel
    by_cases hlt : (k : Int) < n
    · obtain ⟨x, hx⟩ := getI HA.out.len (k := k) (by omega)
      obtain ⟨g1, o1, rfl, d0⟩ := (HA.out.on HG.out).at_ k _ hx
      obtain ⟨g2, o2, rfl, f0⟩ := (HB.out.on HG.out).at_ k _ hx
      clear hx
      go_wp2_with fail
      go_quiet (fail)
      go_wp2_with fail
      go_roundw
      case rel => exact ⟨k + 1, by omega, by go_num, Lib.hid (g_drewN HG.out _)⟩
      case measure => simp [intOf]; omega
    · go_wp2_with fail
      go_ret
      exact ⟨rfl, HG.out⟩

theorem sameSt_is (R : Int) (a1 a2 a3 a4 b1 b2 b3 b4 : Option Addr) (n1 n2 n3 n4 c1 c2 c3 c4 d1 d2 d3 d4 : Nat) (xs : List C3) (ms ts bs : List Int) (w : World) (hx : ReadsS w a1 a2 a3 a4 n1 n2 n3 n4 xs ms ts bs) (hy : ReadsS w b1 b2 b3 b4 n1 n2 n3 n4 xs ms ts bs)
    (h1 : n1 ≤ 1048576) (h2 : n2 ≤ 1048576) (h3 : n3 ≤ 1048576) (h4 : n4 ≤ 1048576) :
    Calls Try.prog 17 #[.agg #[.int .i64 R, .slice a1 n1 c1, .slice a2 n2 c2, .slice a3 n3 c3, .slice a4 n4 c4], .agg #[.int .i64 R, .slice b1 n1 d1, .slice b2 n2 d2, .slice b3 n3 d3, .slice b4 n4 d4]] w fun e w' => e = .returned (.bool true) ∧ w.grownBy w' none := by
  have he := ((Held.nil w).box 31 #[.int .i64 R, .slice a1 n1 c1, .slice a2 n2 c2, .slice a3 n3 c3, .slice a4 n4 c4]).box 31 #[.int .i64 R, .slice b1 n1 d1, .slice b2 n2 d2, .slice b3 n3 d3, .slice b4 n4 d4]
  simp only [World.size_alloc] at he
  have HE := Lib.hid he; have HX := Lib.hid hx; have HY := Lib.hid hy
  have H1 := Lib.hid h1; have H2 := Lib.hid h2; have H3 := Lib.hid h3; have H4 := Lib.hid h4
  clear he hx hy h1 h2 h3 h4
  go_enter Try.func17, Try.ntmps17
  go_upto_region 1 with fail
  generalize (w.alloc (.cells #[.int .i64 R, .slice a1 n1 c1, .slice a2 n2 c2, .slice a3 n3 c3, .slice a4 n4 c4] 31)).alloc (.cells #[.int .i64 R, .slice b1 n1 d1, .slice b2 n2 d2, .slice b3 n3 d3, .slice b4 n4 d4] 31) = W0 at *
  obtain ⟨p0, p1, p2, p3, p4⟩ := box5 (HE.out.nth 0 rfl)
  obtain ⟨q0, q1, q2, q3, q4⟩ := box5 (HE.out.nth 1 rfl)
  go_wp2_with (first
    | (go_at_call 47; ((with_reducible refine (same_is R a1 b1 n1 c1 d1 xs _ (HX.out.on HE.out.gr).l (HY.out.on HE.out.gr).l H1.out).mono ?_); rintro e w1 ⟨rfl, hg⟩; have HE1 := Lib.hid (HE.out.on hg); obtain ⟨r0, r1, r2, r3, r4⟩ := box5 (HE1.out.nth 0 rfl); obtain ⟨s0, s1, s2, s3, s4⟩ := box5 (HE1.out.nth 1 rfl); clear hg))
    | (go_at_call 48; ((with_reducible refine (sameI_is a2 b2 n2 c2 d2 ms _ (HX.out.on HE1.out.gr).m (HY.out.on HE1.out.gr).m H2.out).mono ?_); rintro e w2 ⟨rfl, hg⟩; have HE2 := Lib.hid (HE1.out.on hg); obtain ⟨t0, t1, t2, t3, t4⟩ := box5 (HE2.out.nth 0 rfl); obtain ⟨u0, u1, u2, u3, u4⟩ := box5 (HE2.out.nth 1 rfl); clear hg))
    | (go_at_call 48; ((with_reducible refine (sameI_is a3 b3 n3 c3 d3 ts _ (HX.out.on HE2.out.gr).t (HY.out.on HE2.out.gr).t H3.out).mono ?_); rintro e w3 ⟨rfl, hg⟩; have HE3 := Lib.hid (HE2.out.on hg); obtain ⟨x0, x1, x2, x3, x4⟩ := box5 (HE3.out.nth 0 rfl); obtain ⟨y0, y1, y2, y3, y4⟩ := box5 (HE3.out.nth 1 rfl); clear hg))
    | (go_at_call 48; ((with_reducible refine (sameI_is a4 b4 n4 c4 d4 bs _ (HX.out.on HE3.out.gr).b (HY.out.on HE3.out.gr).b H4.out).mono ?_); rintro e w4 ⟨rfl, hg⟩; have HE4 := Lib.hid (HE3.out.on hg); clear hg)))
  go_ret
  exact ⟨rfl, HE4.out.gr⟩
end Go.Proofs.Ytnelgnfahkljmaa.State
