/- States at rest: what the laws of chapter 12 want besides: sameInts at equal lists, SameState at states with the same leaves and beds, the lake that DrawLake draws as one group.
   Conditions: at most 2^20 numbers. -/
import Derived.Test.YtnelgnfahkljmaaStRestP
import Derived.Test.YtnelgnfahkljmaaStSame
import Derived.Test.YtnelgnfahkljmaaDrawHeld
import Derived.Test.YtnelgnfahkljmaaStFillS
set_option maxRecDepth 100000
namespace Go.Proofs.Ytnelgnfahkljmaa.State
open Go.ChangeShapes Go.WideShapes Go.ChangeAt Go.RowKit Go.Joins Go.Proofs.Ytnelgnfahkljmaa.Cell Go.Proofs.Ytnelgnfahkljmaa.Mesh Go.Proofs.Ytnelgnfahkljmaa.Law Go.Proofs.Ytnelgnfahkljmaa.Ints Go.Deep

/-- Leaves and beds. -/
def lakeG (v1 v4 : Value) (n1 n2 : Nat) (xs : List C3) (bs : List Int) : Grp :=
  ⟨fun W => W.ownsRow 0 63 3 v1 n1 (flatC xs) ∧ W.ownsRow 0 3 1 v4 n2 (vals bs), v1.ownBlock.toList ++ v4.ownBlock.toList, fun W W' h hp =>
    ⟨(rowG _ _ v1 _ _).loc W W' (fun b hb => h b (List.mem_append_left _ hb)) hp.1, (rowG _ _ v4 _ _).loc W W' (fun b hb => h b (List.mem_append_right _ hb)) hp.2⟩⟩
theorem Held.lake {w W W' : World} {gs : List Grp} {v1 v4 : Value} {n1 n2 : Nat} {xs : List C3} {bs : List Int} (h : Held w W gs) (hg : W.grownBy W' none) (h1 : W'.ownsRow W.heap.size 63 3 v1 n1 (flatC xs)) (h4 : W'.ownsRow W.heap.size 3 1 v4 n2 (vals bs)) : Held w W' (gs ++ [lakeG v1 v4 n1 n2 xs bs]) :=
  h.add hg ⟨own_zero h1, own_zero h4⟩ (fun b hb => by
    rcases List.mem_append.1 hb with hb | hb
    · exact h1.lt b (by simpa using hb)
    · exact h4.lt b (by simpa using hb))
theorem Held.few {w W : World} {gs gs' : List Grp} (h : Held w W gs) (hs : gs'.Sublist gs) : Held w W gs' :=
  ⟨fun g hg => h.p g (hs.subset hg), fun g hg => h.lo g (hs.subset hg), h.dis.sublist hs, h.gr⟩
theorem lake_fills {R h : Int} {xs : List C3} {bs : List Int} (hm : meshOk R xs = true) (hg : firstGap xs < 0) (hl : (bs.length : Int) = R) (hb : ∀ b ∈ bs, 0 ≤ b ∧ b ≤ 8999) (hh0 : 0 ≤ h) (hh1 : h ≤ 11999) : fillB R xs bs h = true := by
  unfold fillB balanced
  rw [hm, decide_eq_true hg, decide_eq_true hl, decide_eq_true ⟨hh0, by omega⟩, lake_ok hm hg hl hb hh0 hh1]
  rfl

set_option maxHeartbeats 2000000 in
theorem sameInts_is (a b : Option Addr) (n c1 c2 : Nat) (xs : List Int) (w : World) (hx : ReadsI w a n xs) (hy : ReadsI w b n xs) (hn : n ≤ 1048576) :
    Calls Try.prog 15 #[.slice a n c1, .slice b n c2] w fun e w' => e = .returned (.bool true) ∧ w.grownBy w' none := by
  have hni : (n : Int) ≤ 1048576 := by omega
  clear hn
  have HA := Lib.hid hx; clear hx
  have HB := Lib.hid hy; clear hy
  go_enter Try.func15, Try.ntmps15
  go_wp2_with fail
  go_loopw [5] (fun i wr => ∃ k : Nat, (k : Int) ≤ n ∧ i = .int .i64 k ∧ Hid (w.grownBy wr none)) (fun i _ => n - (intOf i).toNat)
  case atStart => exact ⟨0, by omega, rfl, Lib.hid (grown_refl w)⟩
  case round =>
    obtain ⟨k, hk, rfl, HG⟩ := hrel
    by_cases hlt : (k : Int) < n
    · obtain ⟨x, hx⟩ := getI HA.out.len (k := k) (by omega)
      obtain ⟨g1, o1, rfl, d0⟩ := (HA.out.on HG.out).at_ k _ hx
      obtain ⟨g2, o2, rfl, f0⟩ := (HB.out.on HG.out).at_ k _ hx
      clear hx
      go_wp2_with fail
      go_quiet (fail)
      go_wp2_with fail
      go_roundw
      case rel => exact ⟨k + 1, by omega, by go_num, Lib.hid (g_drewN HG.out _)⟩
      case measure => simp [intOf]; omega
    · go_wp2_with fail
      go_ret
      exact ⟨rfl, HG.out⟩

set_option maxHeartbeats 4000000 in
theorem sameI_no (a b : Option Addr) (n c1 c2 : Nat) (xs ys : List Int) (w : World) (hx : ReadsI w a n xs) (hy : ReadsI w b n ys) (hn : n ≤ 1048576) (hne : xs ≠ ys) :
    Calls Try.prog 48 #[.slice a n c1, .slice b n c2] w fun e w' => e = .returned (.bool false) ∧ w.grownBy w' none := by
  have hni : (n : Int) ≤ 1048576 := by omega
  clear hn
  have HA := Lib.hid hx; clear hx
  have HB := Lib.hid hy; clear hy
  have HN := Lib.hid hne; clear hne
  go_enter Try.func48, Try.ntmps48
  go_wp2_with fail
  go_loopw [5] (fun i wr => ∃ k : Nat, (k : Int) ≤ n ∧ i = .int .i64 k ∧ Hid (∀ j, j < k → xs[j]? = ys[j]?) ∧ Hid (w.grownBy wr none)) (fun i _ => n - (intOf i).toNat)
  case atStart => exact ⟨0, by omega, rfl, Lib.hid (fun j hj => by omega), Lib.hid (grown_refl w)⟩
  case round =>
    obtain ⟨k, hk, rfl, HS, HG⟩ := hrel
    by_cases hlt : (k : Int) < n
    · obtain ⟨x, hx⟩ := getI HA.out.len (k := k) (by omega)
      obtain ⟨y, hy⟩ := getI HB.out.len (k := k) (by omega)
      obtain ⟨g1, o1, rfl, d0⟩ := (HA.out.on HG.out).at_ k _ hx
      obtain ⟨g2, o2, rfl, f0⟩ := (HB.out.on HG.out).at_ k _ hy
      by_cases he : x = y
      · subst he
        have HT := Lib.hid (show ∀ j, j < k + 1 → xs[j]? = ys[j]? from fun j hj => by
          by_cases e : j = k
          · rw [e, hx, hy]
          · exact HS.out j (by omega))
        clear hx hy HS
        go_wp2_with fail
        go_quiet (fail)
        go_wp2_with fail
        go_roundw
        case rel => exact ⟨k + 1, by omega, by go_num, HT, Lib.hid (g_drewN HG.out _)⟩
        case measure => simp [intOf]; omega
      · clear hx hy HS
        go_wp2_with fail
        go_quiet (fail)
        go_wp2_with fail
        go_ret
        exact ⟨rfl, g_drewN HG.out _⟩
    · exact absurd (List.ext_getElem? fun j => by
        by_cases hj : j < k
        · exact HS.out j hj
        · rw [List.getElem?_eq_none (by rw [HA.out.len]; omega), List.getElem?_eq_none (by rw [HB.out.len]; omega)]) HN.out

/-- SameState at two states with the same leaves and beds: it answers, and true if they are one. -/
theorem sameSt_any (R : Int) (a1 a2 a3 a4 b1 b2 b3 b4 : Option Addr) (n1 n4 c1 c2 c3 c4 d1 d2 d3 d4 : Nat) (xs : List C3) (ms ts ms' ts' bs : List Int) (w : World) (hx : ReadsS w a1 a2 a3 a4 n1 n1 n1 n4 xs ms ts bs) (hy : ReadsS w b1 b2 b3 b4 n1 n1 n1 n4 xs ms' ts' bs)
    (h1 : n1 ≤ 1048576) (h4 : n4 ≤ 1048576) :
    Calls Try.prog 17 #[.agg #[.int .i64 R, .slice a1 n1 c1, .slice a2 n1 c2, .slice a3 n1 c3, .slice a4 n4 c4], .agg #[.int .i64 R, .slice b1 n1 d1, .slice b2 n1 d2, .slice b3 n1 d3, .slice b4 n4 d4]] w fun e w' => ∃ b : Bool, e = .returned (.bool b) ∧ (ms = ms' → ts = ts' → b = true) ∧ w.grownBy w' none := by
  by_cases hm : ms = ms'
  · by_cases ht : ts = ts'
    · subst hm; subst ht
      exact (sameSt_is R a1 a2 a3 a4 b1 b2 b3 b4 n1 n1 n1 n4 c1 c2 c3 c4 d1 d2 d3 d4 xs ms ts bs w hx hy h1 h1 h1 h4).mono fun _ _ ⟨he, hg⟩ => ⟨true, he, fun _ _ => rfl, hg⟩
    · subst hm
      refine Calls.mono (R := fun e w' => e = .returned (.bool false) ∧ w.grownBy w' none) ?_ fun _ _ ⟨he, hg⟩ => ⟨false, he, fun _ q => absurd q ht, hg⟩
      have he := ((Held.nil w).box 31 #[.int .i64 R, .slice a1 n1 c1, .slice a2 n1 c2, .slice a3 n1 c3, .slice a4 n4 c4]).box 31 #[.int .i64 R, .slice b1 n1 d1, .slice b2 n1 d2, .slice b3 n1 d3, .slice b4 n4 d4]
      simp only [World.size_alloc] at he
      have HE := Lib.hid he; have HX := Lib.hid hx; have HY := Lib.hid hy
      have HNE := Lib.hid ht; have H1 := Lib.hid h1; have H4 := Lib.hid h4
      clear he hx hy h1 h4 ht
      go_enter Try.func17, Try.ntmps17
      go_upto_region 1 with fail
      generalize (w.alloc (.cells #[.int .i64 R, .slice a1 n1 c1, .slice a2 n1 c2, .slice a3 n1 c3, .slice a4 n4 c4] 31)).alloc (.cells #[.int .i64 R, .slice b1 n1 d1, .slice b2 n1 d2, .slice b3 n1 d3, .slice b4 n4 d4] 31) = W0 at *
      obtain ⟨p0, p1, p2, p3, p4⟩ := box5 (HE.out.nth 0 rfl)
      obtain ⟨q0, q1, q2, q3, q4⟩ := box5 (HE.out.nth 1 rfl)
      go_wp2_with (first
        | (go_at_call 47; ((with_reducible refine (same_is R a1 b1 n1 c1 d1 xs _ (HX.out.on HE.out.gr).l (HY.out.on HE.out.gr).l H1.out).mono ?_); rintro e w1 ⟨rfl, hg⟩; have HE1 := Lib.hid (HE.out.on hg); obtain ⟨r0, r1, r2, r3, r4⟩ := box5 (HE1.out.nth 0 rfl); obtain ⟨s0, s1, s2, s3, s4⟩ := box5 (HE1.out.nth 1 rfl); clear hg))
        | (go_at_call 48; ((with_reducible refine (sameI_is a2 b2 n1 c2 d2 ms _ (HX.out.on HE1.out.gr).m (HY.out.on HE1.out.gr).m H1.out).mono ?_); rintro e w2 ⟨rfl, hg⟩; have HE2 := Lib.hid (HE1.out.on hg); obtain ⟨t0, t1, t2, t3, t4⟩ := box5 (HE2.out.nth 0 rfl); obtain ⟨u0, u1, u2, u3, u4⟩ := box5 (HE2.out.nth 1 rfl); clear hg))
        | (go_at_call 48; ((with_reducible refine (sameI_no a3 b3 n1 c3 d3 ts ts' _ (HX.out.on HE2.out.gr).t (HY.out.on HE2.out.gr).t H1.out HNE.out).mono ?_); rintro e w3 ⟨rfl, hg⟩; have HE3 := Lib.hid (HE2.out.on hg); clear hg)))
      go_ret
      exact ⟨rfl, HE3.out.gr⟩
  · refine Calls.mono (R := fun e w' => e = .returned (.bool false) ∧ w.grownBy w' none) ?_ fun _ _ ⟨he, hg⟩ => ⟨false, he, fun q => absurd q hm, hg⟩
    have he := ((Held.nil w).box 31 #[.int .i64 R, .slice a1 n1 c1, .slice a2 n1 c2, .slice a3 n1 c3, .slice a4 n4 c4]).box 31 #[.int .i64 R, .slice b1 n1 d1, .slice b2 n1 d2, .slice b3 n1 d3, .slice b4 n4 d4]
    simp only [World.size_alloc] at he
    have HE := Lib.hid he; have HX := Lib.hid hx; have HY := Lib.hid hy
    have HNE := Lib.hid hm; have H1 := Lib.hid h1; have H4 := Lib.hid h4
    clear he hx hy h1 h4 hm
    go_enter Try.func17, Try.ntmps17
    go_upto_region 1 with fail
    generalize (w.alloc (.cells #[.int .i64 R, .slice a1 n1 c1, .slice a2 n1 c2, .slice a3 n1 c3, .slice a4 n4 c4] 31)).alloc (.cells #[.int .i64 R, .slice b1 n1 d1, .slice b2 n1 d2, .slice b3 n1 d3, .slice b4 n4 d4] 31) = W0 at *
    obtain ⟨p0, p1, p2, p3, p4⟩ := box5 (HE.out.nth 0 rfl)
    obtain ⟨q0, q1, q2, q3, q4⟩ := box5 (HE.out.nth 1 rfl)
    go_wp2_with (first
      | (go_at_call 47; ((with_reducible refine (same_is R a1 b1 n1 c1 d1 xs _ (HX.out.on HE.out.gr).l (HY.out.on HE.out.gr).l H1.out).mono ?_); rintro e w1 ⟨rfl, hg⟩; have HE1 := Lib.hid (HE.out.on hg); obtain ⟨r0, r1, r2, r3, r4⟩ := box5 (HE1.out.nth 0 rfl); obtain ⟨s0, s1, s2, s3, s4⟩ := box5 (HE1.out.nth 1 rfl); clear hg))
      | (go_at_call 48; ((with_reducible refine (sameI_no a2 b2 n1 c2 d2 ms ms' _ (HX.out.on HE1.out.gr).m (HY.out.on HE1.out.gr).m H1.out HNE.out).mono ?_); rintro e w2 ⟨rfl, hg⟩; have HE2 := Lib.hid (HE1.out.on hg); clear hg)))
    go_ret
    exact ⟨rfl, HE2.out.gr⟩
end Go.Proofs.Ytnelgnfahkljmaa.State
