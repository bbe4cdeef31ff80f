/- Borders and ledgers: the program's booked state: openBooks, hasRoomFor, take, give; ApplyBorder, as contracts: what each answers, in memory of the call's own; nothing that was there is written.
   Conditions: at most 2^20 leaves and numbers. -/
import Derived.Test.YtmbmeajneankpaaStLedK
import Derived.Test.YtmbmeajneankpaaStShare
import Derived.Deep.RegionHeld3
import Derived.Deep.RegionWith
set_option maxRecDepth 100000
namespace Go.Proofs.Ytmbmeajneankpaa.State
open Go.ChangeShapes Go.WideShapes Go.ChangeAt Go.RowKit Go.Joins Go.Proofs.Ytmbmeajneankpaa.Cell Go.Proofs.Ytmbmeajneankpaa.Mesh Go.Proofs.Ytmbmeajneankpaa.Law Go.Proofs.Ytmbmeajneankpaa.Ints Go.Proofs.Ytmbmeajneankpaa.Draws Go.Deep

set_option maxHeartbeats 4000000 in
/-- A state's copy, with a ledger of nothing. -/
theorem openBooks_is (R : Int) (a1 a2 a3 a4 : Option Addr) (n1 n2 n3 n4 c1 c2 c3 c4 : Nat) (xs : List C3) (ms ts bs : List Int) (w : World) (h : ReadsS w a1 a2 a3 a4 n1 n2 n3 n4 xs ms ts bs) (h1 : n1 ≤ 1048576) (h2 : n2 ≤ 1048576) (h3 : n3 ≤ 1048576) (h4 : n4 ≤ 1048576) :
    Calls Try.prog 32 #[.agg #[.int .i64 R, .slice a1 n1 c1, .slice a2 n2 c2, .slice a3 n3 c3, .slice a4 n4 c4]] w fun e w' => ∃ (B : Nat) (q1 : Option Addr) (d1 : Nat) (q2 : Option Addr) (d2 : Nat) (q3 : Option Addr) (d3 : Nat) (q4 : Option Addr) (d4 : Nat), e = .returned (.pointer (some ⟨B, 0, none⟩)) ∧ Held w w' [stateG (.slice q1 n1 d1) (.slice q2 n2 d2) (.slice q3 n3 d3) (.slice q4 n4 d4) n1 n2 n3 n4 xs ms ts bs, boxG B 63 #[.int .i64 R, .slice q1 n1 d1, .slice q2 n2 d2, .slice q3 n3 d3, .slice q4 n4 d4, .int .i64 0, .int .i64 0, .int .i64 0, .int .i64 0]] := by
  have HCP := Lib.hid (show ∀ u, w.grownBy u none → Calls Try.prog 31 #[.agg #[.int .i64 R, .slice a1 n1 c1, .slice a2 n2 c2, .slice a3 n3 c3, .slice a4 n4 c4]] u (GivesS R n1 n2 n3 n4 xs ms ts bs u) from fun u hu => stClone_is R a1 a2 a3 a4 n1 n2 n3 n4 c1 c2 c3 c4 xs ms ts bs u (h.on hu) h1 h2 h3 h4)
  have HE := Lib.hid ((Held.nil w).box 29 #[.int .i64 R, .slice a1 n1 c1, .slice a2 n2 c2, .slice a3 n3 c3, .slice a4 n4 c4])
  clear h h1 h2 h3 h4
  go_enter Try.func32, Try.ntmps32
  go_upto_region 1 with fail
  generalize w.alloc (.cells #[.int .i64 R, .slice a1 n1 c1, .slice a2 n2 c2, .slice a3 n3 c3, .slice a4 n4 c4] 29) = W0 at *
  obtain ⟨p0, p1, p2, p3, p4⟩ := box5 (HE.out.nth 0 rfl)
  go_wp2_with (go_at_call 31; ((with_reducible refine (HCP.out _ HE.out.gr).mono ?_); rintro e w2 ⟨q1, d1, q2, d2, q3, d3, q4, d4, rfl, ho, hg⟩; have HE2 := Lib.hid (State.Held.state HE.out hg ho); clear ho hg))
  have HE3 := Lib.hid (HE2.out.box 63 #[.int .i64 R, .slice q1 n1 d1, .slice q2 n2 d2, .slice q3 n3 d3, .slice q4 n4 d4, .int .i64 0, .int .i64 0, .int .i64 0, .int .i64 0])
  go_ret
  exact ⟨_, q1, d1, q2, d2, q3, d3, q4, d4, rfl, HE3.out.only (.cons _ (.refl _))⟩

set_option maxHeartbeats 4000000 in
/-- Whether the sum of the masses leaves room. -/
theorem hasRoom_is {w0 u0 : World} {gs : List Grp} (R : Int) (a1 a4 : Option Addr) (k2 k3 n1 n2 n3 n4 c1 c2 c3 c4 Ab kb k : Nat) (xs : List C3) (ms ts bs : List Int) (m l0 l1 l2 l3 : Int)
    (h : Held w0 u0 gs) (hkb : gs[kb]? = some (boxG Ab 63 #[.int .i64 R, .slice a1 n1 c1, .slice (some ⟨k2, 0, none⟩) n2 c2, .slice (some ⟨k3, 0, none⟩) n3 c3, .slice a4 n4 c4, .int .i64 l0, .int .i64 l1, .int .i64 l2, .int .i64 l3]))
    (hk : gs[k]? = some (stateG (.slice a1 n1 c1) (.slice (some ⟨k2, 0, none⟩) n2 c2) (.slice (some ⟨k3, 0, none⟩) n3 c3) (.slice a4 n4 c4) n1 n2 n3 n4 xs ms ts bs)) (h2 : n2 ≤ 1048576) (hb : ∀ x ∈ ms, 0 ≤ x ∧ x ≤ 10000000) (hm : 0 ≤ m ∧ m ≤ 10000000000) :
    Calls Try.prog 34 #[.pointer (some ⟨Ab, 0, none⟩), .int .i64 m] u0 fun e u' => e = .returned (.bool (decide (ms.sum + m ≤ 10000000))) ∧ u0.grownBy u' none := by
  have HS := Lib.hid (show Calls Try.prog 35 #[.slice (some ⟨k2, 0, none⟩) n2 c2] u0 fun e w' => e = .returned (.int .i64 ms.sum) ∧ u0.grownBy w' none from sumOf_is _ n2 c2 ms u0 (OwnS.reads (h.nth k hk)).m h2 (fun x hx => by have := hb x hx; omega))
  have hs := sum_bounds hb
  have hl : ms.length = n2 := (OwnS.reads (h.nth k hk)).m.len
  have hc : (n2 : Int) * 10000000 ≤ 1048576 * 10000000 := Int.mul_le_mul_of_nonneg_right (by omega) (by decide)
  rw [hl] at hs
  obtain ⟨X, hX⟩ : ∃ X, ms.sum = X := ⟨_, rfl⟩
  rw [hX] at hs HS ⊢
  have e1 : IntKind.i64.wrap (X + m) = X + m := IntWalk.i64_in _ (by omega)
  obtain ⟨⟨p0, p1, p2, p3, p4⟩, -⟩ := cells9 (h.nth kb hkb)
  clear h hkb hk h2 hb hm hs hl hc hX
  go_enter Try.func34, Try.ntmps34
  go_wp2_with (go_at_call 35; ((with_reducible refine HS.out.mono ?_); rintro e w2 ⟨rfl, hg⟩; have HG := Lib.hid hg; clear hg))
  go_ret
  exact ⟨rfl, HG.out⟩

theorem set_at {gs : List Grp} {k : Nat} {g g' : Grp} (h : gs[k]? = some g) : (gs.set k g')[k]? = some g' := List.getElem?_set_self (List.getElem?_eq_some_iff.1 h).1

set_option maxHeartbeats 8000000 in
/-- What leaves a leaf is booked. -/
theorem take_is {w0 u0 : World} {gs : List Grp} (R : Int) (a1 a4 : Option Addr) (k2 k3 n1 n2 n3 n4 c1 c2 c3 c4 Ab kb k i : Nat) (xs : List C3) (ms ts bs : List Int) (m T x y l0 l1 l2 l3 : Int)
    (h : Held w0 u0 gs) (hkb : gs[kb]? = some (boxG Ab 63 #[.int .i64 R, .slice a1 n1 c1, .slice (some ⟨k2, 0, none⟩) n2 c2, .slice (some ⟨k3, 0, none⟩) n3 c3, .slice a4 n4 c4, .int .i64 l0, .int .i64 l1, .int .i64 l2, .int .i64 l3]))
    (hk : gs[k]? = some (stateG (.slice a1 n1 c1) (.slice (some ⟨k2, 0, none⟩) n2 c2) (.slice (some ⟨k3, 0, none⟩) n3 c3) (.slice a4 n4 c4) n1 n2 n3 n4 xs ms ts bs)) (hne : kb ≠ k) (hi : ms[i]? = some x) (hi' : ts[i]? = some y) (hT : shareOf y m x = T)
    (bm : 0 ≤ m ∧ m ≤ 10000000) (bT : 0 ≤ T ∧ T ≤ 10000000000) (bx : 0 ≤ x ∧ x ≤ 10000000) (by_ : 0 ≤ y ∧ y ≤ 10000000000) (b1 : -1000000000000 ≤ l1 ∧ l1 ≤ 1000000000000) (b3 : -1000000000000 ≤ l3 ∧ l3 ≤ 1000000000000) :
    Calls Try.prog 37 #[.pointer (some ⟨Ab, 0, none⟩), .int .i64 (i : Int), .int .i64 m] u0 fun e u' => e = .returned (.tuple #[]) ∧
      Held w0 u' ((gs.set k (stateG (.slice a1 n1 c1) (.slice (some ⟨k2, 0, none⟩) n2 c2) (.slice (some ⟨k3, 0, none⟩) n3 c3) (.slice a4 n4 c4) n1 n2 n3 n4 xs (ms.set i (x + -m)) (ts.set i (y + -T)) bs)).set kb (boxG Ab 63 #[.int .i64 R, .slice a1 n1 c1, .slice (some ⟨k2, 0, none⟩) n2 c2, .slice (some ⟨k3, 0, none⟩) n3 c3, .slice a4 n4 c4, .int .i64 l0, .int .i64 (l1 + m), .int .i64 l2, .int .i64 (l3 + T)])) := by
  have ho := h.nth k hk
  have hl2 : ms.length = n2 := by have := (OwnS.m ho).1; rw [vals_len] at this; omega
  have hl3 : ts.length = n3 := by have := (OwnS.t ho).1; rw [vals_len] at this; omega
  have HNE := Lib.hid (show k2 ≠ k3 from fun e => (OwnS.mt ho) k2 rfl (by rw [e]; rfl))
  have i2 := (List.getElem?_eq_some_iff.1 hi).1
  have i3 := (List.getElem?_eq_some_iff.1 hi').1
  rw [hl2] at i2
  rw [hl3] at i3
  have i2' : (i : Int) < n2 := by omega
  have i3' : (i : Int) < n3 := by omega
  have HCI := Lib.hid fun u => contentOf_is R a1 a4 k2 k3 n1 n2 n3 n4 c1 c2 c3 c4 i i2 i3 u
  have HSH := Lib.hid (show ∀ u, Calls Try.prog 70 #[.int .i64 y, .int .i64 m, .int .i64 x] u fun e w' => e = .returned (.int .i64 T) ∧ u.grownBy w' none from fun u => by
    have q := share_is y m x u
    rw [hT] at q
    exact q)
  have HA := Lib.hid (show ∀ u, u0.grownBy u none → Calls Try.prog 68 #[.agg #[.pointer (some ⟨k2, i, none⟩), .pointer (some ⟨k3, i, none⟩)], .int .i64 (-m), .int .i64 (-T)] u fun e w' => e = .returned (.tuple #[]) ∧ ∃ W, u.grownBy W none ∧ w' = (W.setCell ⟨k2, i, none⟩ (.int .i64 (x + (-m)))).setCell ⟨k3, i, none⟩ (.int .i64 (y + (-T))) from fun u hu => by
    have ho2 := (h.on hu).nth k hk
    obtain ⟨g2, z2, e2, q2, m2, u2⟩ := own_cellI (OwnS.m ho2) i2
    cases e2
    obtain ⟨g3, z3, e3, q3, m3, u3⟩ := own_cellI (OwnS.t ho2) i3
    cases e3
    rw [hi] at q2; cases q2
    rw [hi'] at q3; cases q3
    exact add_is k2 k3 i (-m) (-T) x y u m2 u2 m3 u3 HNE.out (by omega) (by omega))
  have e1 : IntKind.i64.wrap (-m) = -m := IntWalk.i64_in _ (by omega)
  have e2 : IntKind.i64.wrap (-T) = -T := IntWalk.i64_in _ (by omega)
  have E3 := Lib.hid (And.intro (show IntKind.i64.wrap (l1 + m) = l1 + m from IntWalk.i64_in _ (by omega)) (show IntKind.i64.wrap (l3 + T) = l3 + T from IntWalk.i64_in _ (by omega)))
  have HK := Lib.hid hk; have HKB := Lib.hid hkb
  have HE := Lib.hid h
  have HKB2 := Lib.hid fun (g' : Grp) => show (gs.set k g')[kb]? = _ from (List.getElem?_set_ne (Ne.symm hne)).trans hkb
  obtain ⟨g2, z2, e4, q2, m2, -⟩ := own_cellI (OwnS.m ho) i2
  cases e4
  obtain ⟨g3, z3, e5, q3, m3, -⟩ := own_cellI (OwnS.t ho) i3
  cases e5
  rw [hi] at q2; cases q2
  rw [hi'] at q3; cases q3
  obtain ⟨⟨-, -, p2, p3, -⟩, -⟩ := cells9 (HE.out.nth kb HKB.out)
  clear ho h hk hkb hi hi' hl2 hl3 i2 i3 hT bm bT bx by_ b1 b3
  have hgg : u0.grownBy u0 none := Cell.grown_refl _
  go_enter Try.func37, Try.ntmps37
  go_wp2_with fail
  go_region_held3 (fun w' => w'.cell? ⟨Ab, 2, none⟩ = some (.slice (some ⟨k2, 0, none⟩) n2 c2) ∧ w'.cell? ⟨Ab, 3, none⟩ = some (.slice (some ⟨k3, 0, none⟩) n3 c3) ∧ w'.cell? ⟨k2, i, none⟩ = some (.int .i64 x) ∧ w'.cell? ⟨k3, i, none⟩ = some (.int .i64 y) ∧ u0.grownBy w' none)
    ((go_split_ands; refine ⟨?_, ?_, ?_, ?_, ?_⟩ <;> first | assumption | exact hgc.cell (by assumption) (by simp) | exact Cell.grown_trans (by assumption) hgc | exact Cell.g_drew (by assumption)))
    (first
      | (go_at_call 70; ((with_reducible refine (HSH.out _).mono ?_); rintro e w'' ⟨rfl, hgc⟩)))
  go_split_ands
  rename_i r2 r3 r4 r5 hr
  have HE1 := Lib.hid (HE.out.on hr)
  have HG1 := Lib.hid hr
  clear r2 r3 r4 r5 hr hgc hgg m2 m3 p2 p3 HE HSH
  obtain ⟨⟨p0, p1, p2, p3, p4⟩, -⟩ := cells9 (HE1.out.nth kb HKB.out)
  go_upto_region 2 with (first
    | (go_at_call 67; ((with_reducible refine (HCI.out _).mono ?_); rintro e w4 ⟨rfl, hg⟩; have HG4 := Lib.hid hg; clear hg))
    | (go_at_call 68; ((with_reducible refine (HA.out _ (Cell.grown_trans HG1.out HG4.out)).mono ?_); rintro e w5 ⟨rfl, W, hg, rfl⟩; have HE5 := Lib.hid (Held.setTracer (Held.setMass ((HE1.out.on HG4.out).on hg) k HK.out i (x + -m)) k (set_at HK.out) i (y + -T)); clear hg)))
  have HE6 := Lib.hid HE5.out
  rw [List.set_set] at HE6
  clear p0 p1 p2 p3 p4 HE1 HE5 HCI HA HG4 HG1
  generalize (W.setCell ⟨k2, i, none⟩ (.int .i64 (x + -m))).setCell ⟨k3, i, none⟩ (.int .i64 (y + -T)) = W5 at *
  have HLE := Lib.hid (leave_is Ab 5 m T l1 l3 (l1 + m) (l3 + T) E3.out.1 E3.out.2 W5 (cells9 (HE6.out.nth kb (HKB2.out _))).2.2.1 (boxG.free (HE6.out.nth kb (HKB2.out _)) 6) (cells9 (HE6.out.nth kb (HKB2.out _))).2.2.2.2 (boxG.free (HE6.out.nth kb (HKB2.out _)) 8))
  go_wp2_with (go_at_call 71; ((with_reducible refine HLE.out.mono ?_); rintro e w6 ⟨rfl, rfl⟩))
  have q1 : Held w0 _ ((gs.set k (stateG (.slice a1 n1 c1) (.slice (some ⟨k2, 0, none⟩) n2 c2) (.slice (some ⟨k3, 0, none⟩) n3 c3) (.slice a4 n4 c4) n1 n2 n3 n4 xs (ms.set i (x + -m)) (ts.set i (y + -T)) bs)).set kb (boxG Ab 63 #[.int .i64 R, .slice a1 n1 c1, .slice (some ⟨k2, 0, none⟩) n2 c2, .slice (some ⟨k3, 0, none⟩) n3 c3, .slice a4 n4 c4, .int .i64 l0, .int .i64 (l1 + m), .int .i64 l2, .int .i64 l3])) := HE6.out.put kb (HKB2.out _) 6 (.int .i64 (l1 + m))
  have q2 : Held w0 _ (((gs.set k (stateG (.slice a1 n1 c1) (.slice (some ⟨k2, 0, none⟩) n2 c2) (.slice (some ⟨k3, 0, none⟩) n3 c3) (.slice a4 n4 c4) n1 n2 n3 n4 xs (ms.set i (x + -m)) (ts.set i (y + -T)) bs)).set kb (boxG Ab 63 #[.int .i64 R, .slice a1 n1 c1, .slice (some ⟨k2, 0, none⟩) n2 c2, .slice (some ⟨k3, 0, none⟩) n3 c3, .slice a4 n4 c4, .int .i64 l0, .int .i64 (l1 + m), .int .i64 l2, .int .i64 l3])).set kb (boxG Ab 63 #[.int .i64 R, .slice a1 n1 c1, .slice (some ⟨k2, 0, none⟩) n2 c2, .slice (some ⟨k3, 0, none⟩) n3 c3, .slice a4 n4 c4, .int .i64 l0, .int .i64 (l1 + m), .int .i64 l2, .int .i64 (l3 + T)])) := q1.put kb (set_at (HKB2.out _)) 8 (.int .i64 (l3 + T))
  rw [List.set_set] at q2
  exact bodyPost_end (results_none rfl _ _ _) rfl ⟨rfl, q2⟩

set_option maxHeartbeats 8000000 in
/-- What enters a leaf is booked. -/
theorem give_is {w0 u0 : World} {gs : List Grp} (R : Int) (a1 a4 : Option Addr) (k2 k3 n1 n2 n3 n4 c1 c2 c3 c4 Ab kb k i : Nat) (xs : List C3) (ms ts bs : List Int) (m T x y l0 l1 l2 l3 : Int)
    (h : Held w0 u0 gs) (hkb : gs[kb]? = some (boxG Ab 63 #[.int .i64 R, .slice a1 n1 c1, .slice (some ⟨k2, 0, none⟩) n2 c2, .slice (some ⟨k3, 0, none⟩) n3 c3, .slice a4 n4 c4, .int .i64 l0, .int .i64 l1, .int .i64 l2, .int .i64 l3]))
    (hk : gs[k]? = some (stateG (.slice a1 n1 c1) (.slice (some ⟨k2, 0, none⟩) n2 c2) (.slice (some ⟨k3, 0, none⟩) n3 c3) (.slice a4 n4 c4) n1 n2 n3 n4 xs ms ts bs)) (hne : kb ≠ k) (hi : ms[i]? = some x) (hi' : ts[i]? = some y)
    (bm : 0 ≤ m ∧ m ≤ 10000000) (bT : 0 ≤ T ∧ T ≤ 10000000000) (bx : 0 ≤ x ∧ x ≤ 10000000) (by_ : 0 ≤ y ∧ y ≤ 10000000000) (b0 : -1000000000000 ≤ l0 ∧ l0 ≤ 1000000000000) (b2 : -1000000000000 ≤ l2 ∧ l2 ≤ 1000000000000) :
    Calls Try.prog 36 #[.pointer (some ⟨Ab, 0, none⟩), .int .i64 (i : Int), .int .i64 m, .int .i64 T] u0 fun e u' => e = .returned (.tuple #[]) ∧
      Held w0 u' ((gs.set k (stateG (.slice a1 n1 c1) (.slice (some ⟨k2, 0, none⟩) n2 c2) (.slice (some ⟨k3, 0, none⟩) n3 c3) (.slice a4 n4 c4) n1 n2 n3 n4 xs (ms.set i (x + m)) (ts.set i (y + T)) bs)).set kb (boxG Ab 63 #[.int .i64 R, .slice a1 n1 c1, .slice (some ⟨k2, 0, none⟩) n2 c2, .slice (some ⟨k3, 0, none⟩) n3 c3, .slice a4 n4 c4, .int .i64 (l0 + m), .int .i64 l1, .int .i64 (l2 + T), .int .i64 l3])) := by
  have ho := h.nth k hk
  have hl2 : ms.length = n2 := by have := (OwnS.m ho).1; rw [vals_len] at this; omega
  have hl3 : ts.length = n3 := by have := (OwnS.t ho).1; rw [vals_len] at this; omega
  have HNE := Lib.hid (show k2 ≠ k3 from fun e => (OwnS.mt ho) k2 rfl (by rw [e]; rfl))
  have i2 := (List.getElem?_eq_some_iff.1 hi).1
  have i3 := (List.getElem?_eq_some_iff.1 hi').1
  rw [hl2] at i2
  rw [hl3] at i3
  have i2' : (i : Int) < n2 := by omega
  have i3' : (i : Int) < n3 := by omega
  have HCI := Lib.hid fun u => contentOf_is R a1 a4 k2 k3 n1 n2 n3 n4 c1 c2 c3 c4 i i2 i3 u
  have HA := Lib.hid (show ∀ u, u0.grownBy u none → Calls Try.prog 68 #[.agg #[.pointer (some ⟨k2, i, none⟩), .pointer (some ⟨k3, i, none⟩)], .int .i64 m, .int .i64 T] u fun e w' => e = .returned (.tuple #[]) ∧ ∃ W, u.grownBy W none ∧ w' = (W.setCell ⟨k2, i, none⟩ (.int .i64 (x + m))).setCell ⟨k3, i, none⟩ (.int .i64 (y + T)) from fun u hu => by
    have ho2 := (h.on hu).nth k hk
    obtain ⟨g2, z2, e2, q2, m2, u2⟩ := own_cellI (OwnS.m ho2) i2
    cases e2
    obtain ⟨g3, z3, e3, q3, m3, u3⟩ := own_cellI (OwnS.t ho2) i3
    cases e3
    rw [hi] at q2; cases q2
    rw [hi'] at q3; cases q3
    exact add_is k2 k3 i m T x y u m2 u2 m3 u3 HNE.out (by omega) (by omega))
  have E3 := Lib.hid (And.intro (show IntKind.i64.wrap (l0 + m) = l0 + m from IntWalk.i64_in _ (by omega)) (show IntKind.i64.wrap (l2 + T) = l2 + T from IntWalk.i64_in _ (by omega)))
  have HK := Lib.hid hk; have HKB := Lib.hid hkb
  have HE1 := Lib.hid h
  have HKB2 := Lib.hid fun (g' : Grp) => show (gs.set k g')[kb]? = _ from (List.getElem?_set_ne (Ne.symm hne)).trans hkb
  clear ho h hk hkb hi hi' hl2 hl3 i2 i3 bm bT bx by_ b0 b2
  obtain ⟨⟨p0, p1, p2, p3, p4⟩, -⟩ := cells9 (HE1.out.nth kb HKB.out)
  go_enter Try.func36, Try.ntmps36
  go_upto_region 1 with (first
    | (go_at_call 67; ((with_reducible refine (HCI.out _).mono ?_); rintro e w4 ⟨rfl, hg⟩; have HG4 := Lib.hid hg; clear hg))
    | (go_at_call 68; ((with_reducible refine (HA.out _ HG4.out).mono ?_); rintro e w5 ⟨rfl, W, hg, rfl⟩; have HE5 := Lib.hid (Held.setTracer (Held.setMass ((HE1.out.on HG4.out).on hg) k HK.out i (x + m)) k (set_at HK.out) i (y + T)); clear hg)))
  have HE6 := Lib.hid HE5.out
  rw [List.set_set] at HE6
  clear p0 p1 p2 p3 p4 HE1 HE5 HCI HA HG4
  generalize (W.setCell ⟨k2, i, none⟩ (.int .i64 (x + m))).setCell ⟨k3, i, none⟩ (.int .i64 (y + T)) = W5 at *
  have HLE := Lib.hid (enter_is Ab 5 m T l0 l2 (l0 + m) (l2 + T) E3.out.1 E3.out.2 W5 (cells9 (HE6.out.nth kb (HKB2.out _))).2.1 (boxG.free (HE6.out.nth kb (HKB2.out _)) 5) (cells9 (HE6.out.nth kb (HKB2.out _))).2.2.2.1 (boxG.free (HE6.out.nth kb (HKB2.out _)) 7))
  go_wp2_with (go_at_call 69; ((with_reducible refine HLE.out.mono ?_); rintro e w6 ⟨rfl, rfl⟩))
  have q1 : Held w0 _ ((gs.set k (stateG (.slice a1 n1 c1) (.slice (some ⟨k2, 0, none⟩) n2 c2) (.slice (some ⟨k3, 0, none⟩) n3 c3) (.slice a4 n4 c4) n1 n2 n3 n4 xs (ms.set i (x + m)) (ts.set i (y + T)) bs)).set kb (boxG Ab 63 #[.int .i64 R, .slice a1 n1 c1, .slice (some ⟨k2, 0, none⟩) n2 c2, .slice (some ⟨k3, 0, none⟩) n3 c3, .slice a4 n4 c4, .int .i64 (l0 + m), .int .i64 l1, .int .i64 l2, .int .i64 l3])) := HE6.out.put kb (HKB2.out _) 5 (.int .i64 (l0 + m))
  have q2 : Held w0 _ (((gs.set k (stateG (.slice a1 n1 c1) (.slice (some ⟨k2, 0, none⟩) n2 c2) (.slice (some ⟨k3, 0, none⟩) n3 c3) (.slice a4 n4 c4) n1 n2 n3 n4 xs (ms.set i (x + m)) (ts.set i (y + T)) bs)).set kb (boxG Ab 63 #[.int .i64 R, .slice a1 n1 c1, .slice (some ⟨k2, 0, none⟩) n2 c2, .slice (some ⟨k3, 0, none⟩) n3 c3, .slice a4 n4 c4, .int .i64 (l0 + m), .int .i64 l1, .int .i64 l2, .int .i64 l3])).set kb (boxG Ab 63 #[.int .i64 R, .slice a1 n1 c1, .slice (some ⟨k2, 0, none⟩) n2 c2, .slice (some ⟨k3, 0, none⟩) n3 c3, .slice a4 n4 c4, .int .i64 (l0 + m), .int .i64 l1, .int .i64 (l2 + T), .int .i64 l3])) := q1.put kb (set_at (HKB2.out _)) 7 (.int .i64 (l2 + T))
  rw [List.set_set] at q2
  exact bodyPost_end (results_none rfl _ _ _) rfl ⟨rfl, q2⟩

/-- A state and a ledger, in memory of the call's own. -/
def GivesSL (R : Int) (n1 n2 n3 n4 : Nat) (xs : List C3) (ms ts bs : List Int) (l0 l1 l2 l3 : Int) (w : World) (e : Ending) (w' : World) : Prop :=
  ∃ a1 c1 a2 c2 a3 c3 a4 c4, e = .returned (.tuple #[.agg #[.int .i64 R, .slice a1 n1 c1, .slice a2 n2 c2, .slice a3 n3 c3, .slice a4 n4 c4], .agg #[.int .i64 l0, .int .i64 l1, .int .i64 l2, .int .i64 l3]]) ∧ OwnS w' w.heap.size (.slice a1 n1 c1) (.slice a2 n2 c2) (.slice a3 n3 c3) (.slice a4 n4 c4) n1 n2 n3 n4 xs ms ts bs ∧ w.grownBy w' none

end Go.Proofs.Ytmbmeajneankpaa.State
