/- Borders and ledgers: the program's booked state: openBooks, hasRoomFor, take, give; ApplyBorder, as contracts: what each answers, in memory of the call's own; nothing that was there is written.
   Conditions: at most 2^20 leaves and numbers. -/
import Derived.Test.YtngacnckejnllaaStLedK
import Derived.Test.YtngacnckejnllaaStShare
import Derived.Deep.RegionHeld3
import Derived.Deep.RegionWith
set_option maxRecDepth 100000
namespace Go.Proofs.Ytngacnckejnllaa.State
open Go.ChangeShapes Go.WideShapes Go.ChangeAt Go.RowKit Go.Joins Go.Proofs.Ytngacnckejnllaa.Cell Go.Proofs.Ytngacnckejnllaa.Mesh Go.Proofs.Ytngacnckejnllaa.Law Go.Proofs.Ytngacnckejnllaa.Ints Go.Proofs.Ytngacnckejnllaa.Draws Go.Deep

set_option maxHeartbeats 4000000 in
/-- A state's copy, with a ledger of nothing. -/
theorem openBooks_is (R : Int) (a1 a2 a3 a4 : Option Addr) (n1 n2 n3 n4 c1 c2 c3 c4 : Nat) (xs : List C3) (ms ts bs : List Int) (w : World) (h : ReadsS w a1 a2 a3 a4 n1 n2 n3 n4 xs ms ts bs) (h1 : n1 ≤ 1048576) (h2 : n2 ≤ 1048576) (h3 : n3 ≤ 1048576) (h4 : n4 ≤ 1048576) :
    Calls Try.prog 35 #[.agg #[.int .i64 R, .slice a1 n1 c1, .slice a2 n2 c2, .slice a3 n3 c3, .slice a4 n4 c4]] w fun e w' => ∃ (B : Nat) (q1 : Option Addr) (d1 : Nat) (q2 : Option Addr) (d2 : Nat) (q3 : Option Addr) (d3 : Nat) (q4 : Option Addr) (d4 : Nat), e = .returned (.pointer (some ⟨B, 0, none⟩)) ∧ Held w w' [stateG (.slice q1 n1 d1) (.slice q2 n2 d2) (.slice q3 n3 d3) (.slice q4 n4 d4) n1 n2 n3 n4 xs ms ts bs, boxG B 73 #[.int .i64 R, .slice q1 n1 d1, .slice q2 n2 d2, .slice q3 n3 d3, .slice q4 n4 d4, .int .i64 0, .int .i64 0, .int .i64 0, .int .i64 0]] := by
  have HCP := Lib.hid (show ∀ u, w.grownBy u none → Calls Try.prog 34 #[.agg #[.int .i64 R, .slice a1 n1 c1, .slice a2 n2 c2, .slice a3 n3 c3, .slice a4 n4 c4]] u (GivesS R n1 n2 n3 n4 xs ms ts bs u) from fun u hu => stClone_is R a1 a2 a3 a4 n1 n2 n3 n4 c1 c2 c3 c4 xs ms ts bs u (h.on hu) h1 h2 h3 h4)
  have HE := Lib.hid ((Held.nil w).box 29 #[.int .i64 R, .slice a1 n1 c1, .slice a2 n2 c2, .slice a3 n3 c3, .slice a4 n4 c4])
  clear h h1 h2 h3 h4
  go_enter Try.func35, Try.ntmps35
  go_upto_region 1 with fail
  generalize w.alloc (.cells #[.int .i64 R, .slice a1 n1 c1, .slice a2 n2 c2, .slice a3 n3 c3, .slice a4 n4 c4] 29) = W0 at *
  obtain ⟨p0, p1, p2, p3, p4⟩ := box5 (HE.out.nth 0 rfl)
  go_wp2_with (go_at_call 34; ((with_reducible refine (HCP.out _ HE.out.gr).mono ?_); rintro e w2 ⟨q1, d1, q2, d2, q3, d3, q4, d4, rfl, ho, hg⟩; have HE2 := Lib.hid (State.Held.state HE.out hg ho); clear ho hg))
  have HE3 := Lib.hid (HE2.out.box 73 #[.int .i64 R, .slice q1 n1 d1, .slice q2 n2 d2, .slice q3 n3 d3, .slice q4 n4 d4, .int .i64 0, .int .i64 0, .int .i64 0, .int .i64 0])
  go_ret
  exact ⟨_, q1, d1, q2, d2, q3, d3, q4, d4, rfl, HE3.out.only (.cons _ (.refl _))⟩

set_option maxHeartbeats 4000000 in
/-- Whether the sum of the masses leaves room. -/
theorem hasRoom_is {w0 u0 : World} {gs : List Grp} (R : Int) (a1 a4 : Option Addr) (k2 k3 n1 n2 n3 n4 c1 c2 c3 c4 Ab kb k : Nat) (xs : List C3) (ms ts bs : List Int) (m l0 l1 l2 l3 : Int)
    (h : Held w0 u0 gs) (hkb : gs[kb]? = some (boxG Ab 73 #[.int .i64 R, .slice a1 n1 c1, .slice (some ⟨k2, 0, none⟩) n2 c2, .slice (some ⟨k3, 0, none⟩) n3 c3, .slice a4 n4 c4, .int .i64 l0, .int .i64 l1, .int .i64 l2, .int .i64 l3]))
    (hk : gs[k]? = some (stateG (.slice a1 n1 c1) (.slice (some ⟨k2, 0, none⟩) n2 c2) (.slice (some ⟨k3, 0, none⟩) n3 c3) (.slice a4 n4 c4) n1 n2 n3 n4 xs ms ts bs)) (h2 : n2 ≤ 1048576) (hb : ∀ x ∈ ms, 0 ≤ x ∧ x ≤ 10000000) (hm : 0 ≤ m ∧ m ≤ 10000) :
    Calls Try.prog 38 #[.pointer (some ⟨Ab, 0, none⟩), .int .i64 m] u0 fun e u' => e = .returned (.bool (decide (ms.sum + m ≤ 10000000))) ∧ u0.grownBy u' none := by
  have HS := Lib.hid (show Calls Try.prog 73 #[.slice (some ⟨k2, 0, none⟩) n2 c2] u0 fun e w' => e = .returned (.int .i64 ms.sum) ∧ u0.grownBy w' none from sumOf_is _ n2 c2 ms u0 (OwnS.reads (h.nth k hk)).m h2 (fun x hx => by have := hb x hx; omega))
  have hs := sum_bounds hb
  have hl : ms.length = n2 := (OwnS.reads (h.nth k hk)).m.len
  have hc : (n2 : Int) * 10000000 ≤ 1048576 * 10000000 := Int.mul_le_mul_of_nonneg_right (by omega) (by decide)
  rw [hl] at hs
  obtain ⟨X, hX⟩ : ∃ X, ms.sum = X := ⟨_, rfl⟩
  rw [hX] at hs HS ⊢
  have e1 : IntKind.i64.wrap (X + m) = X + m := IntWalk.i64_in _ (by omega)
  obtain ⟨⟨p0, p1, p2, p3, p4⟩, -⟩ := cells9 (h.nth kb hkb)
  clear h hkb hk h2 hb hm hs hl hc hX
  go_enter Try.func38, Try.ntmps38
  go_wp2_with (go_at_call 73; ((with_reducible refine HS.out.mono ?_); rintro e w2 ⟨rfl, hg⟩; have HG := Lib.hid hg; clear hg))
  go_ret
  exact ⟨rfl, HG.out⟩

theorem set_at {gs : List Grp} {k : Nat} {g g' : Grp} (h : gs[k]? = some g) : (gs.set k g')[k]? = some g' := List.getElem?_set_self (List.getElem?_eq_some_iff.1 h).1

set_option maxHeartbeats 8000000 in
/-- What leaves a leaf is booked. -/
theorem take_is {w0 u0 : World} {gs : List Grp} (R : Int) (a1 a4 : Option Addr) (k2 k3 n1 n2 n3 n4 c1 c2 c3 c4 Ab kb k i : Nat) (xs : List C3) (ms ts bs : List Int) (m T x y l0 l1 l2 l3 : Int)
    (h : Held w0 u0 gs) (hkb : gs[kb]? = some (boxG Ab 73 #[.int .i64 R, .slice a1 n1 c1, .slice (some ⟨k2, 0, none⟩) n2 c2, .slice (some ⟨k3, 0, none⟩) n3 c3, .slice a4 n4 c4, .int .i64 l0, .int .i64 l1, .int .i64 l2, .int .i64 l3]))
    (hk : gs[k]? = some (stateG (.slice a1 n1 c1) (.slice (some ⟨k2, 0, none⟩) n2 c2) (.slice (some ⟨k3, 0, none⟩) n3 c3) (.slice a4 n4 c4) n1 n2 n3 n4 xs ms ts bs)) (hne : kb ≠ k) (hi : ms[i]? = some x) (hi' : ts[i]? = some y) (hT : shareOf y m x = T)
    (bm : 0 ≤ m ∧ m ≤ 10000000) (bT : 0 ≤ T ∧ T ≤ 10000000000) (bx : 0 ≤ x ∧ x ≤ 10000000) (by_ : 0 ≤ y ∧ y ≤ 10000000000) (b1 : -1000000000000 ≤ l1 ∧ l1 ≤ 1000000000000) (b3 : -1000000000000 ≤ l3 ∧ l3 ≤ 1000000000000) :
    Calls Try.prog 36 #[.pointer (some ⟨Ab, 0, none⟩), .int .i64 (i : Int), .int .i64 m] u0 fun e u' => e = .returned (.tuple #[]) ∧
      Held w0 u' ((gs.set k (stateG (.slice a1 n1 c1) (.slice (some ⟨k2, 0, none⟩) n2 c2) (.slice (some ⟨k3, 0, none⟩) n3 c3) (.slice a4 n4 c4) n1 n2 n3 n4 xs (ms.set i (x + -m)) (ts.set i (y + -T)) bs)).set kb (boxG Ab 73 #[.int .i64 R, .slice a1 n1 c1, .slice (some ⟨k2, 0, none⟩) n2 c2, .slice (some ⟨k3, 0, none⟩) n3 c3, .slice a4 n4 c4, .int .i64 l0, .int .i64 (l1 + m), .int .i64 l2, .int .i64 (l3 + T)])) := by
  have ho := h.nth k hk
  have hl2 : ms.length = n2 := by have := (OwnS.m ho).1; rw [vals_len] at this; omega
  have hl3 : ts.length = n3 := by have := (OwnS.t ho).1; rw [vals_len] at this; omega
  have HNE := Lib.hid (show k2 ≠ k3 from fun e => (OwnS.mt ho) k2 rfl (by rw [e]; rfl))
  have i2 := (List.getElem?_eq_some_iff.1 hi).1
  have i3 := (List.getElem?_eq_some_iff.1 hi').1
  rw [hl2] at i2
  rw [hl3] at i3
  have i2' : (i : Int) < n2 := by omega
  have i3' : (i : Int) < n3 := by omega
  have HCI := Lib.hid fun u => contentOf_is R a1 a4 k2 k3 n1 n2 n3 n4 c1 c2 c3 c4 i i2 i3 u
  have HSH := Lib.hid (show ∀ u, Calls Try.prog 69 #[.int .i64 y, .int .i64 m, .int .i64 x] u fun e w' => e = .returned (.int .i64 T) ∧ u.grownBy w' none from fun u => by
    have q := share_is y m x u
    rw [hT] at q
    exact q)
  have HA := Lib.hid (show ∀ u, u0.grownBy u none → Calls Try.prog 71 #[.agg #[.pointer (some ⟨k2, i, none⟩), .pointer (some ⟨k3, i, none⟩)], .int .i64 (-m), .int .i64 (-T)] u fun e w' => e = .returned (.tuple #[]) ∧ ∃ W, u.grownBy W none ∧ w' = (W.setCell ⟨k2, i, none⟩ (.int .i64 (x + (-m)))).setCell ⟨k3, i, none⟩ (.int .i64 (y + (-T))) from fun u hu => by
    have ho2 := (h.on hu).nth k hk
    obtain ⟨g2, z2, e2, q2, m2, u2⟩ := own_cellI (OwnS.m ho2) i2
    cases e2
    obtain ⟨g3, z3, e3, q3, m3, u3⟩ := own_cellI (OwnS.t ho2) i3
    cases e3
    rw [hi] at q2; cases q2
    rw [hi'] at q3; cases q3
    exact add_is k2 k3 i (-m) (-T) x y u m2 u2 m3 u3 HNE.out (by omega) (by omega))
  have e1 : IntKind.i64.wrap (-m) = -m := IntWalk.i64_in _ (by omega)
  have e2 : IntKind.i64.wrap (-T) = -T := IntWalk.i64_in _ (by omega)
  have E3 := Lib.hid (And.intro (show IntKind.i64.wrap (l1 + m) = l1 + m from IntWalk.i64_in _ (by omega)) (show IntKind.i64.wrap (l3 + T) = l3 + T from IntWalk.i64_in _ (by omega)))
  have HK := Lib.hid hk; have HKB := Lib.hid hkb
  have HE := Lib.hid h
  have HKB2 := Lib.hid fun (g' : Grp) => show (gs.set k g')[kb]? = _ from (List.getElem?_set_ne (Ne.symm hne)).trans hkb
  obtain ⟨g2, z2, e4, q2, m2, -⟩ := own_cellI (OwnS.m ho) i2
  cases e4
  obtain ⟨g3, z3, e5, q3, m3, -⟩ := own_cellI (OwnS.t ho) i3
  cases e5
  rw [hi] at q2; cases q2
  rw [hi'] at q3; cases q3
  obtain ⟨⟨-, -, p2, p3, -⟩, -⟩ := cells9 (HE.out.nth kb HKB.out)
  clear ho h hk hkb hi hi' hl2 hl3 i2 i3 hT bm bT bx by_ b1 b3
  have hgg : u0.grownBy u0 none := Cell.grown_refl _
  go_enter Try.func36, Try.ntmps36
  go_wp2_with fail
  go_region_held3 (fun w' => w'.cell? ⟨Ab, 2, none⟩ = some (.slice (some ⟨k2, 0, none⟩) n2 c2) ∧ w'.cell? ⟨Ab, 3, none⟩ = some (.slice (some ⟨k3, 0, none⟩) n3 c3) ∧ w'.cell? ⟨k2, i, none⟩ = some (.int .i64 x) ∧ w'.cell? ⟨k3, i, none⟩ = some (.int .i64 y) ∧ u0.grownBy w' none)
    ((go_split_ands; refine ⟨?_, ?_, ?_, ?_, ?_⟩ <;> first | assumption | exact hgc.cell (by assumption) (by simp) | exact Cell.grown_trans (by assumption) hgc | exact Cell.g_drew (by assumption)))
    (first
      | (go_at_call 69; ((with_reducible refine (HSH.out _).mono ?_); rintro e w'' ⟨rfl, hgc⟩)))
  go_split_ands
  rename_i r2 r3 r4 r5 hr
  have HE1 := Lib.hid (HE.out.on hr)
  have HG1 := Lib.hid hr
  clear r2 r3 r4 r5 hr hgc hgg m2 m3 p2 p3 HE HSH
  obtain ⟨⟨p0, p1, p2, p3, p4⟩, -⟩ := cells9 (HE1.out.nth kb HKB.out)
  go_upto_region 2 with (first
    | (go_at_call 70; ((with_reducible refine (HCI.out _).mono ?_); rintro e w4 ⟨rfl, hg⟩; have HG4 := Lib.hid hg; clear hg))
    | (go_at_call 71; ((with_reducible refine (HA.out _ (Cell.grown_trans HG1.out HG4.out)).mono ?_); rintro e w5 ⟨rfl, W, hg, rfl⟩; have HE5 := Lib.hid (Held.setTracer (Held.setMass ((HE1.out.on HG4.out).on hg) k HK.out i (x + -m)) k (set_at HK.out) i (y + -T)); clear hg)))
  have HE6 := Lib.hid HE5.out
  rw [List.set_set] at HE6
  clear p0 p1 p2 p3 p4 HE1 HE5 HCI HA HG4 HG1
  generalize (W.setCell ⟨k2, i, none⟩ (.int .i64 (x + -m))).setCell ⟨k3, i, none⟩ (.int .i64 (y + -T)) = W5 at *
  have HLE := Lib.hid (leave_is Ab 5 m T l1 l3 (l1 + m) (l3 + T) E3.out.1 E3.out.2 W5 (cells9 (HE6.out.nth kb (HKB2.out _))).2.2.1 (boxG.free (HE6.out.nth kb (HKB2.out _)) 6) (cells9 (HE6.out.nth kb (HKB2.out _))).2.2.2.2 (boxG.free (HE6.out.nth kb (HKB2.out _)) 8))
  go_wp2_with (go_at_call 47; ((with_reducible refine HLE.out.mono ?_); rintro e w6 ⟨rfl, rfl⟩))
  have q1 : Held w0 _ ((gs.set k (stateG (.slice a1 n1 c1) (.slice (some ⟨k2, 0, none⟩) n2 c2) (.slice (some ⟨k3, 0, none⟩) n3 c3) (.slice a4 n4 c4) n1 n2 n3 n4 xs (ms.set i (x + -m)) (ts.set i (y + -T)) bs)).set kb (boxG Ab 73 #[.int .i64 R, .slice a1 n1 c1, .slice (some ⟨k2, 0, none⟩) n2 c2, .slice (some ⟨k3, 0, none⟩) n3 c3, .slice a4 n4 c4, .int .i64 l0, .int .i64 (l1 + m), .int .i64 l2, .int .i64 l3])) := HE6.out.put kb (HKB2.out _) 6 (.int .i64 (l1 + m))
  have q2 : Held w0 _ (((gs.set k (stateG (.slice a1 n1 c1) (.slice (some ⟨k2, 0, none⟩) n2 c2) (.slice (some ⟨k3, 0, none⟩) n3 c3) (.slice a4 n4 c4) n1 n2 n3 n4 xs (ms.set i (x + -m)) (ts.set i (y + -T)) bs)).set kb (boxG Ab 73 #[.int .i64 R, .slice a1 n1 c1, .slice (some ⟨k2, 0, none⟩) n2 c2, .slice (some ⟨k3, 0, none⟩) n3 c3, .slice a4 n4 c4, .int .i64 l0, .int .i64 (l1 + m), .int .i64 l2, .int .i64 l3])).set kb (boxG Ab 73 #[.int .i64 R, .slice a1 n1 c1, .slice (some ⟨k2, 0, none⟩) n2 c2, .slice (some ⟨k3, 0, none⟩) n3 c3, .slice a4 n4 c4, .int .i64 l0, .int .i64 (l1 + m), .int .i64 l2, .int .i64 (l3 + T)])) := q1.put kb (set_at (HKB2.out _)) 8 (.int .i64 (l3 + T))
  rw [List.set_set] at q2
  exact bodyPost_end (results_none rfl _ _ _) rfl ⟨rfl, q2⟩

set_option maxHeartbeats 8000000 in
/-- What enters a leaf is booked. -/
theorem give_is {w0 u0 : World} {gs : List Grp} (R : Int) (a1 a4 : Option Addr) (k2 k3 n1 n2 n3 n4 c1 c2 c3 c4 Ab kb k i : Nat) (xs : List C3) (ms ts bs : List Int) (m T x y l0 l1 l2 l3 : Int)
    (h : Held w0 u0 gs) (hkb : gs[kb]? = some (boxG Ab 73 #[.int .i64 R, .slice a1 n1 c1, .slice (some ⟨k2, 0, none⟩) n2 c2, .slice (some ⟨k3, 0, none⟩) n3 c3, .slice a4 n4 c4, .int .i64 l0, .int .i64 l1, .int .i64 l2, .int .i64 l3]))
    (hk : gs[k]? = some (stateG (.slice a1 n1 c1) (.slice (some ⟨k2, 0, none⟩) n2 c2) (.slice (some ⟨k3, 0, none⟩) n3 c3) (.slice a4 n4 c4) n1 n2 n3 n4 xs ms ts bs)) (hne : kb ≠ k) (hi : ms[i]? = some x) (hi' : ts[i]? = some y)
    (bm : 0 ≤ m ∧ m ≤ 10000000) (bT : 0 ≤ T ∧ T ≤ 10000000000) (bx : 0 ≤ x ∧ x ≤ 10000000) (by_ : 0 ≤ y ∧ y ≤ 10000000000) (b0 : -1000000000000 ≤ l0 ∧ l0 ≤ 1000000000000) (b2 : -1000000000000 ≤ l2 ∧ l2 ≤ 1000000000000) :
    Calls Try.prog 39 #[.pointer (some ⟨Ab, 0, none⟩), .int .i64 (i : Int), .int .i64 m, .int .i64 T] u0 fun e u' => e = .returned (.tuple #[]) ∧
      Held w0 u' ((gs.set k (stateG (.slice a1 n1 c1) (.slice (some ⟨k2, 0, none⟩) n2 c2) (.slice (some ⟨k3, 0, none⟩) n3 c3) (.slice a4 n4 c4) n1 n2 n3 n4 xs (ms.set i (x + m)) (ts.set i (y + T)) bs)).set kb (boxG Ab 73 #[.int .i64 R, .slice a1 n1 c1, .slice (some ⟨k2, 0, none⟩) n2 c2, .slice (some ⟨k3, 0, none⟩) n3 c3, .slice a4 n4 c4, .int .i64 (l0 + m), .int .i64 l1, .int .i64 (l2 + T), .int .i64 l3])) := by
  have ho := h.nth k hk
  have hl2 : ms.length = n2 := by have := (OwnS.m ho).1; rw [vals_len] at this; omega
  have hl3 : ts.length = n3 := by have := (OwnS.t ho).1; rw [vals_len] at this; omega
  have HNE := Lib.hid (show k2 ≠ k3 from fun e => (OwnS.mt ho) k2 rfl (by rw [e]; rfl))
  have i2 := (List.getElem?_eq_some_iff.1 hi).1
  have i3 := (List.getElem?_eq_some_iff.1 hi').1
  rw [hl2] at i2
  rw [hl3] at i3
  have i2' : (i : Int) < n2 := by omega
  have i3' : (i : Int) < n3 := by omega
  have HCI := Lib.hid fun u => contentOf_is R a1 a4 k2 k3 n1 n2 n3 n4 c1 c2 c3 c4 i i2 i3 u
  have HA := Lib.hid (show ∀ u, u0.grownBy u none → Calls Try.prog 71 #[.agg #[.pointer (some ⟨k2, i, none⟩), .pointer (some ⟨k3, i, none⟩)], .int .i64 m, .int .i64 T] u fun e w' => e = .returned (.tuple #[]) ∧ ∃ W, u.grownBy W none ∧ w' = (W.setCell ⟨k2, i, none⟩ (.int .i64 (x + m))).setCell ⟨k3, i, none⟩ (.int .i64 (y + T)) from fun u hu => by
    have ho2 := (h.on hu).nth k hk
    obtain ⟨g2, z2, e2, q2, m2, u2⟩ := own_cellI (OwnS.m ho2) i2
    cases e2
    obtain ⟨g3, z3, e3, q3, m3, u3⟩ := own_cellI (OwnS.t ho2) i3
    cases e3
    rw [hi] at q2; cases q2
    rw [hi'] at q3; cases q3
    exact add_is k2 k3 i m T x y u m2 u2 m3 u3 HNE.out (by omega) (by omega))
  have E3 := Lib.hid (And.intro (show IntKind.i64.wrap (l0 + m) = l0 + m from IntWalk.i64_in _ (by omega)) (show IntKind.i64.wrap (l2 + T) = l2 + T from IntWalk.i64_in _ (by omega)))
  have HK := Lib.hid hk; have HKB := Lib.hid hkb
  have HE1 := Lib.hid h
  have HKB2 := Lib.hid fun (g' : Grp) => show (gs.set k g')[kb]? = _ from (List.getElem?_set_ne (Ne.symm hne)).trans hkb
  clear ho h hk hkb hi hi' hl2 hl3 i2 i3 bm bT bx by_ b0 b2
  obtain ⟨⟨p0, p1, p2, p3, p4⟩, -⟩ := cells9 (HE1.out.nth kb HKB.out)
  go_enter Try.func39, Try.ntmps39
  go_upto_region 1 with (first
    | (go_at_call 70; ((with_reducible refine (HCI.out _).mono ?_); rintro e w4 ⟨rfl, hg⟩; have HG4 := Lib.hid hg; clear hg))
    | (go_at_call 71; ((with_reducible refine (HA.out _ HG4.out).mono ?_); rintro e w5 ⟨rfl, W, hg, rfl⟩; have HE5 := Lib.hid (Held.setTracer (Held.setMass ((HE1.out.on HG4.out).on hg) k HK.out i (x + m)) k (set_at HK.out) i (y + T)); clear hg)))
  have HE6 := Lib.hid HE5.out
  rw [List.set_set] at HE6
  clear p0 p1 p2 p3 p4 HE1 HE5 HCI HA HG4
  generalize (W.setCell ⟨k2, i, none⟩ (.int .i64 (x + m))).setCell ⟨k3, i, none⟩ (.int .i64 (y + T)) = W5 at *
  have HLE := Lib.hid (enter_is Ab 5 m T l0 l2 (l0 + m) (l2 + T) E3.out.1 E3.out.2 W5 (cells9 (HE6.out.nth kb (HKB2.out _))).2.1 (boxG.free (HE6.out.nth kb (HKB2.out _)) 5) (cells9 (HE6.out.nth kb (HKB2.out _))).2.2.2.1 (boxG.free (HE6.out.nth kb (HKB2.out _)) 7))
  go_wp2_with (go_at_call 46; ((with_reducible refine HLE.out.mono ?_); rintro e w6 ⟨rfl, rfl⟩))
  have q1 : Held w0 _ ((gs.set k (stateG (.slice a1 n1 c1) (.slice (some ⟨k2, 0, none⟩) n2 c2) (.slice (some ⟨k3, 0, none⟩) n3 c3) (.slice a4 n4 c4) n1 n2 n3 n4 xs (ms.set i (x + m)) (ts.set i (y + T)) bs)).set kb (boxG Ab 73 #[.int .i64 R, .slice a1 n1 c1, .slice (some ⟨k2, 0, none⟩) n2 c2, .slice (some ⟨k3, 0, none⟩) n3 c3, .slice a4 n4 c4, .int .i64 (l0 + m), .int .i64 l1, .int .i64 l2, .int .i64 l3])) := HE6.out.put kb (HKB2.out _) 5 (.int .i64 (l0 + m))
  have q2 : Held w0 _ (((gs.set k (stateG (.slice a1 n1 c1) (.slice (some ⟨k2, 0, none⟩) n2 c2) (.slice (some ⟨k3, 0, none⟩) n3 c3) (.slice a4 n4 c4) n1 n2 n3 n4 xs (ms.set i (x + m)) (ts.set i (y + T)) bs)).set kb (boxG Ab 73 #[.int .i64 R, .slice a1 n1 c1, .slice (some ⟨k2, 0, none⟩) n2 c2, .slice (some ⟨k3, 0, none⟩) n3 c3, .slice a4 n4 c4, .int .i64 (l0 + m), .int .i64 l1, .int .i64 l2, .int .i64 l3])).set kb (boxG Ab 73 #[.int .i64 R, .slice a1 n1 c1, .slice (some ⟨k2, 0, none⟩) n2 c2, .slice (some ⟨k3, 0, none⟩) n3 c3, .slice a4 n4 c4, .int .i64 (l0 + m), .int .i64 l1, .int .i64 (l2 + T), .int .i64 l3])) := q1.put kb (set_at (HKB2.out _)) 7 (.int .i64 (l2 + T))
  rw [List.set_set] at q2
  exact bodyPost_end (results_none rfl _ _ _) rfl ⟨rfl, q2⟩

/-- A state and a ledger, in memory of the call's own. -/
def GivesSL (R : Int) (n1 n2 n3 n4 : Nat) (xs : List C3) (ms ts bs : List Int) (l0 l1 l2 l3 : Int) (w : World) (e : Ending) (w' : World) : Prop :=
  ∃ a1 c1 a2 c2 a3 c3 a4 c4, e = .returned (.tuple #[.agg #[.int .i64 R, .slice a1 n1 c1, .slice a2 n2 c2, .slice a3 n3 c3, .slice a4 n4 c4], .agg #[.int .i64 l0, .int .i64 l1, .int .i64 l2, .int .i64 l3]]) ∧ OwnS w' w.heap.size (.slice a1 n1 c1) (.slice a2 n2 c2) (.slice a3 n3 c3) (.slice a4 n4 c4) n1 n2 n3 n4 xs ms ts bs ∧ w.grownBy w' none

set_option maxHeartbeats 16000000 in
theorem applyBorder_is (R : Int) (a1 a2 a3 a4 : Option Addr) (n1 n2 n3 n4 c1 c2 c3 c4 : Nat) (xs : List C3) (ms ts bs : List Int) (i s o : Int) (w : World) (h : ReadsS w a1 a2 a3 a4 n1 n2 n3 n4 xs ms ts bs) (h1 : n1 ≤ 1048576) (h2 : n2 ≤ 1048576) (h3 : n3 ≤ 1048576) (h4 : n4 ≤ 1048576) :
    Calls Try.prog 12 #[.agg #[.int .i64 R, .slice a1 n1 c1, .slice a2 n2 c2, .slice a3 n3 c3, .slice a4 n4 c4], .agg #[.int .i64 i, .int .i64 s, .int .i64 o]] w (GivesSL R n1 n2 n3 n4 xs (apM R xs ms ts bs i s o) (apT R xs ms ts bs i s o) bs (apL0 R xs ms ts bs i s o) (apL1 R xs ms ts bs i s o) (apL2 R xs ms ts bs i s o) (apL3 R xs ms ts bs i s o) w) := by
  have HOK := Lib.hid (show ∀ u, w.grownBy u none → Calls Try.prog 33 #[.agg #[.int .i64 R, .slice a1 n1 c1, .slice a2 n2 c2, .slice a3 n3 c3, .slice a4 n4 c4]] u fun e w' => e = .returned (.bool (stOk R xs ms ts bs)) ∧ u.grownBy w' none from fun u hu => stateOk_is R a1 a2 a3 a4 n1 n2 n3 n4 c1 c2 c3 c4 xs ms ts bs u (h.on hu) h1 h2 h3 h4)
  have HBO := Lib.hid (show ∀ u, Calls Try.prog 15 #[.agg #[.int .i64 i, .int .i64 s, .int .i64 o]] u fun e w' => e = .returned (.bool (bordB i s o)) ∧ u.grownBy w' none from fun u => borderOk_is i s o u)
  have HCP := Lib.hid (show ∀ u, w.grownBy u none → Calls Try.prog 34 #[.agg #[.int .i64 R, .slice a1 n1 c1, .slice a2 n2 c2, .slice a3 n3 c3, .slice a4 n4 c4]] u (GivesS R n1 n2 n3 n4 xs ms ts bs u) from fun u hu => stClone_is R a1 a2 a3 a4 n1 n2 n3 n4 c1 c2 c3 c4 xs ms ts bs u (h.on hu) h1 h2 h3 h4)
  have he := ((((Held.nil w).box 29 #[.int .i64 R, .slice a1 n1 c1, .slice a2 n2 c2, .slice a3 n3 c3, .slice a4 n4 c4]).box 32 #[.int .i64 i, .int .i64 s, .int .i64 o]).box 29 #[.int .i64 0, .slice none 0 0, .slice none 0 0, .slice none 0 0, .slice none 0 0]).box 35 #[.int .i64 0, .int .i64 0, .int .i64 0, .int .i64 0]
  simp only [World.size_alloc] at he
  have HE := Lib.hid he; clear he
  cases hs : stOk R xs ms ts bs with
  | false =>
    have hp : apB R xs ms ts bs i s o = false := by unfold apB; rw [hs]; rfl
    unfold apM apT apL0 apL1 apL2 apL3
    rw [hp]
    rw [hs] at HOK
    simp only [Bool.false_eq_true, if_false]
    clear h h1 h2 h3 h4 hs hp
    go_enter Try.func12, Try.ntmps12
    go_upto_region 1 with fail
    generalize (((w.alloc (.cells #[.int .i64 R, .slice a1 n1 c1, .slice a2 n2 c2, .slice a3 n3 c3, .slice a4 n4 c4] 29)).alloc (.cells #[.int .i64 i, .int .i64 s, .int .i64 o] 32)).alloc (.cells #[.int .i64 0, .slice none 0 0, .slice none 0 0, .slice none 0 0, .slice none 0 0] 29)).alloc (.cells #[.int .i64 0, .int .i64 0, .int .i64 0, .int .i64 0] 35) = W0 at *
    obtain ⟨p0, p1, p2, p3, p4⟩ := box5 (HE.out.nth 0 rfl)
    obtain ⟨c0, c1', c2'⟩ := cells3 (HE.out.nth 1 rfl)
    go_wp2_with (first
      | (go_at_call 33; ((with_reducible refine (HOK.out _ HE.out.gr).mono ?_); rintro e w1 ⟨rfl, hg⟩; have HE1 := Lib.hid (HE.out.on hg); obtain ⟨z0, z1, z2, z3, z4⟩ := box5 (HE1.out.nth 0 rfl); obtain ⟨y0, y1, y2⟩ := cells3 (HE1.out.nth 1 rfl); clear hg))
      | (go_at_call 15; ((with_reducible refine (HBO.out _).mono ?_); rintro e w2 ⟨rfl, hg⟩; have HE1 := Lib.hid (HE1.out.on hg); obtain ⟨z0, z1, z2, z3, z4⟩ := box5 (HE1.out.nth 0 rfl); clear hg))
      | (go_at_call 34; ((with_reducible refine (HCP.out _ HE1.out.gr).mono ?_); rintro e w2 ⟨q1, d1, q2, d2, q3, d3, q4, d4, rfl, ho, hg⟩; have HE2 := Lib.hid (State.Held.state HE1.out hg ho); obtain ⟨r0, r1, r2, r3, r4⟩ := box5 (HE2.out.nth 2 rfl); obtain ⟨f0, f1, f2, f3, f4⟩ := free5 (HE2.out.nth 2 rfl); obtain ⟨x0, x1, x2, x3⟩ := cells4 (HE2.out.nth 3 rfl); obtain ⟨e0, e1, e2, e3⟩ := frees4 (HE2.out.nth 3 rfl); clear ho hg)))
    have he := (HE2.out.put5 2 rfl (.int .i64 R) (.slice q1 n1 d1) (.slice q2 n2 d2) (.slice q3 n3 d3) (.slice q4 n4 d4)).put4 3 rfl (.int .i64 0) (.int .i64 0) (.int .i64 0) (.int .i64 0)
    exact bodyPost_ret_by (results_two_rows (fn := Try.f12) rfl _ _ (w.heap.size + 2) (w.heap.size + 3) _ _ _ _ (0, 0) (0, 0) _ _ rfl rfl (he.nth 2 rfl) (he.nth 3 rfl) Try.underlying29 rfl (by kernel_rfl) Try.underlying35 rfl (by kernel_rfl)) rfl ⟨q1, d1, q2, d2, q3, d3, q4, d4, rfl, Held.stateOwn he 4 rfl, he.gr⟩
  | true =>
  cases hb : bordB i s o with
  | false =>
    have hp : apB R xs ms ts bs i s o = false := by unfold apB; rw [hs, hb]; rfl
    unfold apM apT apL0 apL1 apL2 apL3
    rw [hp]
    rw [hs] at HOK
    rw [hb] at HBO
    simp only [Bool.false_eq_true, if_false]
    clear h h1 h2 h3 h4 hs hp hb
    go_enter Try.func12, Try.ntmps12
    go_upto_region 1 with fail
    generalize (((w.alloc (.cells #[.int .i64 R, .slice a1 n1 c1, .slice a2 n2 c2, .slice a3 n3 c3, .slice a4 n4 c4] 29)).alloc (.cells #[.int .i64 i, .int .i64 s, .int .i64 o] 32)).alloc (.cells #[.int .i64 0, .slice none 0 0, .slice none 0 0, .slice none 0 0, .slice none 0 0] 29)).alloc (.cells #[.int .i64 0, .int .i64 0, .int .i64 0, .int .i64 0] 35) = W0 at *
    obtain ⟨p0, p1, p2, p3, p4⟩ := box5 (HE.out.nth 0 rfl)
    obtain ⟨c0, c1', c2'⟩ := cells3 (HE.out.nth 1 rfl)
    go_wp2_with (first
      | (go_at_call 33; ((with_reducible refine (HOK.out _ HE.out.gr).mono ?_); rintro e w1 ⟨rfl, hg⟩; have HE1 := Lib.hid (HE.out.on hg); obtain ⟨z0, z1, z2, z3, z4⟩ := box5 (HE1.out.nth 0 rfl); obtain ⟨y0, y1, y2⟩ := cells3 (HE1.out.nth 1 rfl); clear hg))
      | (go_at_call 15; ((with_reducible refine (HBO.out _).mono ?_); rintro e w2 ⟨rfl, hg⟩; have HE1 := Lib.hid (HE1.out.on hg); obtain ⟨z0, z1, z2, z3, z4⟩ := box5 (HE1.out.nth 0 rfl); clear hg))
      | (go_at_call 34; ((with_reducible refine (HCP.out _ HE1.out.gr).mono ?_); rintro e w2 ⟨q1, d1, q2, d2, q3, d3, q4, d4, rfl, ho, hg⟩; have HE2 := Lib.hid (State.Held.state HE1.out hg ho); obtain ⟨r0, r1, r2, r3, r4⟩ := box5 (HE2.out.nth 2 rfl); obtain ⟨f0, f1, f2, f3, f4⟩ := free5 (HE2.out.nth 2 rfl); obtain ⟨x0, x1, x2, x3⟩ := cells4 (HE2.out.nth 3 rfl); obtain ⟨e0, e1, e2, e3⟩ := frees4 (HE2.out.nth 3 rfl); clear ho hg)))
    have he := (HE2.out.put5 2 rfl (.int .i64 R) (.slice q1 n1 d1) (.slice q2 n2 d2) (.slice q3 n3 d3) (.slice q4 n4 d4)).put4 3 rfl (.int .i64 0) (.int .i64 0) (.int .i64 0) (.int .i64 0)
    exact bodyPost_ret_by (results_two_rows (fn := Try.f12) rfl _ _ (w.heap.size + 2) (w.heap.size + 3) _ _ _ _ (0, 0) (0, 0) _ _ rfl rfl (he.nth 2 rfl) (he.nth 3 rfl) Try.underlying29 rfl (by kernel_rfl) Try.underlying35 rfl (by kernel_rfl)) rfl ⟨q1, d1, q2, d2, q3, d3, q4, d4, rfl, Held.stateOwn he 4 rfl, he.gr⟩
  | true =>
    have hp : apB R xs ms ts bs i s o = true := by unfold apB; rw [hs, hb]; rfl
    rw [show apM R xs ms ts bs i s o = moreM ms i o from if_pos hp, show apT R xs ms ts bs i s o = moreT ms ts i s o from if_pos hp, show apL0 R xs ms ts bs i s o = inM ms i o from if_pos hp, show apL1 R xs ms ts bs i s o = outM ms o from if_pos hp, show apL2 R xs ms ts bs i s o = inT ms i s o from if_pos hp, show apL3 R xs ms ts bs i s o = outT ms ts o from if_pos hp]
    rw [hs] at HOK
    rw [hb] at HBO
    obtain ⟨z1, z2, z3, -⟩ := st_sizes hs
    have hn2 := h.m.len
    have hn3 := h.t.len
    obtain ⟨K, hK⟩ : ∃ K, K = ms.length - 1 := ⟨_, rfl⟩
    have hKn : n2 = K + 1 := by omega
    obtain ⟨⟨u0, u1⟩, ⟨u2, u3, u4⟩, u5, u6⟩ := out_facts hs hb
    obtain ⟨s1, s2, s3, s4, s5⟩ := st_at hs (k := K) (by omega)
    obtain ⟨⟨v1, v2, v3⟩, ⟨v4, v5⟩, v6, v7⟩ := first_at hs hb
    rw [← hK] at u1 u3 u4 u5 u6
    have hx := at_get (xs := ms) (k := K) (by omega)
    have hy := at_get (xs := ts) (k := K) (by omega)
    obtain ⟨i0, i1, -⟩ := of_decide_eq_true hb
    have hLM : ms.set K (atI ms K + -outM ms o) = lessM ms o := by unfold lessM; rw [← hK, Int.sub_eq_add_neg]
    have hLT : ts.set K (atI ts K + -outT ms ts o) = lessT ms ts o := by unfold lessT; rw [← hK, Int.sub_eq_add_neg]
    have hT : shareOf (atI ts K) (outM ms o) (atI ms K) = outT ms ts o := by unfold outT; rw [← hK]
    have hO : atI ms K * o / 1000 = outM ms o := by unfold outM; rw [← hK]
    have hll := less_len (ms := ms) (ts := ts) (o := o)
    have hx' := at_get (xs := lessM ms o) (k := 0) (by omega)
    have hy' := at_get (xs := lessT ms ts o) (k := 0) (by omega)
    have HMB := Lib.hid (fun x (hx : x ∈ lessM ms o) => mass_bounds (stOk_parts (less_ok hs hb)).2.2.1 (stOk_parts (less_ok hs hb)).2.1.2.1 hx)
    have HDF := Lib.hid (show ∀ u, Calls Try.prog 37 #[.int .i64 (atI ms K * o), .int .i64 1000] u fun e w' => e = .returned (.int .i64 (outM ms o)) ∧ u.grownBy w' none from fun u => by
      have q := Draw.floor_is (atI ms K * o) 1000 (by omega) (by omega) u
      rw [if_neg (by decide), hO] at q
      exact q)
    have HMO : inM ms i o = (if roomB ms i o = true then i else 0) := rfl
    have HTO : inT ms i s o = (if roomB ms i o = true then i * s else 0) := rfl
    have HMM : moreM ms i o = (if roomB ms i o = true then (lessM ms o).set 0 (atI (lessM ms o) 0 + i) else lessM ms o) := rfl
    have HMT : moreT ms ts i s o = (if roomB ms i o = true then (lessT ms ts o).set 0 (atI (lessT ms ts o) 0 + i * s) else lessT ms ts o) := rfl
    have HRB : roomB ms i o = decide ((lessM ms o).sum + i ≤ 10000000) := rfl
    have hw1 : IntKind.i64.wrap (atI ms K * o) = atI ms K * o := IntWalk.i64_in _ (by omega)
    have hw2 : IntKind.i64.wrap (i * s) = i * s := IntWalk.i64_in _ (by omega)
    obtain ⟨g2, o2, rfl, d2'⟩ := h.m.at_ K _ hx
    have HCL := Lib.hid (fun u (hu : w.grownBy u none) => hu.cell d2' (by simp))
    have HOB := Lib.hid (show ∀ u, w.grownBy u none → Calls Try.prog 35 #[.agg #[.int .i64 R, .slice a1 n1 c1, .slice (some ⟨g2, o2, none⟩) n2 c2, .slice a3 n3 c3, .slice a4 n4 c4]] u _ from fun u hu => openBooks_is R a1 _ a3 a4 n1 n2 n3 n4 c1 c2 c3 c4 xs ms ts bs u (h.on hu) h1 h2 h3 h4)
    generalize outM ms o = m at *
    generalize outT ms ts o = T at *
    generalize lessM ms o = ms' at *
    generalize lessT ms ts o = ts' at *
    generalize inM ms i o = l0 at *
    generalize inT ms i s o = l2 at *
    generalize moreM ms i o = mm at *
    generalize moreT ms ts i s o = mt at *
    generalize atI ms K = x at *
    generalize atI ts K = y at *
    generalize atI ms' 0 = x' at *
    generalize atI ts' 0 = y' at *
    generalize roomB ms i o = rb at *
    have HX := Lib.hid (And.intro hx hy)
    have HX2 := Lib.hid (And.intro hx' hy')
    have H2 := Lib.hid h2
    have HLL := Lib.hid (And.intro hLM hLT)
    have HTT := Lib.hid hT
    have hni : (n2 : Int) - 1 = K := by omega
    have hni0 : 1 ≤ (n2 : Int) := by omega
    have hni1 : (n2 : Int) ≤ 1048576 := by omega
    have HK3 := Lib.hid (show K < n2 ∧ K < n3 ∧ 0 < n2 ∧ 0 < n3 by omega)
    have HB1 := Lib.hid (show (0 ≤ m ∧ m ≤ 10000000) ∧ (0 ≤ T ∧ T ≤ 10000000000) ∧ (0 ≤ x ∧ x ≤ 10000000) ∧ (0 ≤ y ∧ y ≤ 10000000000) by omega)
    have HB2 := Lib.hid (show (0 ≤ i ∧ i ≤ 10000) ∧ (0 ≤ i * s ∧ i * s ≤ 10000000000) ∧ (0 ≤ x' ∧ x' ≤ 10000000) ∧ (0 ≤ y' ∧ y' ≤ 10000000000) by omega)
    have HR := Lib.hid (And.intro HMO (And.intro HTO (And.intro HMM (And.intro HMT HRB))))
    clear h h1 h2 h3 h4 hs hb hp z1 z2 z3 hn2 hn3 hK hKn u0 u1 u2 u3 u4 u5 u6 s1 s2 s3 s4 s5 v1 v2 v3 v4 v5 v6 v7 hx hy i0 i1 hLM hLT hT hO hll hx' hy' HMO HTO HMM HMT HRB d2'
    go_enter Try.func12, Try.ntmps12
    go_upto_region 1 with fail
    generalize (((w.alloc (.cells #[.int .i64 R, .slice a1 n1 c1, .slice (some ⟨g2, o2, none⟩) n2 c2, .slice a3 n3 c3, .slice a4 n4 c4] 29)).alloc (.cells #[.int .i64 i, .int .i64 s, .int .i64 o] 32)).alloc (.cells #[.int .i64 0, .slice none 0 0, .slice none 0 0, .slice none 0 0, .slice none 0 0] 29)).alloc (.cells #[.int .i64 0, .int .i64 0, .int .i64 0, .int .i64 0] 35) = W0 at *
    obtain ⟨p0, p1, p2, p3, p4⟩ := box5 (HE.out.nth 0 rfl)
    obtain ⟨c0, c1', c2'⟩ := cells3 (HE.out.nth 1 rfl)
    go_upto_region 3 with (first
      | (go_at_call 33; ((with_reducible refine (HOK.out _ HE.out.gr).mono ?_); rintro e w1 ⟨rfl, hg⟩; have HE1 := Lib.hid (HE.out.on hg); obtain ⟨y0, y1, y2⟩ := cells3 (HE1.out.nth 1 rfl); clear hg))
      | (go_at_call 15; ((with_reducible refine (HBO.out _).mono ?_); rintro e w2 ⟨rfl, hg⟩; have HE2 := Lib.hid (HE1.out.on hg); clear hg)))
    clear p0 p1 p2 p3 p4 c0 c1' c2' y0 y1 y2 HE HE1 HOK HBO HCP
    obtain ⟨p0, p1, p2, p3, p4⟩ := box5 (HE2.out.nth 0 rfl)
    go_upto_region 4 with (go_at_call 35; ((with_reducible refine (HOB.out _ HE2.out.gr).mono ?_); rintro e w3 ⟨B, q1, d1, q2, d2, q3, d3, q4, d4, rfl, hh⟩; have HE3 := Lib.hid (HE2.out.app hh); clear hh))
    obtain ⟨k2, y2, rfl, -, -, -⟩ := own_cellI (OwnS.m (HE3.out.nth 4 rfl)) HK3.out.1
    obtain ⟨k3, y3, rfl, -, -, -⟩ := own_cellI (OwnS.t (HE3.out.nth 4 rfl)) HK3.out.2.1
    clear p0 p1 p2 p3 p4 HE2 HOB
    obtain ⟨p0, p1, p2, p3, p4⟩ := box5 (HE3.out.nth 0 rfl)
    go_upto_region 5 with fail
    skip
    have hcl := HCL.out _ HE3.out.gr
    obtain ⟨c0, c1', c2'⟩ := cells3 (HE3.out.nth 1 rfl)
    have hKi : (K : Int) < n2 := by have := HK3.out.1; omega
    have HTK := Lib.hid (show ∀ u, Held w u [boxG w.heap.size 29 #[.int .i64 R, .slice a1 n1 c1, .slice (some ⟨g2, o2, none⟩) n2 c2, .slice a3 n3 c3, .slice a4 n4 c4], boxG (w.heap.size + 1) 32 #[.int .i64 i, .int .i64 s, .int .i64 o], boxG (w.heap.size + 2) 29 #[.int .i64 0, .slice none 0 0, .slice none 0 0, .slice none 0 0, .slice none 0 0], boxG (w.heap.size + 3) 35 #[.int .i64 0, .int .i64 0, .int .i64 0, .int .i64 0], stateG (.slice q1 n1 d1) (.slice (some ⟨k2, 0, none⟩) n2 d2) (.slice (some ⟨k3, 0, none⟩) n3 d3) (.slice q4 n4 d4) n1 n2 n3 n4 xs ms ts bs, boxG B 73 #[.int .i64 R, .slice q1 n1 d1, .slice (some ⟨k2, 0, none⟩) n2 d2, .slice (some ⟨k3, 0, none⟩) n3 d3, .slice q4 n4 d4, .int .i64 0, .int .i64 0, .int .i64 0, .int .i64 0]] → Calls Try.prog 36 #[.pointer (some ⟨B, 0, none⟩), .int .i64 (K : Int), .int .i64 m] u fun e u' => e = .returned (.tuple #[]) ∧ Held w u' [boxG w.heap.size 29 #[.int .i64 R, .slice a1 n1 c1, .slice (some ⟨g2, o2, none⟩) n2 c2, .slice a3 n3 c3, .slice a4 n4 c4], boxG (w.heap.size + 1) 32 #[.int .i64 i, .int .i64 s, .int .i64 o], boxG (w.heap.size + 2) 29 #[.int .i64 0, .slice none 0 0, .slice none 0 0, .slice none 0 0, .slice none 0 0], boxG (w.heap.size + 3) 35 #[.int .i64 0, .int .i64 0, .int .i64 0, .int .i64 0], stateG (.slice q1 n1 d1) (.slice (some ⟨k2, 0, none⟩) n2 d2) (.slice (some ⟨k3, 0, none⟩) n3 d3) (.slice q4 n4 d4) n1 n2 n3 n4 xs ms' ts' bs, boxG B 73 #[.int .i64 R, .slice q1 n1 d1, .slice (some ⟨k2, 0, none⟩) n2 d2, .slice (some ⟨k3, 0, none⟩) n3 d3, .slice q4 n4 d4, .int .i64 0, .int .i64 m, .int .i64 0, .int .i64 T]] from fun u hu => by
      have q := take_is R q1 q4 k2 k3 n1 n2 n3 n4 d1 d2 d3 d4 B 5 4 K xs ms ts bs m T x y 0 0 0 0 hu rfl rfl (by decide) HX.out.1 HX.out.2 HTT.out HB1.out.1 HB1.out.2.1 HB1.out.2.2.1 HB1.out.2.2.2 (by decide) (by decide)
      rw [HLL.out.1, HLL.out.2, Int.zero_add, Int.zero_add] at q
      exact q)
    go_cut [] from 25 to 36 (fun wx => Hid (Held w wx [boxG w.heap.size 29 #[.int .i64 R, .slice a1 n1 c1, .slice (some ⟨g2, o2, none⟩) n2 c2, .slice a3 n3 c3, .slice a4 n4 c4], boxG (w.heap.size + 1) 32 #[.int .i64 i, .int .i64 s, .int .i64 o], boxG (w.heap.size + 2) 29 #[.int .i64 0, .slice none 0 0, .slice none 0 0, .slice none 0 0, .slice none 0 0], boxG (w.heap.size + 3) 35 #[.int .i64 0, .int .i64 0, .int .i64 0, .int .i64 0], stateG (.slice q1 n1 d1) (.slice (some ⟨k2, 0, none⟩) n2 d2) (.slice (some ⟨k3, 0, none⟩) n3 d3) (.slice q4 n4 d4) n1 n2 n3 n4 xs ms' ts' bs, boxG B 73 #[.int .i64 R, .slice q1 n1 d1, .slice (some ⟨k2, 0, none⟩) n2 d2, .slice (some ⟨k3, 0, none⟩) n3 d3, .slice q4 n4 d4, .int .i64 0, .int .i64 m, .int .i64 0, .int .i64 T]]))
    case first =>
      go_region_with (first
        | (go_at_call 37; ((with_reducible refine (HDF.out _).mono ?_); rintro e w4 ⟨rfl, hg⟩; have HE4 := Lib.hid (HE3.out.on (Cell.grown_trans (Mesh.gr_drew (Cell.grown_refl _)) hg)); clear hg))
        | (go_at_call 36; ((with_reducible refine (HTK.out _ HE4.out).mono ?_); rintro e w5 ⟨rfl, hh⟩; have HE5 := Lib.hid hh; clear hh)))
      all_goals
        go_wp2_with fail
        go_meet
        exact HE5
    case rest =>
    have HE6 := Lib.hid hcut.out
    clear hcut HE3 HTK HDF hcl HCL p0 p1 p2 p3 p4 c0 c1' c2' hw1 HX HTT HLL
    obtain ⟨c0, c1', c2'⟩ := cells3 (HE6.out.nth 1 rfl)
    have HHR := Lib.hid (hasRoom_is R q1 q4 k2 k3 n1 n2 n3 n4 d1 d2 d3 d4 B 5 4 xs ms' ts' bs i 0 m 0 T HE6.out rfl rfl H2.out HMB.out HB2.out.1)
    rw [← HR.out.2.2.2.2] at HHR
    cases rb with
    | false =>
      obtain ⟨e1, e2, e3, e4, -⟩ := HR.out
      rw [if_neg (by decide)] at e1 e2 e3 e4
      have HEQ := Lib.hid (And.intro e1 e2)
      have HEM := Lib.hid (And.intro e3 e4)
      clear HR e1 e2 e3 e4
      go_upto_region 8 with (go_at_call 38; ((with_reducible refine HHR.out.mono ?_); rintro e w7 ⟨rfl, hg⟩; have HE7 := Lib.hid (HE6.out.on hg); clear hg))
      clear HHR HE6 c0 c1' c2'
      obtain ⟨⟨p0, p1, p2, p3, p4⟩, p5, p6, p7, p8⟩ := cells9 (HE7.out.nth 5 rfl)
      obtain ⟨r0, r1, r2, r3, r4⟩ := box5 (HE7.out.nth 2 rfl)
      obtain ⟨f0, f1, f2, f3, f4⟩ := free5 (HE7.out.nth 2 rfl)
      obtain ⟨x0, x1, x2, x3⟩ := cells4 (HE7.out.nth 3 rfl)
      obtain ⟨e0, e1, e2, e3⟩ := frees4 (HE7.out.nth 3 rfl)
      go_region
      all_goals
        go_wp2_with fail
        have he := ((HE7.out.put5 2 rfl (.int .i64 R) (.slice q1 n1 d1) (.slice (some ⟨k2, 0, none⟩) n2 d2) (.slice (some ⟨k3, 0, none⟩) n3 d3) (.slice q4 n4 d4)).put4 3 rfl (.int .i64 0) (.int .i64 m) (.int .i64 0) (.int .i64 T)).on (Mesh.gr_drew (Cell.grown_refl _))
        exact bodyPost_ret_by (results_two_rows (fn := Try.f12) rfl _ _ (w.heap.size + 2) (w.heap.size + 3) _ _ _ _ (0, 0) (0, 0) _ _ rfl rfl (he.nth 2 rfl) (he.nth 3 rfl) Try.underlying29 rfl (by kernel_rfl) Try.underlying35 rfl (by kernel_rfl)) rfl ⟨q1, d1, some ⟨k2, 0, none⟩, d2, some ⟨k3, 0, none⟩, d3, q4, d4, (by rw [HEQ.out.1, HEQ.out.2]; try rfl), (by rw [HEM.out.1, HEM.out.2]; exact Held.stateOwn he 4 rfl), he.gr⟩
    | true =>
      obtain ⟨e1, e2, e3, e4, -⟩ := HR.out
      rw [if_pos rfl] at e1 e2 e3 e4
      have HGV := Lib.hid (show ∀ u, Held w u [boxG w.heap.size 29 #[.int .i64 R, .slice a1 n1 c1, .slice (some ⟨g2, o2, none⟩) n2 c2, .slice a3 n3 c3, .slice a4 n4 c4], boxG (w.heap.size + 1) 32 #[.int .i64 i, .int .i64 s, .int .i64 o], boxG (w.heap.size + 2) 29 #[.int .i64 0, .slice none 0 0, .slice none 0 0, .slice none 0 0, .slice none 0 0], boxG (w.heap.size + 3) 35 #[.int .i64 0, .int .i64 0, .int .i64 0, .int .i64 0], stateG (.slice q1 n1 d1) (.slice (some ⟨k2, 0, none⟩) n2 d2) (.slice (some ⟨k3, 0, none⟩) n3 d3) (.slice q4 n4 d4) n1 n2 n3 n4 xs ms' ts' bs, boxG B 73 #[.int .i64 R, .slice q1 n1 d1, .slice (some ⟨k2, 0, none⟩) n2 d2, .slice (some ⟨k3, 0, none⟩) n3 d3, .slice q4 n4 d4, .int .i64 0, .int .i64 m, .int .i64 0, .int .i64 T]] → Calls Try.prog 39 #[.pointer (some ⟨B, 0, none⟩), .int .i64 0, .int .i64 i, .int .i64 (i * s)] u fun e u' => e = .returned (.tuple #[]) ∧ Held w u' [boxG w.heap.size 29 #[.int .i64 R, .slice a1 n1 c1, .slice (some ⟨g2, o2, none⟩) n2 c2, .slice a3 n3 c3, .slice a4 n4 c4], boxG (w.heap.size + 1) 32 #[.int .i64 i, .int .i64 s, .int .i64 o], boxG (w.heap.size + 2) 29 #[.int .i64 0, .slice none 0 0, .slice none 0 0, .slice none 0 0, .slice none 0 0], boxG (w.heap.size + 3) 35 #[.int .i64 0, .int .i64 0, .int .i64 0, .int .i64 0], stateG (.slice q1 n1 d1) (.slice (some ⟨k2, 0, none⟩) n2 d2) (.slice (some ⟨k3, 0, none⟩) n3 d3) (.slice q4 n4 d4) n1 n2 n3 n4 xs mm mt bs, boxG B 73 #[.int .i64 R, .slice q1 n1 d1, .slice (some ⟨k2, 0, none⟩) n2 d2, .slice (some ⟨k3, 0, none⟩) n3 d3, .slice q4 n4 d4, .int .i64 i, .int .i64 m, .int .i64 (i * s), .int .i64 T]] from fun u hu => by
        have q := give_is R q1 q4 k2 k3 n1 n2 n3 n4 d1 d2 d3 d4 B 5 4 0 xs ms' ts' bs i (i * s) x' y' 0 m 0 T hu rfl rfl (by decide) HX2.out.1 HX2.out.2 ⟨HB2.out.1.1, by have := HB2.out.1.2; omega⟩ HB2.out.2.1 HB2.out.2.2.1 HB2.out.2.2.2 (by decide) (by decide)
        rw [← e3, ← e4, Int.zero_add, Int.zero_add] at q
        exact q)
      have HEQ := Lib.hid (And.intro e1 e2)
      clear HR e1 e2 e3 e4
      go_upto_region 7 with (go_at_call 38; ((with_reducible refine HHR.out.mono ?_); rintro e w7 ⟨rfl, hg⟩; have HE7' := Lib.hid (HE6.out.on hg); clear hg))
      clear HHR HE6 c0 c1' c2'
      obtain ⟨c0, c1', c2'⟩ := cells3 (HE7'.out.nth 1 rfl)
      go_upto_region 8 with (go_at_call 39; ((with_reducible refine (HGV.out _ HE7'.out).mono ?_); rintro e w8 ⟨rfl, hh⟩; have HE7 := Lib.hid hh; clear hh))
      clear HGV HE7' c0 c1' c2'
      obtain ⟨⟨p0, p1, p2, p3, p4⟩, p5, p6, p7, p8⟩ := cells9 (HE7.out.nth 5 rfl)
      obtain ⟨r0, r1, r2, r3, r4⟩ := box5 (HE7.out.nth 2 rfl)
      obtain ⟨f0, f1, f2, f3, f4⟩ := free5 (HE7.out.nth 2 rfl)
      obtain ⟨x0, x1, x2, x3⟩ := cells4 (HE7.out.nth 3 rfl)
      obtain ⟨e0, e1, e2, e3⟩ := frees4 (HE7.out.nth 3 rfl)
      go_region
      all_goals
        go_wp2_with fail
        have he := ((HE7.out.put5 2 rfl (.int .i64 R) (.slice q1 n1 d1) (.slice (some ⟨k2, 0, none⟩) n2 d2) (.slice (some ⟨k3, 0, none⟩) n3 d3) (.slice q4 n4 d4)).put4 3 rfl (.int .i64 i) (.int .i64 m) (.int .i64 (i * s)) (.int .i64 T)).on (Mesh.gr_drew (Cell.grown_refl _))
        exact bodyPost_ret_by (results_two_rows (fn := Try.f12) rfl _ _ (w.heap.size + 2) (w.heap.size + 3) _ _ _ _ (0, 0) (0, 0) _ _ rfl rfl (he.nth 2 rfl) (he.nth 3 rfl) Try.underlying29 rfl (by kernel_rfl) Try.underlying35 rfl (by kernel_rfl)) rfl ⟨q1, d1, some ⟨k2, 0, none⟩, d2, some ⟨k3, 0, none⟩, d3, q4, d4, (by rw [HEQ.out.1, HEQ.out.2]; try rfl), (by exact Held.stateOwn he 4 rfl), he.gr⟩
end Go.Proofs.Ytngacnckejnllaa.State
