/- States: PutCell of the reference model, as a contract.
   Conditions: at most 2^20 leaves and numbers. -/
import Derived.Test.YtcdkhapepabpkaaStCopy
import Derived.Test.YtcdkhapepabpkaaStOkS
set_option maxRecDepth 100000
namespace Go.Proofs.Ytcdkhapepabpkaa.State
open Go.ChangeShapes Go.WideShapes Go.ChangeAt Go.RowKit Go.Joins Go.Proofs.Ytcdkhapepabpkaa.Cell Go.Proofs.Ytcdkhapepabpkaa.Mesh Go.Proofs.Ytcdkhapepabpkaa.Law Go.Proofs.Ytcdkhapepabpkaa.Ints Go.Deep

theorem Held.stateOwn {w W : World} {gs : List Grp} {v1 v2 v3 v4 : Value} {n1 n2 n3 n4 : Nat} {xs : List C3} {ms ts bs : List Int} (h : Held w W gs) (k : Nat) (hk : gs[k]? = some (stateG v1 v2 v3 v4 n1 n2 n3 n4 xs ms ts bs)) : OwnS W w.heap.size v1 v2 v3 v4 n1 n2 n3 n4 xs ms ts bs := by
  have ho : OwnS W 0 v1 v2 v3 v4 n1 n2 n3 n4 xs ms ts bs := h.nth k hk
  have hl : ∀ b ∈ v1.ownBlock.toList ++ (v2.ownBlock.toList ++ (v3.ownBlock.toList ++ v4.ownBlock.toList)), w.heap.size ≤ b := fun b hb => (h.lo _ (List.mem_of_getElem? hk) b hb).1
  exact ⟨rowG_own ho.l (fun b hb => hl b (List.mem_append_left _ hb)), rowG_own ho.m (fun b hb => hl b (List.mem_append_right _ (List.mem_append_left _ hb))), rowG_own ho.t (fun b hb => hl b (List.mem_append_right _ (List.mem_append_right _ (List.mem_append_left _ hb)))),
    rowG_own ho.b (fun b hb => hl b (List.mem_append_right _ (List.mem_append_right _ (List.mem_append_right _ hb)))), ho.lm, ho.lt, ho.lb, ho.mt, ho.mb, ho.tb⟩
theorem vals_set (xs : List Int) (j : Nat) (x : Int) : vals (xs.set j x) = (vals xs).set j (.int .i64 x) := by simp [vals, List.map_set]
/-- A mass, a tracer stored. -/
theorem Held.setMass {w W : World} {gs : List Grp} {v1 v3 v4 : Value} {g n1 n2 n3 n4 c : Nat} {xs : List C3} {ms ts bs : List Int} (h : Held w W gs) (k : Nat) (hk : gs[k]? = some (stateG v1 (.slice (some ⟨g, 0, none⟩) n2 c) v3 v4 n1 n2 n3 n4 xs ms ts bs)) (j : Nat) (x : Int) :
    Held w (W.setCell ⟨g, j, none⟩ (.int .i64 x)) (gs.set k (stateG v1 (.slice (some ⟨g, 0, none⟩) n2 c) v3 v4 n1 n2 n3 n4 xs (ms.set j x) ts bs)) := by
  have ho : OwnS W 0 v1 (.slice (some ⟨g, 0, none⟩) n2 c) v3 v4 n1 n2 n3 n4 xs ms ts bs := h.nth k hk
  have hs := ho.m.stored j (.int .i64 x)
  rw [← vals_set] at hs
  exact h.turn k hk (turnedM (v2 := .slice (some ⟨g, 0, none⟩) n2 c) hs.2) rfl (ho.markM hs.2 hs.1)
theorem Held.setTracer {w W : World} {gs : List Grp} {v1 v2 v4 : Value} {g n1 n2 n3 n4 c : Nat} {xs : List C3} {ms ts bs : List Int} (h : Held w W gs) (k : Nat) (hk : gs[k]? = some (stateG v1 v2 (.slice (some ⟨g, 0, none⟩) n3 c) v4 n1 n2 n3 n4 xs ms ts bs)) (j : Nat) (x : Int) :
    Held w (W.setCell ⟨g, j, none⟩ (.int .i64 x)) (gs.set k (stateG v1 v2 (.slice (some ⟨g, 0, none⟩) n3 c) v4 n1 n2 n3 n4 xs ms (ts.set j x) bs)) := by
  have ho : OwnS W 0 v1 v2 (.slice (some ⟨g, 0, none⟩) n3 c) v4 n1 n2 n3 n4 xs ms ts bs := h.nth k hk
  have hs := ho.t.stored j (.int .i64 x)
  rw [← vals_set] at hs
  exact h.turn k hk (turnedT (v3 := .slice (some ⟨g, 0, none⟩) n3 c) hs.2) rfl (ho.markT hs.2 hs.1)
/-- A row of ints that is not empty: its block, a cell of it. -/
theorem own_cellI {w : World} {base n cap : Nat} {a : Option Addr} {xs : List Int} (h : w.ownsRow base 3 1 (.slice a n cap) n (vals xs)) {j : Nat} (hj : j < n) :
    ∃ g x, a = some ⟨g, 0, none⟩ ∧ xs[j]? = some x ∧ w.cell? ⟨g, j, none⟩ = some (.int .i64 x) ∧ w.frozen? ⟨g, j, none⟩ = false := by
  obtain ⟨g, rfl, hc, hf⟩ := own_atI h (by omega)
  have hl : xs.length = n := by have := h.1; rw [vals_len] at this; omega
  obtain ⟨x, hx⟩ := getI hl hj
  exact ⟨g, x, rfl, hx, by rw [hc j hj, vals_at hx], hf j⟩

/-- Whether a mass and a tracer can be put into leaf i; what the lists are then. -/
def putB (R : Int) (xs : List C3) (ms ts bs : List Int) (i m t : Int) : Bool := stOk R xs ms ts bs && (decide (0 ≤ i ∧ i ≤ (ms.length : Int) - 1) && stOk R xs (ms.set i.toNat m) (ts.set i.toNat t) bs)
def putM (R : Int) (xs : List C3) (ms ts bs : List Int) (i m t : Int) : List Int := if putB R xs ms ts bs i m t = true then ms.set i.toNat m else ms
def putT (R : Int) (xs : List C3) (ms ts bs : List Int) (i m t : Int) : List Int := if putB R xs ms ts bs i m t = true then ts.set i.toNat t else ts

set_option maxHeartbeats 16000000 in
theorem specPutCell_is (R : Int) (g1 g2 g3 g4 n1 n2 n3 n4 c1 c2 c3 c4 : Nat) (xs : List C3) (ms ts bs : List Int) (i m t : Int) (w : World) (h : ReadsS w (some ⟨g1, 0, none⟩) (some ⟨g2, 0, none⟩) (some ⟨g3, 0, none⟩) (some ⟨g4, 0, none⟩) n1 n2 n3 n4 xs ms ts bs) (h1 : n1 ≤ 1048576) (h2 : n2 ≤ 1048576) (h3 : n3 ≤ 1048576) (h4 : n4 ≤ 1048576) :
    Calls Try.prog 35 #[.agg #[.int .i64 R, .slice (some ⟨g1, 0, none⟩) n1 c1, .slice (some ⟨g2, 0, none⟩) n2 c2, .slice (some ⟨g3, 0, none⟩) n3 c3, .slice (some ⟨g4, 0, none⟩) n4 c4], .int .i64 i, .int .i64 m, .int .i64 t] w (GivesSB (putB R xs ms ts bs i m t) R n1 n2 n3 n4 xs (putM R xs ms ts bs i m t) (putT R xs ms ts bs i m t) bs w) := by
  have hok : ∀ u, w.grownBy u none → Calls Try.prog 20 #[.agg #[.int .i64 R, .slice (some ⟨g1, 0, none⟩) n1 c1, .slice (some ⟨g2, 0, none⟩) n2 c2, .slice (some ⟨g3, 0, none⟩) n3 c3, .slice (some ⟨g4, 0, none⟩) n4 c4]] u fun e w' => e = .returned (.bool (stOk R xs ms ts bs)) ∧ u.grownBy w' none := fun u hu => specStateOk_is R _ _ _ _ n1 n2 n3 n4 c1 c2 c3 c4 xs ms ts bs u (h.on hu) h1 h2 h3 h4
  have hcp : ∀ u, w.grownBy u none → Calls Try.prog 61 #[.agg #[.int .i64 R, .slice (some ⟨g1, 0, none⟩) n1 c1, .slice (some ⟨g2, 0, none⟩) n2 c2, .slice (some ⟨g3, 0, none⟩) n3 c3, .slice (some ⟨g4, 0, none⟩) n4 c4]] u (GivesS R n1 n2 n3 n4 xs ms ts bs u) := fun u hu => specStCopy_is R g1 g2 g3 g4 n1 n2 n3 n4 c1 c2 c3 c4 xs ms ts bs u (h.on hu) h1 h2 h3 h4
  have he := ((Held.nil w).box 31 #[.int .i64 R, .slice (some ⟨g1, 0, none⟩) n1 c1, .slice (some ⟨g2, 0, none⟩) n2 c2, .slice (some ⟨g3, 0, none⟩) n3 c3, .slice (some ⟨g4, 0, none⟩) n4 c4]).box 31 #[.int .i64 0, .slice none 0 0, .slice none 0 0, .slice none 0 0, .slice none 0 0]
  simp only [World.size_alloc] at he
  have HE := Lib.hid he; have HOK := Lib.hid hok; have HCP := Lib.hid hcp
  have i2 : (n2 : Int) ≤ 1048576 := by omega
  have H1 := Lib.hid h1; have H2 := Lib.hid h2; have H3 := Lib.hid h3; have H4 := Lib.hid h4
  have L2 := Lib.hid h.m.len; have L3 := Lib.hid h.t.len
  clear he hok hcp h h1 h2 h3 h4
  cases hs : stOk R xs ms ts bs with
  | false =>
    have hp : putB R xs ms ts bs i m t = false := by simp [putB, hs]
    rw [show putM R xs ms ts bs i m t = ms by simp [putM, hp], show putT R xs ms ts bs i m t = ts by simp [putT, hp], hp]
    rw [hs] at HOK
    clear hs hp
    go_enter Try.func35, Try.ntmps35
    go_upto_region 1 with fail
    generalize (w.alloc (.cells #[.int .i64 R, .slice (some ⟨g1, 0, none⟩) n1 c1, .slice (some ⟨g2, 0, none⟩) n2 c2, .slice (some ⟨g3, 0, none⟩) n3 c3, .slice (some ⟨g4, 0, none⟩) n4 c4] 31)).alloc (.cells #[.int .i64 0, .slice none 0 0, .slice none 0 0, .slice none 0 0, .slice none 0 0] 31) = W0 at *
    obtain ⟨p0, p1, p2, p3, p4⟩ := box5 (HE.out.nth 0 rfl)
    go_upto_region 2 with (go_at_call 61; ((with_reducible refine (HCP.out _ HE.out.gr).mono ?_); rintro e w1 ⟨q1, d1, q2, d2, q3, d3, q4, d4, rfl, ho, hg⟩; have HE1 := Lib.hid (State.Held.state HE.out hg ho); clear ho hg))
    clear p0 p1 p2 p3 p4 HE
    have HE2 := Lib.hid (HE1.out.box 31 #[.int .i64 R, .slice q1 n1 d1, .slice q2 n2 d2, .slice q3 n3 d3, .slice q4 n4 d4]); clear HE1
    obtain ⟨B2, hB2⟩ : ∃ B, B = w1.heap.size := ⟨_, rfl⟩
    rw [← hB2] at HE2 ⊢
    clear hB2
    generalize w1.alloc (.cells #[.int .i64 R, .slice q1 n1 d1, .slice q2 n2 d2, .slice q3 n3 d3, .slice q4 n4 d4] 31) = W2 at *
    obtain ⟨p0, p1, p2, p3, p4⟩ := box5 (HE2.out.nth 0 rfl)
    go_wp2_with (go_at_call 20; ((with_reducible refine (HOK.out _ HE2.out.gr).mono ?_); rintro e w3 ⟨rfl, hg⟩; have HE3 := Lib.hid (HE2.out.on hg); obtain ⟨o0, o1, o2, o3, o4⟩ := box5 (HE3.out.nth 3 rfl); obtain ⟨r0, r1, r2, r3, r4⟩ := box5 (HE3.out.nth 1 rfl); obtain ⟨f0, f1, f2, f3, f4⟩ := free5 (HE3.out.nth 1 rfl); obtain ⟨p0, p1, p2, p3, p4⟩ := box5 (HE3.out.nth 0 rfl); clear hg))
    have he := HE3.out.put5 1 rfl (.int .i64 R) (.slice q1 n1 d1) (.slice q2 n2 d2) (.slice q3 n3 d3) (.slice q4 n4 d4)
    exact bodyPost_ret_by (results_row_tmp rfl _ _ (w.heap.size + 1) _ _ (0, 0) _ rfl (he.nth 1 rfl) Try.underlying31 rfl (by kernel_rfl)) rfl ⟨q1, d1, q2, d2, q3, d3, q4, d4, rfl, Held.stateOwn he 2 rfl, he.gr⟩
  | true =>
    rw [hs] at HOK
    have hl : ts.length = ms.length := (stOk_parts hs).2.1.2.1
    by_cases hi : 0 ≤ i ∧ i ≤ (n2 : Int) - 1
    case neg =>
      have hp : putB R xs ms ts bs i m t = false := by
        unfold putB
        rw [decide_eq_false (by rw [L2.out]; exact hi)]
        simp
      rw [show putM R xs ms ts bs i m t = ms by simp [putM, hp], show putT R xs ms ts bs i m t = ts by simp [putT, hp], hp]
      have hd : decide (0 ≤ i ∧ i ≤ (n2 : Int) - 1) = false := decide_eq_false hi
      clear hs hp hi hl
      go_enter Try.func35, Try.ntmps35
      go_upto_region 1 with fail
      generalize (w.alloc (.cells #[.int .i64 R, .slice (some ⟨g1, 0, none⟩) n1 c1, .slice (some ⟨g2, 0, none⟩) n2 c2, .slice (some ⟨g3, 0, none⟩) n3 c3, .slice (some ⟨g4, 0, none⟩) n4 c4] 31)).alloc (.cells #[.int .i64 0, .slice none 0 0, .slice none 0 0, .slice none 0 0, .slice none 0 0] 31) = W0 at *
      obtain ⟨p0, p1, p2, p3, p4⟩ := box5 (HE.out.nth 0 rfl)
      go_upto_region 2 with (go_at_call 61; ((with_reducible refine (HCP.out _ HE.out.gr).mono ?_); rintro e w1 ⟨q1, d1, q2, d2, q3, d3, q4, d4, rfl, ho, hg⟩; have HE1 := Lib.hid (State.Held.state HE.out hg ho); clear ho hg))
      clear p0 p1 p2 p3 p4 HE
      have HE2 := Lib.hid (HE1.out.box 31 #[.int .i64 R, .slice q1 n1 d1, .slice q2 n2 d2, .slice q3 n3 d3, .slice q4 n4 d4]); clear HE1
      obtain ⟨B2, hB2⟩ : ∃ B, B = w1.heap.size := ⟨_, rfl⟩
      rw [← hB2] at HE2 ⊢
      clear hB2
      generalize w1.alloc (.cells #[.int .i64 R, .slice q1 n1 d1, .slice q2 n2 d2, .slice q3 n3 d3, .slice q4 n4 d4] 31) = W2 at *
      obtain ⟨p0, p1, p2, p3, p4⟩ := box5 (HE2.out.nth 0 rfl)
      go_wp2_with (first | (go_at_call 20; ((with_reducible refine (HOK.out _ HE2.out.gr).mono ?_); rintro e w3 ⟨rfl, hg⟩; have HE3 := Lib.hid (HE2.out.on hg); obtain ⟨o0, o1, o2, o3, o4⟩ := box5 (HE3.out.nth 3 rfl); obtain ⟨r0, r1, r2, r3, r4⟩ := box5 (HE3.out.nth 1 rfl); obtain ⟨f0, f1, f2, f3, f4⟩ := free5 (HE3.out.nth 1 rfl); obtain ⟨p0, p1, p2, p3, p4⟩ := box5 (HE3.out.nth 0 rfl); clear hg)) | (go_at_call 52; (with_reducible refine (in_is i 0 ((n2 : Int) - 1) false hd _).mono ?_); rintro e w' ⟨rfl, rfl⟩))
      have he := HE3.out.put5 1 rfl (.int .i64 R) (.slice q1 n1 d1) (.slice q2 n2 d2) (.slice q3 n3 d3) (.slice q4 n4 d4)
      exact bodyPost_ret_by (results_row_tmp rfl _ _ (w.heap.size + 1) _ _ (0, 0) _ rfl (he.nth 1 rfl) Try.underlying31 rfl (by kernel_rfl)) rfl ⟨q1, d1, q2, d2, q3, d3, q4, d4, rfl, Held.stateOwn he 2 rfl, he.gr⟩
    case pos =>
      have hd : decide (0 ≤ i ∧ i ≤ (n2 : Int) - 1) = true := decide_eq_true hi
      obtain ⟨j, rfl⟩ := Int.eq_ofNat_of_zero_le hi.1
      have HJ := Lib.hid (show j < n2 by omega)
      have hj : (j : Int) < n2 := by omega
      have HL3 := Lib.hid (show n3 = n2 by have := L2.out; have := L3.out; omega)
      have HPB := Lib.hid (show putB R xs ms ts bs (j : Int) m t = stOk R xs (ms.set j m) (ts.set j t) bs by unfold putB; rw [hs, decide_eq_true (by rw [L2.out]; exact hi)]; simp)
      clear hs hi hl
      go_enter Try.func35, Try.ntmps35
      go_upto_region 1 with fail
      generalize (w.alloc (.cells #[.int .i64 R, .slice (some ⟨g1, 0, none⟩) n1 c1, .slice (some ⟨g2, 0, none⟩) n2 c2, .slice (some ⟨g3, 0, none⟩) n3 c3, .slice (some ⟨g4, 0, none⟩) n4 c4] 31)).alloc (.cells #[.int .i64 0, .slice none 0 0, .slice none 0 0, .slice none 0 0, .slice none 0 0] 31) = W0 at *
      obtain ⟨p0, p1, p2, p3, p4⟩ := box5 (HE.out.nth 0 rfl)
      go_upto_region 2 with (go_at_call 61; ((with_reducible refine (HCP.out _ HE.out.gr).mono ?_); rintro e w1 ⟨q1, d1, q2, d2, q3, d3, q4, d4, rfl, ho, hg⟩; have HE1 := Lib.hid (State.Held.state HE.out hg ho); clear ho hg))
      clear p0 p1 p2 p3 p4 HE
      have HE2 := Lib.hid (HE1.out.box 31 #[.int .i64 R, .slice q1 n1 d1, .slice q2 n2 d2, .slice q3 n3 d3, .slice q4 n4 d4]); clear HE1
      obtain ⟨B2, hB2⟩ : ∃ B, B = w1.heap.size := ⟨_, rfl⟩
      rw [← hB2] at HE2 ⊢
      clear hB2
      generalize w1.alloc (.cells #[.int .i64 R, .slice q1 n1 d1, .slice q2 n2 d2, .slice q3 n3 d3, .slice q4 n4 d4] 31) = W2 at *
      obtain ⟨p0, p1, p2, p3, p4⟩ := box5 (HE2.out.nth 0 rfl)
      go_upto_region 4 with (first | (go_at_call 20; ((with_reducible refine (HOK.out _ HE2.out.gr).mono ?_); rintro e w3 ⟨rfl, hg⟩; have HE3 := Lib.hid (HE2.out.on hg); obtain ⟨z0, z1, z2, z3, z4⟩ := box5 (HE3.out.nth 0 rfl); clear hg)) | (go_at_call 52; (with_reducible refine (in_is (j : Int) 0 ((n2 : Int) - 1) true hd _).mono ?_); rintro e w3 ⟨rfl, rfl⟩))
      clear p0 p1 p2 p3 p4 z0 z1 z2 z3 z4 HE2
      have hown := HE3.out.nth 2 rfl
      obtain ⟨k2, y2, rfl, -, cm, fm⟩ := own_cellI (OwnS.m hown) HJ.out
      obtain ⟨k3, y3, rfl, -, ct, ft⟩ := own_cellI (OwnS.t hown) (show j < n3 by rw [HL3.out]; exact HJ.out)
      clear hown
      obtain ⟨o0, o1, o2, o3, o4⟩ := box5 (HE3.out.nth 3 rfl)
      go_upto_region 5 with fail
      have HE4 := Lib.hid (Held.setMass HE3.out 2 rfl j m)
      clear o0 o1 o2 o3 o4 cm fm ct ft HE3
      generalize w3.setCell ⟨k2, j, none⟩ (.int .i64 m) = W4 at *
      have hown := HE4.out.nth 2 rfl
      obtain ⟨k3', y3', e3, -, ct, ft⟩ := own_cellI (OwnS.t hown) (show j < n3 by rw [HL3.out]; exact HJ.out)
      cases e3
      clear hown
      have hj3 : (j : Int) < n3 := by have := HL3.out; omega
      obtain ⟨o0, o1, o2, o3, o4⟩ := box5 (HE4.out.nth 3 rfl)
      go_upto_region 6 with fail
      have HE5 := Lib.hid (Held.setTracer HE4.out 2 rfl j t)
      clear o0 o1 o2 o3 o4 ct ft HE4
      generalize W4.setCell ⟨k3, j, none⟩ (.int .i64 t) = W5 at *
      obtain ⟨o0, o1, o2, o3, o4⟩ := box5 (HE5.out.nth 3 rfl)
      obtain ⟨r0, r1, r2, r3, r4⟩ := box5 (HE5.out.nth 1 rfl)
      obtain ⟨f0, f1, f2, f3, f4⟩ := free5 (HE5.out.nth 1 rfl)
      have hok2 : ∀ u, W5.grownBy u none → Calls Try.prog 20 #[.agg #[.int .i64 R, .slice q1 n1 d1, .slice (some ⟨k2, 0, none⟩) n2 d2, .slice (some ⟨k3, 0, none⟩) n3 d3, .slice q4 n4 d4]] u fun e w' => e = .returned (.bool (stOk R xs (ms.set j m) (ts.set j t) bs)) ∧ u.grownBy w' none :=
        fun u hu => specStateOk_is R q1 (some ⟨k2, 0, none⟩) (some ⟨k3, 0, none⟩) q4 n1 n2 n3 n4 d1 d2 d3 d4 xs (ms.set j m) (ts.set j t) bs u ((OwnS.reads (HE5.out.nth 2 rfl)).on hu) H1.out H2.out H3.out H4.out
      cases hs2 : stOk R xs (ms.set j m) (ts.set j t) bs with
      | true =>
        have hp : putB R xs ms ts bs (j : Int) m t = true := HPB.out.trans hs2
        have em : putM R xs ms ts bs (j : Int) m t = ms.set j m := by simp [putM, hp]
        have et : putT R xs ms ts bs (j : Int) m t = ts.set j t := by simp [putT, hp]
        have EM := Lib.hid em; have ET := Lib.hid et; have EB := Lib.hid hp
        clear em et
        rw [hs2] at hok2
        have HOK2 := Lib.hid hok2; clear hok2
        clear hs2 hp
        go_wp2_with (go_at_call 20; ((with_reducible refine (HOK2.out _ (grown_refl _)).mono ?_); rintro e w6 ⟨rfl, hg⟩; have HE6 := Lib.hid (HE5.out.on hg); obtain ⟨o0, o1, o2, o3, o4⟩ := box5 (HE6.out.nth 3 rfl); obtain ⟨r0, r1, r2, r3, r4⟩ := box5 (HE6.out.nth 1 rfl); obtain ⟨f0, f1, f2, f3, f4⟩ := free5 (HE6.out.nth 1 rfl); obtain ⟨p0, p1, p2, p3, p4⟩ := box5 (HE6.out.nth 0 rfl); clear hg))
        have he := HE6.out.put5 1 rfl (.int .i64 R) (.slice q1 n1 d1) (.slice (some ⟨k2, 0, none⟩) n2 d2) (.slice (some ⟨k3, 0, none⟩) n3 d3) (.slice q4 n4 d4)
        exact bodyPost_ret_by (results_row_tmp rfl _ _ (w.heap.size + 1) _ _ (0, 0) _ rfl (he.nth 1 rfl) Try.underlying31 rfl (by kernel_rfl)) rfl ⟨q1, d1, some ⟨k2, 0, none⟩, d2, some ⟨k3, 0, none⟩, d3, q4, d4, (by rw [EB.out]; rfl), (by rw [EM.out, ET.out]; exact Held.stateOwn he 2 rfl), he.gr⟩
      | false =>
        have hp : putB R xs ms ts bs (j : Int) m t = false := HPB.out.trans hs2
        have em : putM R xs ms ts bs (j : Int) m t = ms := by simp [putM, hp]
        have et : putT R xs ms ts bs (j : Int) m t = ts := by simp [putT, hp]
        have EM := Lib.hid em; have ET := Lib.hid et; have EB := Lib.hid hp
        clear em et
        rw [hs2] at hok2
        have HOK2 := Lib.hid hok2; clear hok2
        clear hs2 hp
        go_wp2_with (first
          | (go_at_call 20; ((with_reducible refine (HOK2.out _ (grown_refl _)).mono ?_); rintro e w6 ⟨rfl, hg⟩; have HE6 := Lib.hid (HE5.out.on hg); obtain ⟨p0, p1, p2, p3, p4⟩ := box5 (HE6.out.nth 0 rfl); clear hg))
          | (go_at_call 61; ((with_reducible refine (HCP.out _ HE6.out.gr).mono ?_); rintro e w7 ⟨s1, t1, s2, t2, s3, t3, s4, t4, rfl, ho, hg⟩; have HE7 := Lib.hid (State.Held.state HE6.out hg ho); obtain ⟨x0, x1, x2, x3, x4⟩ := box5 (HE7.out.nth 1 rfl); obtain ⟨z0, z1, z2, z3, z4⟩ := free5 (HE7.out.nth 1 rfl); clear ho hg)))
        have he := HE7.out.put5 1 rfl (.int .i64 R) (.slice s1 n1 t1) (.slice s2 n2 t2) (.slice s3 n3 t3) (.slice s4 n4 t4)
        exact bodyPost_ret_by (results_row_tmp rfl _ _ (w.heap.size + 1) _ _ (0, 0) _ rfl (he.nth 1 rfl) Try.underlying31 rfl (by kernel_rfl)) rfl ⟨s1, t1, s2, t2, s3, t3, s4, t4, (by rw [EB.out]; rfl), (by rw [EM.out, ET.out]; exact Held.stateOwn he 4 rfl), he.gr⟩
end Go.Proofs.Ytcdkhapepabpkaa.State
