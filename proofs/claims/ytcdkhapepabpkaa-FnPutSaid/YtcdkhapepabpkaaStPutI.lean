/- States: contentOf, put and PutCell of the program, as contracts.
   Conditions: at most 2^20 leaves and numbers. -/
import Derived.Test.YtcdkhapepabpkaaStClone
import Derived.Test.YtcdkhapepabpkaaStI
import Derived.Test.YtcdkhapepabpkaaStPutS
import Derived.Test.YtcdkhapepabpkaaStFillS
set_option maxRecDepth 100000
namespace Go.Proofs.Ytcdkhapepabpkaa.State
open Go.ChangeShapes Go.WideShapes Go.ChangeAt Go.RowKit Go.Joins Go.Proofs.Ytcdkhapepabpkaa.Cell Go.Proofs.Ytcdkhapepabpkaa.Mesh Go.Proofs.Ytcdkhapepabpkaa.Law Go.Proofs.Ytcdkhapepabpkaa.Ints Go.Proofs.Ytcdkhapepabpkaa.Draws Go.Deep

theorem free2 {b : Nat} {t : TypeId} {vs : Array Value} {W : World} (h : (boxG b t vs).P W) : W.frozen? ⟨b, 0, none⟩ = false ∧ W.frozen? ⟨b, 1, none⟩ = false := ⟨boxG.free h 0, boxG.free h 1⟩

set_option maxHeartbeats 4000000 in
theorem contentOf_is (R : Int) (a1 a4 : Option Addr) (g2 g3 n1 n2 n3 n4 c1 c2 c3 c4 k : Nat) (h2 : k < n2) (h3 : k < n3) (w : World) :
    Calls Try.prog 43 #[.agg #[.int .i64 R, .slice a1 n1 c1, .slice (some ⟨g2, 0, none⟩) n2 c2, .slice (some ⟨g3, 0, none⟩) n3 c3, .slice a4 n4 c4], .int .i64 (k : Int)] w fun e w' => e = .returned (.agg #[.pointer (some ⟨g2, k, none⟩), .pointer (some ⟨g3, k, none⟩)]) ∧ w.grownBy w' none := by
  have i2 : (k : Int) < n2 := by omega
  have i3 : (k : Int) < n3 := by omega
  clear h2 h3
  have he := ((Held.nil w).box 31 #[.int .i64 R, .slice a1 n1 c1, .slice (some ⟨g2, 0, none⟩) n2 c2, .slice (some ⟨g3, 0, none⟩) n3 c3, .slice a4 n4 c4]).box 70 #[.pointer none, .pointer none]
  simp only [World.size_alloc] at he
  have HE := Lib.hid he; clear he
  go_enter Try.func43, Try.ntmps43
  go_upto_region 1 with fail
  generalize (w.alloc (.cells #[.int .i64 R, .slice a1 n1 c1, .slice (some ⟨g2, 0, none⟩) n2 c2, .slice (some ⟨g3, 0, none⟩) n3 c3, .slice a4 n4 c4] 31)).alloc (.cells #[.pointer none, .pointer none] 70) = W0 at *
  obtain ⟨p0, p1, p2, p3, p4⟩ := box5 (HE.out.nth 0 rfl)
  obtain ⟨r0, r1⟩ := box2 (HE.out.nth 1 rfl)
  obtain ⟨f0, f1⟩ := free2 (HE.out.nth 1 rfl)
  go_region
  all_goals
    have hH := ((HE.out.on (gr_drew (grown_refl W0))).put 1 rfl 0 (.pointer (some ⟨g2, k, none⟩))).put 1 rfl 1 (.pointer (some ⟨g3, k, none⟩))
    go_wp2_with fail
    exact bodyPost_ret_by (results_cell_row (fn := Try.f43) rfl _ _ (w.heap.size + 1) _ _ (0, 0) _ rfl (hH.nth 1 rfl) Try.underlying70 rfl (by kernel_rfl)) rfl ⟨rfl, hH.gr⟩

set_option maxHeartbeats 4000000 in
theorem put_is (g2 g3 k : Nat) (m t : Int) (w : World) (hm : ∃ z, w.cell? ⟨g2, k, none⟩ = some z) (fm : w.frozen? ⟨g2, k, none⟩ = false) (ht : ∃ z, w.cell? ⟨g3, k, none⟩ = some z) (ft : w.frozen? ⟨g3, k, none⟩ = false) (hne : g2 ≠ g3) :
    Calls Try.prog 44 #[.agg #[.pointer (some ⟨g2, k, none⟩), .pointer (some ⟨g3, k, none⟩)], .int .i64 m, .int .i64 t] w fun e w' => e = .returned (.tuple #[]) ∧ ∃ W, w.grownBy W none ∧ w' = (W.setCell ⟨g2, k, none⟩ (.int .i64 m)).setCell ⟨g3, k, none⟩ (.int .i64 t) := by
  obtain ⟨z2, e2⟩ := hm
  obtain ⟨z3, e3⟩ := ht
  have he := (Held.nil w).box 70 #[.pointer (some ⟨g2, k, none⟩), .pointer (some ⟨g3, k, none⟩)]
  have l2 := World.block_lt_of_cell? w _ e2
  have l3 := World.block_lt_of_cell? w _ e3
  have HE := Lib.hid he; clear he
  go_enter Try.func44, Try.ntmps44
  go_upto_region 1 with fail
  have HG := Lib.hid (World.grownBy_alloc w (.cells #[.pointer (some ⟨g2, k, none⟩), .pointer (some ⟨g3, k, none⟩)] 70) none)
  generalize w.alloc (.cells #[.pointer (some ⟨g2, k, none⟩), .pointer (some ⟨g3, k, none⟩)] 70) = W0 at *
  obtain ⟨p0, p1⟩ := box2 (HE.out.nth 0 rfl)
  have HQ := Lib.hid (And.intro l2 l3)
  have m2 := HG.out.cell e2 (by simp)
  have m3 := HG.out.cell e3 (by simp)
  have u2 : W0.frozen? ⟨g2, k, none⟩ = false := (World.frozen?_of_block (HG.out.block g2 l2 (by simp))).trans fm
  have u3 : W0.frozen? ⟨g3, k, none⟩ = false := (World.frozen?_of_block (HG.out.block g3 l3 (by simp))).trans ft
  clear e2 e3 fm ft l2 l3
  go_upto_region 2 with fail
  have hb : w.heap.size ≠ g2 := by have := HQ.out.1; simp at this; omega
  have HE1 := Lib.hid ((show (W0.setCell ⟨g2, k, none⟩ (.int .i64 m)).heap[w.heap.size]? = W0.heap[w.heap.size]? from heap_setCell_other W0 ⟨g2, k, none⟩ w.heap.size _ (by simpa using hb)))
  have p1' : (W0.setCell ⟨g2, k, none⟩ (.int .i64 m)).cell? ⟨w.heap.size, 1, none⟩ = some (.pointer (some ⟨g3, k, none⟩)) := (World.cell?_of_block HE1.out).trans p1
  have m3' : (W0.setCell ⟨g2, k, none⟩ (.int .i64 m)).cell? ⟨g3, k, none⟩ = some z3 := (World.cell?_of_block (heap_setCell_other W0 ⟨g2, k, none⟩ g3 _ (by simpa using fun h => hne h.symm))).trans m3
  have u3' : (W0.setCell ⟨g2, k, none⟩ (.int .i64 m)).frozen? ⟨g3, k, none⟩ = false := (World.frozen?_of_block (heap_setCell_other W0 ⟨g2, k, none⟩ g3 _ (by simpa using fun h => hne h.symm))).trans u3
  go_wp2_with fail
  exact bodyPost_end (results_none rfl _ _ _) rfl ⟨rfl, W0, HG.out, rfl⟩

set_option maxHeartbeats 16000000 in
theorem putCell_is (R : Int) (g1 g2 g3 g4 n1 n2 n3 n4 c1 c2 c3 c4 : Nat) (xs : List C3) (ms ts bs : List Int) (i m t : Int) (w : World) (h : ReadsS w (some ⟨g1, 0, none⟩) (some ⟨g2, 0, none⟩) (some ⟨g3, 0, none⟩) (some ⟨g4, 0, none⟩) n1 n2 n3 n4 xs ms ts bs) (h1 : n1 ≤ 1048576) (h2 : n2 ≤ 1048576) (h3 : n3 ≤ 1048576) (h4 : n4 ≤ 1048576) :
    Calls Try.prog 17 #[.agg #[.int .i64 R, .slice (some ⟨g1, 0, none⟩) n1 c1, .slice (some ⟨g2, 0, none⟩) n2 c2, .slice (some ⟨g3, 0, none⟩) n3 c3, .slice (some ⟨g4, 0, none⟩) n4 c4], .int .i64 i, .int .i64 m, .int .i64 t] w (GivesSB (putB R xs ms ts bs i m t) R n1 n2 n3 n4 xs (putM R xs ms ts bs i m t) (putT R xs ms ts bs i m t) bs w) := by
  have hok : ∀ u, w.grownBy u none → Calls Try.prog 13 #[.agg #[.int .i64 R, .slice (some ⟨g1, 0, none⟩) n1 c1, .slice (some ⟨g2, 0, none⟩) n2 c2, .slice (some ⟨g3, 0, none⟩) n3 c3, .slice (some ⟨g4, 0, none⟩) n4 c4]] u fun e w' => e = .returned (.bool (stOk R xs ms ts bs)) ∧ u.grownBy w' none := fun u hu => stateOk_is R _ _ _ _ n1 n2 n3 n4 c1 c2 c3 c4 xs ms ts bs u (h.on hu) h1 h2 h3 h4
  have hcp : ∀ u, w.grownBy u none → Calls Try.prog 49 #[.agg #[.int .i64 R, .slice (some ⟨g1, 0, none⟩) n1 c1, .slice (some ⟨g2, 0, none⟩) n2 c2, .slice (some ⟨g3, 0, none⟩) n3 c3, .slice (some ⟨g4, 0, none⟩) n4 c4]] u (GivesS R n1 n2 n3 n4 xs ms ts bs u) := fun u hu => stClone_is R _ _ _ _ n1 n2 n3 n4 c1 c2 c3 c4 xs ms ts bs u (h.on hu) h1 h2 h3 h4
  have he := ((Held.nil w).box 31 #[.int .i64 R, .slice (some ⟨g1, 0, none⟩) n1 c1, .slice (some ⟨g2, 0, none⟩) n2 c2, .slice (some ⟨g3, 0, none⟩) n3 c3, .slice (some ⟨g4, 0, none⟩) n4 c4]).box 31 #[.int .i64 0, .slice none 0 0, .slice none 0 0, .slice none 0 0, .slice none 0 0]
  simp only [World.size_alloc] at he
  have HE := Lib.hid he; have HOK := Lib.hid hok; have HCP := Lib.hid hcp
  have i2 : (n2 : Int) ≤ 1048576 := by omega
  have H1 := Lib.hid h1; have H2 := Lib.hid h2; have H3 := Lib.hid h3; have H4 := Lib.hid h4
  have L2 := Lib.hid h.m.len; have L3 := Lib.hid h.t.len
  clear he hok hcp h h1 h2 h3 h4
  cases hs : stOk R xs ms ts bs with
  | false =>
    have hp : putB R xs ms ts bs i m t = false := by simp [putB, hs]
    rw [show putM R xs ms ts bs i m t = ms by simp [putM, hp], show putT R xs ms ts bs i m t = ts by simp [putT, hp], hp]
    rw [hs] at HOK
    clear hs hp
    go_enter Try.func17, Try.ntmps17
    go_upto_region 1 with fail
    generalize (w.alloc (.cells #[.int .i64 R, .slice (some ⟨g1, 0, none⟩) n1 c1, .slice (some ⟨g2, 0, none⟩) n2 c2, .slice (some ⟨g3, 0, none⟩) n3 c3, .slice (some ⟨g4, 0, none⟩) n4 c4] 31)).alloc (.cells #[.int .i64 0, .slice none 0 0, .slice none 0 0, .slice none 0 0, .slice none 0 0] 31) = W0 at *
    obtain ⟨p0, p1, p2, p3, p4⟩ := box5 (HE.out.nth 0 rfl)
    go_wp2_with (first | (go_at_call 13; ((with_reducible refine (HOK.out _ HE.out.gr).mono ?_); rintro e w1 ⟨rfl, hg⟩; have HE1 := Lib.hid (HE.out.on hg); obtain ⟨z0, z1, z2, z3, z4⟩ := box5 (HE1.out.nth 0 rfl); clear hg)) | (go_at_call 49; ((with_reducible refine (HCP.out _ HE1.out.gr).mono ?_); rintro e w2 ⟨q1, d1, q2, d2, q3, d3, q4, d4, rfl, ho, hg⟩; have HE2 := Lib.hid (State.Held.state HE1.out hg ho); obtain ⟨r0, r1, r2, r3, r4⟩ := box5 (HE2.out.nth 1 rfl); obtain ⟨f0, f1, f2, f3, f4⟩ := free5 (HE2.out.nth 1 rfl); clear ho hg)))
    have he := HE2.out.put5 1 rfl (.int .i64 R) (.slice q1 n1 d1) (.slice q2 n2 d2) (.slice q3 n3 d3) (.slice q4 n4 d4)
    exact bodyPost_ret_by (results_row_tmp rfl _ _ (w.heap.size + 1) _ _ (0, 0) _ rfl (he.nth 1 rfl) Try.underlying31 rfl (by kernel_rfl)) rfl ⟨q1, d1, q2, d2, q3, d3, q4, d4, rfl, Held.stateOwn he 2 rfl, he.gr⟩
  | true =>
    rw [hs] at HOK
    have hl : ts.length = ms.length := (stOk_parts hs).2.1.2.1
    by_cases hi : 0 ≤ i ∧ i ≤ (n2 : Int) - 1
    case neg =>
      have hp : putB R xs ms ts bs i m t = false := by
        unfold putB
        rw [decide_eq_false (by rw [L2.out]; exact hi)]
        simp
      rw [show putM R xs ms ts bs i m t = ms by simp [putM, hp], show putT R xs ms ts bs i m t = ts by simp [putT, hp], hp]
      clear hs hp hl
      by_cases hi0 : i < 0
      · clear hi
        go_enter Try.func17, Try.ntmps17
        go_upto_region 1 with fail
        generalize (w.alloc (.cells #[.int .i64 R, .slice (some ⟨g1, 0, none⟩) n1 c1, .slice (some ⟨g2, 0, none⟩) n2 c2, .slice (some ⟨g3, 0, none⟩) n3 c3, .slice (some ⟨g4, 0, none⟩) n4 c4] 31)).alloc (.cells #[.int .i64 0, .slice none 0 0, .slice none 0 0, .slice none 0 0, .slice none 0 0] 31) = W0 at *
        obtain ⟨p0, p1, p2, p3, p4⟩ := box5 (HE.out.nth 0 rfl)
        go_wp2_with (first | (go_at_call 13; ((with_reducible refine (HOK.out _ HE.out.gr).mono ?_); rintro e w1 ⟨rfl, hg⟩; have HE1 := Lib.hid (HE.out.on hg); obtain ⟨z0, z1, z2, z3, z4⟩ := box5 (HE1.out.nth 0 rfl); clear hg)) | (go_at_call 49; ((with_reducible refine (HCP.out _ HE1.out.gr).mono ?_); rintro e w2 ⟨q1, d1, q2, d2, q3, d3, q4, d4, rfl, ho, hg⟩; have HE2 := Lib.hid (State.Held.state HE1.out hg ho); obtain ⟨r0, r1, r2, r3, r4⟩ := box5 (HE2.out.nth 1 rfl); obtain ⟨f0, f1, f2, f3, f4⟩ := free5 (HE2.out.nth 1 rfl); clear ho hg)))
        have he := HE2.out.put5 1 rfl (.int .i64 R) (.slice q1 n1 d1) (.slice q2 n2 d2) (.slice q3 n3 d3) (.slice q4 n4 d4)
        exact bodyPost_ret_by (results_row_tmp rfl _ _ (w.heap.size + 1) _ _ (0, 0) _ rfl (he.nth 1 rfl) Try.underlying31 rfl (by kernel_rfl)) rfl ⟨q1, d1, q2, d2, q3, d3, q4, d4, rfl, Held.stateOwn he 2 rfl, he.gr⟩
      · have hi1 : (n2 : Int) ≤ i := by omega
        clear hi
        go_enter Try.func17, Try.ntmps17
        go_upto_region 1 with fail
        generalize (w.alloc (.cells #[.int .i64 R, .slice (some ⟨g1, 0, none⟩) n1 c1, .slice (some ⟨g2, 0, none⟩) n2 c2, .slice (some ⟨g3, 0, none⟩) n3 c3, .slice (some ⟨g4, 0, none⟩) n4 c4] 31)).alloc (.cells #[.int .i64 0, .slice none 0 0, .slice none 0 0, .slice none 0 0, .slice none 0 0] 31) = W0 at *
        obtain ⟨p0, p1, p2, p3, p4⟩ := box5 (HE.out.nth 0 rfl)
        go_wp2_with (first | (go_at_call 13; ((with_reducible refine (HOK.out _ HE.out.gr).mono ?_); rintro e w1 ⟨rfl, hg⟩; have HE1 := Lib.hid (HE.out.on hg); obtain ⟨z0, z1, z2, z3, z4⟩ := box5 (HE1.out.nth 0 rfl); clear hg)) | (go_at_call 49; ((with_reducible refine (HCP.out _ HE1.out.gr).mono ?_); rintro e w2 ⟨q1, d1, q2, d2, q3, d3, q4, d4, rfl, ho, hg⟩; have HE2 := Lib.hid (State.Held.state HE1.out hg ho); obtain ⟨r0, r1, r2, r3, r4⟩ := box5 (HE2.out.nth 1 rfl); obtain ⟨f0, f1, f2, f3, f4⟩ := free5 (HE2.out.nth 1 rfl); clear ho hg)))
        have he := HE2.out.put5 1 rfl (.int .i64 R) (.slice q1 n1 d1) (.slice q2 n2 d2) (.slice q3 n3 d3) (.slice q4 n4 d4)
        exact bodyPost_ret_by (results_row_tmp rfl _ _ (w.heap.size + 1) _ _ (0, 0) _ rfl (he.nth 1 rfl) Try.underlying31 rfl (by kernel_rfl)) rfl ⟨q1, d1, q2, d2, q3, d3, q4, d4, rfl, Held.stateOwn he 2 rfl, he.gr⟩
    case pos =>
      obtain ⟨j, rfl⟩ := Int.eq_ofNat_of_zero_le hi.1
      have HJ := Lib.hid (show j < n2 by omega)
      have hj : (j : Int) < n2 := by omega
      have HL3 := Lib.hid (show n3 = n2 by have := L2.out; have := L3.out; omega)
      have HPB := Lib.hid (show putB R xs ms ts bs (j : Int) m t = stOk R xs (ms.set j m) (ts.set j t) bs by unfold putB; rw [hs, decide_eq_true (by rw [L2.out]; exact hi)]; simp)
      clear hs hi hl
      go_enter Try.func17, Try.ntmps17
      go_upto_region 1 with fail
      generalize (w.alloc (.cells #[.int .i64 R, .slice (some ⟨g1, 0, none⟩) n1 c1, .slice (some ⟨g2, 0, none⟩) n2 c2, .slice (some ⟨g3, 0, none⟩) n3 c3, .slice (some ⟨g4, 0, none⟩) n4 c4] 31)).alloc (.cells #[.int .i64 0, .slice none 0 0, .slice none 0 0, .slice none 0 0, .slice none 0 0] 31) = W0 at *
      obtain ⟨p0, p1, p2, p3, p4⟩ := box5 (HE.out.nth 0 rfl)
      go_upto_region 3 with (go_at_call 13; ((with_reducible refine (HOK.out _ HE.out.gr).mono ?_); rintro e w1 ⟨rfl, hg⟩; have HE1 := Lib.hid (HE.out.on hg); obtain ⟨z0, z1, z2, z3, z4⟩ := box5 (HE1.out.nth 0 rfl); clear hg))
      clear p0 p1 p2 p3 p4 HE
      go_upto_region 4 with (go_at_call 49; ((with_reducible refine (HCP.out _ HE1.out.gr).mono ?_); rintro e w2 ⟨q1, d1, q2, d2, q3, d3, q4, d4, rfl, ho, hg⟩; have HE2 := Lib.hid (State.Held.state HE1.out hg ho); obtain ⟨r0, r1, r2, r3, r4⟩ := box5 (HE2.out.nth 1 rfl); obtain ⟨f0, f1, f2, f3, f4⟩ := free5 (HE2.out.nth 1 rfl); clear ho hg))
      clear z0 z1 z2 z3 z4 r0 r1 r2 r3 r4 f0 f1 f2 f3 f4 HE1
      have HE3 := Lib.hid (HE2.out.box 31 #[.int .i64 R, .slice q1 n1 d1, .slice q2 n2 d2, .slice q3 n3 d3, .slice q4 n4 d4]); clear HE2
      obtain ⟨B2, hB2⟩ : ∃ B, B = w2.heap.size := ⟨_, rfl⟩
      rw [← hB2] at HE3 ⊢
      clear hB2
      generalize w2.alloc (.cells #[.int .i64 R, .slice q1 n1 d1, .slice q2 n2 d2, .slice q3 n3 d3, .slice q4 n4 d4] 31) = W3 at *
      have hown := HE3.out.nth 2 rfl
      obtain ⟨k2, y2, rfl, -, -, -⟩ := own_cellI (OwnS.m hown) HJ.out
      obtain ⟨k3, y3, rfl, -, -, -⟩ := own_cellI (OwnS.t hown) (show j < n3 by rw [HL3.out]; exact HJ.out)
      have HNE := Lib.hid (show k2 ≠ k3 from fun e => (OwnS.mt hown) k2 rfl (by rw [e]; rfl))
      have hco : ∀ u, Calls Try.prog 43 #[.agg #[.int .i64 R, .slice q1 n1 d1, .slice (some ⟨k2, 0, none⟩) n2 d2, .slice (some ⟨k3, 0, none⟩) n3 d3, .slice q4 n4 d4], .int .i64 (j : Int)] u fun e w' => e = .returned (.agg #[.pointer (some ⟨k2, j, none⟩), .pointer (some ⟨k3, j, none⟩)]) ∧ u.grownBy w' none := fun u => contentOf_is R q1 q4 k2 k3 n1 n2 n3 n4 d1 d2 d3 d4 j HJ.out (by rw [HL3.out]; exact HJ.out) u
      have hpu : ∀ u, W3.grownBy u none → Calls Try.prog 44 #[.agg #[.pointer (some ⟨k2, j, none⟩), .pointer (some ⟨k3, j, none⟩)], .int .i64 m, .int .i64 t] u fun e w' => e = .returned (.tuple #[]) ∧ ∃ W, u.grownBy W none ∧ w' = (W.setCell ⟨k2, j, none⟩ (.int .i64 m)).setCell ⟨k3, j, none⟩ (.int .i64 t) := fun u hu => by
        have ho := (HE3.out.on hu).nth 2 rfl
        obtain ⟨g2', x2, e2, -, m2, u2⟩ := own_cellI (OwnS.m ho) HJ.out
        cases e2
        obtain ⟨g3', x3, e3, -, m3, u3⟩ := own_cellI (OwnS.t ho) (show j < n3 by rw [HL3.out]; exact HJ.out)
        cases e3
        exact put_is k2 k3 j m t u ⟨_, m2⟩ u2 ⟨_, m3⟩ u3 HNE.out
      have HCO := Lib.hid hco; have HPU := Lib.hid hpu
      clear hown hco hpu
      obtain ⟨o0, o1, o2, o3, o4⟩ := box5 (HE3.out.nth 3 rfl)
      go_upto_region 5 with (first
        | (go_at_call 43; ((with_reducible refine (HCO.out _).mono ?_); rintro e w4 ⟨rfl, hg⟩; have HG4 := Lib.hid hg; clear hg))
        | (go_at_call 44; ((with_reducible refine (HPU.out _ HG4.out).mono ?_); rintro e w5 ⟨rfl, W, hg, rfl⟩; have HE5 := Lib.hid (Held.setTracer (Held.setMass ((HE3.out.on HG4.out).on hg) 2 rfl j m) 2 rfl j t); clear hg)))
      clear o0 o1 o2 o3 o4 HE3 HCO HPU HG4
      generalize (W.setCell ⟨k2, j, none⟩ (.int .i64 m)).setCell ⟨k3, j, none⟩ (.int .i64 t) = W5 at *
      obtain ⟨o0, o1, o2, o3, o4⟩ := box5 (HE5.out.nth 3 rfl)
      have hok2 : ∀ u, W5.grownBy u none → Calls Try.prog 13 #[.agg #[.int .i64 R, .slice q1 n1 d1, .slice (some ⟨k2, 0, none⟩) n2 d2, .slice (some ⟨k3, 0, none⟩) n3 d3, .slice q4 n4 d4]] u fun e w' => e = .returned (.bool (stOk R xs (ms.set j m) (ts.set j t) bs)) ∧ u.grownBy w' none :=
        fun u hu => stateOk_is R q1 (some ⟨k2, 0, none⟩) (some ⟨k3, 0, none⟩) q4 n1 n2 n3 n4 d1 d2 d3 d4 xs (ms.set j m) (ts.set j t) bs u ((OwnS.reads (HE5.out.nth 2 rfl)).on hu) H1.out H2.out H3.out H4.out
      cases hs2 : stOk R xs (ms.set j m) (ts.set j t) bs with
      | true =>
        have hp : putB R xs ms ts bs (j : Int) m t = true := HPB.out.trans hs2
        have em : putM R xs ms ts bs (j : Int) m t = ms.set j m := by simp [putM, hp]
        have et : putT R xs ms ts bs (j : Int) m t = ts.set j t := by simp [putT, hp]
        have EM := Lib.hid em; have ET := Lib.hid et; have EB := Lib.hid hp
        clear em et
        rw [hs2] at hok2
        have HOK2 := Lib.hid hok2; clear hok2
        clear hs2 hp
        go_wp2_with (go_at_call 13; ((with_reducible refine (HOK2.out _ (grown_refl _)).mono ?_); rintro e w6 ⟨rfl, hg⟩; have HE6 := Lib.hid (HE5.out.on hg); obtain ⟨o0, o1, o2, o3, o4⟩ := box5 (HE6.out.nth 3 rfl); obtain ⟨r0, r1, r2, r3, r4⟩ := box5 (HE6.out.nth 1 rfl); obtain ⟨f0, f1, f2, f3, f4⟩ := free5 (HE6.out.nth 1 rfl); obtain ⟨p0, p1, p2, p3, p4⟩ := box5 (HE6.out.nth 0 rfl); clear hg))
        have he := HE6.out.put5 1 rfl (.int .i64 R) (.slice q1 n1 d1) (.slice (some ⟨k2, 0, none⟩) n2 d2) (.slice (some ⟨k3, 0, none⟩) n3 d3) (.slice q4 n4 d4)
        exact bodyPost_ret_by (results_row_tmp rfl _ _ (w.heap.size + 1) _ _ (0, 0) _ rfl (he.nth 1 rfl) Try.underlying31 rfl (by kernel_rfl)) rfl ⟨q1, d1, some ⟨k2, 0, none⟩, d2, some ⟨k3, 0, none⟩, d3, q4, d4, (by rw [EB.out]; rfl), (by rw [EM.out, ET.out]; exact Held.stateOwn he 2 rfl), he.gr⟩
      | false =>
        have hp : putB R xs ms ts bs (j : Int) m t = false := HPB.out.trans hs2
        have em : putM R xs ms ts bs (j : Int) m t = ms := by simp [putM, hp]
        have et : putT R xs ms ts bs (j : Int) m t = ts := by simp [putT, hp]
        have EM := Lib.hid em; have ET := Lib.hid et; have EB := Lib.hid hp
        clear em et
        rw [hs2] at hok2
        have HOK2 := Lib.hid hok2; clear hok2
        clear hs2 hp
        go_wp2_with (first
          | (go_at_call 13; ((with_reducible refine (HOK2.out _ (grown_refl _)).mono ?_); rintro e w6 ⟨rfl, hg⟩; have HE6 := Lib.hid (HE5.out.on hg); obtain ⟨p0, p1, p2, p3, p4⟩ := box5 (HE6.out.nth 0 rfl); clear hg))
          | (go_at_call 49; ((with_reducible refine (HCP.out _ HE6.out.gr).mono ?_); rintro e w7 ⟨s1, t1, s2, t2, s3, t3, s4, t4, rfl, ho, hg⟩; have HE7 := Lib.hid (State.Held.state HE6.out hg ho); obtain ⟨x0, x1, x2, x3, x4⟩ := box5 (HE7.out.nth 1 rfl); obtain ⟨z0, z1, z2, z3, z4⟩ := free5 (HE7.out.nth 1 rfl); clear ho hg)))
        have he := HE7.out.put5 1 rfl (.int .i64 R) (.slice s1 n1 t1) (.slice s2 n2 t2) (.slice s3 n3 t3) (.slice s4 n4 t4)
        exact bodyPost_ret_by (results_row_tmp rfl _ _ (w.heap.size + 1) _ _ (0, 0) _ rfl (he.nth 1 rfl) Try.underlying31 rfl (by kernel_rfl)) rfl ⟨s1, t1, s2, t2, s3, t3, s4, t4, (by rw [EB.out]; rfl), (by rw [EM.out, ET.out]; exact Held.stateOwn he 4 rfl), he.gr⟩
end Go.Proofs.Ytcdkhapepabpkaa.State
