/- Meshes: slices.Replace of one cell by two, at a row of cells that the call owns: the third road, in place; and the three roads in one.
   Conditions: none. -/
import Derived.Test.YtmkmlfaekiofcaaMReplW
namespace Go.Proofs.Ytmkmlfaekiofcaa.Mesh
open Go.ChangeShapes Go.WideShapes Go.ChangeAt Go.RowKit Go.Proofs.Ytmkmlfaekiofcaa.Cell

theorem sizeId (w : World) : (Go.sizeOf 33).run Try.prog w = .ok 3 w := by
  obtain ⟨i0, hi0, hz0, hz1, hz2⟩ := info_parts infoIdR
  simp [sizeOf, typeInfo, hi0, hz1]
theorem overlaps_no (w : World) (g gv off la ca : Nat) (cur vs : Array Value) (hg : w.heap[g]? = some (.cells cur 33 (0, 0))) (hv : w.heap[gv]? = some (.cells vs 33 (0, 0))) (hvs : vs.size ≠ 0) (hne : g ≠ gv) :
    (callFunc 82 #[.slice (some ⟨g, off, none⟩) la ca, .slice (some ⟨gv, 0, none⟩) 2 2]).run Try.prog w = .ok (.value (.bool false)) w := by
  rw [run_callFunc_extern Try.func82 (by kernel_rfl) (by kernel_rfl) (by kernel_rfl) (e := Extern.SlicesOverlaps.overlaps #[24, 24] #[4]) (by kernel_rfl),
    Lib.run_overlaps_apart w 24 4 33 Try.underlying24 3 sizeId ⟨g, off, none⟩ ⟨gv, 0, none⟩ la ca 2 2 hne _ _ cur.size vs.size (by simp [World.shape?, hg]; rfl) (by simp [World.shape?, hv]; rfl) hvs (by simp [World.frozen?, hg]) (by simp [World.frozen?, hg])]
  rfl

set_option maxHeartbeats 4000000 in
set_option maxRecDepth 100000 in
theorem repl_shift (base g n cap i gv : Nat) (xs : List C3) (p q : C3) (w : World) (hown : w.ownsRow base 33 3 (.slice (some ⟨g, 0, none⟩) n cap) n (flatC xs))
    (hv : w.heap[gv]? = some (.cells (flatC [p, q]).toArray 33 (0, 0))) (hne : g ≠ gv) (hi : i + 1 < n) (hc : n < cap) (hn : n ≤ 1000) :
    Calls Try.prog 68 #[.slice (some ⟨g, 0, none⟩) n cap, .int .i64 i, .int .i64 ((i : Int) + 1), .slice (some ⟨gv, 0, none⟩) 2 2] w (ReplPost base g w (xs.take i ++ [p, q] ++ xs.drop (i + 1)) (n + 1)) := by
  obtain ⟨hbg, hnc, hcm, hl, cur, hg, hcs, htake⟩ := own_parts hown
  have HN := Lib.hid (World.news_of_block (cs := (flatC [p, q]).toArray) (t := 33) (fr := (0, 0)) hv)
  have HV := Lib.hid hv
  have HG := Lib.hid hg
  have HT := Lib.hid htake
  have HCS := Lib.hid hcs
  have HL := Lib.hid hl
  have HCM := Lib.hid hcm
  unfold maxLen at hcm
  have hni : (i : Int) + 1 < n := by omega
  have hn2 : (n : Int) ≤ 1000 := by omega
  have hnc2 : (n : Int) < cap := by omega
  have hov : ∀ (k off la ca : Nat), (callFunc 82 #[.slice (some ⟨g, off, none⟩) la ca, .slice (some ⟨gv, 0, none⟩) 2 2]).run Try.prog (w.drewN k) = .ok (.value (.bool false)) (w.drewN k) := fun k off la ca => overlaps_no (w.drewN k) g gv off la ca cur.toArray (flatC [p, q]).toArray hg hv (by simp [flatC]) hne
  clear hown hv hg htake hcs hl hnc
  go_enter Try.func68, Try.ntmps68
  go_wp2_with fail
  go_quiet (fail)
  have e1 : (i : Int) + 2 + ((n - (i + 1) : Nat) : Int) = ((n + 1 : Nat) : Int) := by omega
  rw [e1]
  go_wp2_with (simp only [hov])
  have f1 : IntKind.i64.wrap ((i : Int) + 2) = (i : Int) + 2 := IntWalk.i64_in _ (by omega)
  have f2 : (0 : Int) ≤ (i : Int) + 2 := by omega
  have f3 : (i : Int) + 2 ≤ ((n + 1 : Nat) : Int) := by omega
  have f3' : (i : Int) + 2 ≤ (n : Int) + 1 := by omega
  have f4 : ((i : Int) + 2).toNat = i + 2 := by omega
  have f5 : ¬ (cap = i + 2) := by omega
  have f6 : (0 : Int) ≤ (i : Int) + 1 := by omega
  have f7 : (i : Int) + 1 ≤ (n : Int) := by omega
  have f8 : ((i : Int) + 1).toNat = i + 1 := by omega
  have f9 : ¬ (cap = i + 1) := by omega
  have HS2 := Lib.hid (show ∀ j v, (flatC (xs.drop (i + 1)))[j]? = some v → w.cell? ((⟨g, (i + 1) * 3, none⟩ : Addr).add j) = some v from fun j v hj => by
    rw [Addr.add_lit]
    exact row_src HG.out HT.out (i + 1) j v hj)
  have HLT := Lib.hid (show (flatC (xs.drop (i + 1))).length = (n - (i + 1)) * 3 by rw [flatC_len, List.length_drop, HL.out])
  go_region_law ((refine step_copy_into rfl _ _ rfl g ((i + 2) * 3) (n + 1 - (i + 2)) (cap - (i + 2)) ⟨g, (i + 1) * 3, none⟩ (n - (i + 1)) (cap - (i + 1)) (by simp [Act.eval, Act.put]) (by simp [Act.eval, Act.put]) cur HG.out (flatC (xs.drop (i + 1))) (by rw [HLT.out, show Nat.min (n - (i + 1)) (n + 1 - (i + 2)) = n - (i + 1) from Nat.min_eq_left (by omega)]) HS2.out (by rw [HLT.out, HCS.out]; omega) (flatC_one _) ?_; intro z2 w2 HR2 hgr2; have HGR2 := Lib.hid hgr2; clear hgr2))
  all_goals
    have hs1 : (splice cur ((i + 2) * 3) (flatC (xs.drop (i + 1)))).length = cur.length := length_splice _ _ _ (by rw [HLT.out, HCS.out]; omega)
    have HS1 := Lib.hid hs1
    clear hs1
    go_wp2_with (refine wpList_copy_into rfl _ _ rfl g (i * 3) _ _ ⟨gv, 0, none⟩ _ _ rfl rfl (splice cur ((i + 2) * 3) (flatC (xs.drop (i + 1)))) HR2.out (flatC [p, q]) (by rw [show Nat.min 2 (n + 1 - i) = 2 from Nat.min_eq_left (by omega)]; rfl) (fun j v hj => HGR2.out.cell (HN.out j v hj) (by simp [Addr.add_lit]; omega)) (by rw [HS1.out, HCS.out]; show i * 3 + 6 ≤ _; omega) (flatC_one _) ?_; intro z3 w3 HR3 hgr3; have HGR3 := Lib.hid hgr3; clear hgr3)
    go_ret
    have hl := HL.out
    have hcs := HCS.out
    have hs := HS1.out
    refine ⟨g, cap, rfl, own_make hbg (by omega) HCM.out (by simp; omega) HR3.out ?_ (row_back_front (by omega) hl (by omega) ((take_of_take HT.out (i * 3) (by omega)).trans (flatC_take xs i))), ?_⟩
    · rw [length_splice _ _ _ (by rw [hs, hcs]; show i * 3 + 6 ≤ _; omega), hs, hcs]
    · exact grown_one (⟨HGR2.out.os, HGR2.out.tape, HGR2.out.output, HGR2.out.size, HGR2.out.block⟩ : w.grownBy w2 _) HGR3.out

theorem repl_is (base g n cap i gv : Nat) (xs : List C3) (p q : C3) (w : World) (hown : w.ownsRow base 33 3 (.slice (some ⟨g, 0, none⟩) n cap) n (flatC xs))
    (hv : w.heap[gv]? = some (.cells (flatC [p, q]).toArray 33 (0, 0))) (hne : g ≠ gv) (hi : i < n) (hn : n ≤ 1000) (hb : base ≤ w.heap.size) :
    Calls Try.prog 68 #[.slice (some ⟨g, 0, none⟩) n cap, .int .i64 i, .int .i64 ((i : Int) + 1), .slice (some ⟨gv, 0, none⟩) 2 2] w (ReplPost base g w (xs.take i ++ [p, q] ++ xs.drop (i + 1)) (n + 1)) := by
  obtain ⟨-, hnc, -⟩ := own_parts hown
  by_cases h1 : i + 1 = n
  · exact repl_end base g n cap i gv xs p q w hown hv h1 hn hb
  · by_cases h2 : n < cap
    · exact repl_shift base g n cap i gv xs p q w hown hv hne (by omega) h2 hn
    · obtain rfl : n = cap := by omega
      exact repl_grow base g n i gv xs p q w hown hv (by omega) hn hb
end Go.Proofs.Ytmkmlfaekiofcaa.Mesh
