/- Lists of numbers: withPlaceAfter and withoutPlaceAfter of the program, as contracts: one place more or less behind a number, in memory of its own; nothing that was there is written.
   Conditions: at most 1000 numbers. -/
import Derived.Test.YtfoilfgiablleaaStTrPure
import Derived.Test.YtfoilfgiablleaaStClone
import Derived.Laws.CopyOwn
import Derived.Deep.RegionLaw
import Derived.Deep.OwnRows
set_option maxRecDepth 100000
namespace Go.Proofs.Ytfoilfgiablleaa.State
open Go.ChangeShapes Go.WideShapes Go.ChangeAt Go.RowKit Go.Joins Go.Proofs.Ytfoilfgiablleaa.Cell Go.Proofs.Ytfoilfgiablleaa.Mesh Go.Proofs.Ytfoilfgiablleaa.Law Go.Proofs.Ytfoilfgiablleaa.Ints Go.Proofs.Ytfoilfgiablleaa.Draws Go.Deep

def zeros (q : Nat) : List Value := vals (List.replicate q 0)
theorem zeros_len (q : Nat) : (zeros q).length = q := by simp [zeros, vals]
theorem zeros_made (q : Nat) : (madeCells #[.int .i64 0] q) = (zeros q).toArray := by
  apply Array.ext'
  refine List.ext_getElem? fun j => ?_
  by_cases hj : j < q
  · rw [show (zeros q).toArray.toList = zeros q from rfl, zeros, vals_at (List.getElem?_replicate_of_lt hj)]
    simp [madeCells, hj, Nat.mod_one]
  · rw [List.getElem?_eq_none (by simp [size_madeCells]; omega), List.getElem?_eq_none (by rw [show (zeros q).toArray.toList = zeros q from rfl, zeros_len]; omega)]
theorem makeN_is (w : World) (n : Nat) (hn : n ≤ 1048576) : (Instr.makeSlice 27 (.int .i64 (n : Int)) (.int .i64 (n : Int))).run Try.prog w = .ok (.slice (some ⟨w.heap.size, 0, none⟩) n n) (w.alloc (.cells (zeros n).toArray 3)) := by
  obtain ⟨i0, hi, hz0, hz1, hz2⟩ := info_parts infoInt
  have h := run_make (P := Try.prog) (w := w) 27 3 i0 _ Try.underlying27 hi hz0 .i64 .i64 (n : Int) (n : Int) (by omega) (by omega) (by rw [hz2]; omega) (by omega)
  rw [← zeros_made]
  simpa [hz1, Value.cells] using h
theorem zeros_cut (q k : Nat) : (zeros q).drop k = zeros (q - k) := by simp [zeros, vals, List.drop_replicate]
theorem zeros_take (q k : Nat) (h : k ≤ q) : (zeros q).take k = zeros k := by simp [zeros, vals, List.take_replicate, Nat.min_eq_left h]
/-- A front part and a back part copied into zeros, with a gap of m. -/
theorem splice_gap (A T : List Value) (q m : Nat) (h : q = A.length + m + T.length) : splice (splice (zeros q) 0 A) (A.length + m) T = A ++ zeros m ++ T := by
  have e1 : splice (zeros q) 0 A = A ++ zeros (q - A.length) := by unfold splice; rw [Nat.zero_add, zeros_cut]; rfl
  have e2 : (A ++ zeros (q - A.length)).take (A.length + m) = A ++ zeros m := by
    rw [List.take_append, List.take_of_length_le (by omega), zeros_take _ _ (by omega), show A.length + m - A.length = m by omega]
  have e3 : (A ++ zeros (q - A.length)).drop (A.length + m + T.length) = [] := List.drop_of_length_le (by rw [List.length_append, zeros_len]; omega)
  rw [e1, splice, e2, e3, List.append_nil]
theorem vals_append (xs ys : List Int) : vals (xs ++ ys) = vals xs ++ vals ys := by simp [vals]
theorem vals_take (xs : List Int) (k : Nat) : (vals xs).take k = vals (xs.take k) := by simp [vals, List.map_take]
theorem vals_drop (xs : List Int) (k : Nat) : (vals xs).drop k = vals (xs.drop k) := by simp [vals, List.map_drop]
theorem row_own (w : World) (base b q : Nat) (ys : List Int) (hl : ys.length = q) (hq : q ≤ 1048576) (hb : base ≤ b) (hg : w.heap[b]? = some (.cells (vals ys).toArray 3 (0, 0))) : w.ownsRow base 3 1 (.slice (some ⟨b, 0, none⟩) q q) q (vals ys) := by
  refine ⟨by rw [vals_len, hl, Nat.mul_one], .inr ⟨b, q, _, rfl, hb, hg, Nat.le_refl _, by unfold maxLen; omega, by rw [List.size_toArray, vals_len, hl, Nat.mul_one], ?_⟩⟩
  rw [Nat.mul_one, List.take_of_length_le (by rw [List.toList_toArray, vals_len]; omega)]
theorem below_grown {w w' : World} (h : Below w.heap.size w w') : w.grownBy w' none := ⟨h.os, h.tape, h.output, h.size, fun k hk _ => h.block k hk⟩
theorem reads_cut {w : World} {g n : Nat} {xs : List Int} (h : ReadsI w (some ⟨g, 0, none⟩) n xs) (k : Nat) : ∀ j u, (vals (xs.take k))[j]? = some u → w.cell? ((⟨g, 0, none⟩ : Addr).add j) = some u := by
  intro j u hj
  rw [← vals_take, List.getElem?_take] at hj
  split at hj
  · exact readsI_newsA h j u hj
  · cases hj
theorem reads_rest {w : World} {g n : Nat} {xs : List Int} (h : ReadsI w (some ⟨g, 0, none⟩) n xs) (k : Nat) : ∀ j u, (vals (xs.drop k))[j]? = some u → w.cell? ((⟨g, k, none⟩ : Addr).add j) = some u := by
  intro j u hj
  rw [← vals_drop, List.getElem?_drop] at hj
  have := readsI_newsA h _ _ hj
  rw [Addr.add_lit, Nat.zero_add] at this
  rw [Addr.add_lit]
  exact this
/-- A place more behind the k-th, and one less. -/
def wide (xs : List Int) (k : Nat) : List Int := xs.take (k + 1) ++ [0] ++ xs.drop (k + 1)
def slim (xs : List Int) (k : Nat) : List Int := xs.take (k + 1) ++ xs.drop (k + 2)
theorem wide_set {xs : List Int} {k : Nat} (h : k < xs.length) (a b : Int) : ((wide xs k).set k a).set (k + 1) b = two xs k a b := by
  have hx : xs[k]? = some xs[k] := List.getElem?_eq_getElem h
  have hl : (xs.take k).length = k := by rw [List.length_take]; omega
  unfold wide two
  rw [take_snocI hx, List.append_assoc, List.append_assoc, List.set_append_right _ _ (by omega), hl, Nat.sub_self, List.append_assoc, List.set_append_right _ _ (by omega), hl, show k + 1 - k = 1 by omega]
  rfl
theorem slim_set {xs : List Int} {k : Nat} (h : k + 1 < xs.length) (a : Int) : (slim xs k).set k a = one xs k a := by
  have hx : xs[k]? = some xs[k] := List.getElem?_eq_getElem (by omega)
  have hl : (xs.take k).length = k := by rw [List.length_take]; omega
  unfold slim one
  rw [take_snocI hx, List.append_assoc, List.append_assoc, List.set_append_right _ _ (by omega), hl, Nat.sub_self]
  rfl
theorem wide_len {xs : List Int} {k : Nat} (h : k < xs.length) : (wide xs k).length = xs.length + 1 := by unfold wide; simp; omega
theorem slim_len {xs : List Int} {k : Nat} (h : k + 1 < xs.length) : (slim xs k).length + 1 = xs.length := by unfold slim; simp; omega

set_option maxHeartbeats 4000000 in
theorem withPlace_is (g n cap k : Nat) (xs : List Int) (w : World) (hr : ReadsI w (some ⟨g, 0, none⟩) n xs) (hn : n ≤ 1000) (hcap : n ≤ cap) (hk : k < n) :
    Calls Try.prog 96 #[.slice (some ⟨g, 0, none⟩) n cap, .int .i64 (k : Int)] w fun e w' => ∃ b, e = .returned (.slice (some ⟨b, 0, none⟩) (n + 1) (n + 1)) ∧ w'.ownsRow w.heap.size 3 1 (.slice (some ⟨b, 0, none⟩) (n + 1) (n + 1)) (n + 1) (vals (wide xs k)) ∧ w.grownBy w' none := by
  obtain ⟨q, hq⟩ : ∃ q, q = n + 1 := ⟨_, rfl⟩
  rw [← hq]
  have hlen := hr.len
  have hql : (wide xs k).length = q := by have := wide_len (xs := xs) (k := k) (by omega); omega
  have HR := Lib.hid hr
  have HQL := Lib.hid hql
  have HLA := Lib.hid (show (vals (xs.take (k + 1))).length = k + 1 by rw [vals_len, List.length_take]; omega)
  have HLD := Lib.hid (show (vals (xs.drop (k + 1))).length = n - (k + 1) by rw [vals_len, List.length_drop]; omega)
  have HMK := Lib.hid (fun u => makeN_is u q (by omega))
  have HQ := Lib.hid hq
  have HQ6 := Lib.hid (show q ≤ 1048576 by omega)
  have w1 : IntKind.i64.wrap ((n : Int) + 1) = (q : Int) := IntWalk.i64_in _ (by omega) |>.trans (by omega)
  have w2 : IntKind.i64.wrap ((k : Int) + 1) = (k : Int) + 1 := IntWalk.i64_in _ (by omega)
  have w3 : IntKind.i64.wrap ((k : Int) + 2) = (k : Int) + 2 := IntWalk.i64_in _ (by omega)
  have p1 : (0 : Int) ≤ (k : Int) + 1 := by omega
  have p2 : (k : Int) + 1 ≤ (cap : Int) := by omega
  have p3 : ((k : Int) + 1).toNat = k + 1 := by omega
  have p4 : (0 : Int) ≤ (k : Int) + 2 := by omega
  have p5 : ((k : Int) + 2).toNat = k + 2 := by omega
  have p6 : (k : Int) + 2 ≤ (q : Int) := by omega
  have p7 : (k : Int) + 1 ≤ (n : Int) := by omega
  have HK1 := Lib.hid (show k + 1 ≤ q by omega)
  have HKN := Lib.hid (show k + 1 ≤ n by omega)
  have HCN := Lib.hid hcap
  clear hr hql hlen hn hcap hk
  have hmk : ∀ u : World, (Instr.makeSlice 27 (.int .i64 (q : Int)) (.int .i64 (q : Int))).run Try.prog u = .ok (.slice (some ⟨u.heap.size, 0, none⟩) q q) (u.alloc (.cells (zeros q).toArray 3)) := HMK.out
  clear hq
  go_enter Try.func96, Try.ntmps96
  go_upto_region 2 with fail
  have HB0 := Lib.hid (Cell.grown_below (World.grownBy_alloc w (.cells (zeros q).toArray 3) none) (Nat.le_refl _))
  have HZ := Lib.hid (show (w.alloc (.cells (zeros q).toArray 3)).heap[w.heap.size]? = some (.cells (zeros q).toArray 3 (0, 0)) from heap_alloc_new w _)
  have HR1 := Lib.hid (HR.out.past (.cells (zeros q).toArray 3))
  generalize w.alloc (.cells (zeros q).toArray 3) = W0 at *
  clear hmk w1 HMK
  go_upto_region 3 with (refine wpList_copy_splice rfl _ _ 27 27 rfl 3 Try.underlying27 (by kernel_rfl) (some ⟨w.heap.size, 0, none⟩) (some ⟨g, 0, none⟩) q q (k + 1) cap rfl rfl w.heap.size 0 (zeros q) 3 HZ.out (vals (xs.take (k + 1))) (by rw [HLA.out]; exact (Nat.min_eq_left HK1.out).symm) (fun _ => ⟨rfl, _, rfl, reads_cut HR1.out (k + 1)⟩) (by rw [HLA.out, zeros_len]; have := HK1.out; omega) (vals_one _) w.heap.size w HB0.out (Nat.le_refl _) ?_; intro w2 hg2 hb2; have HG2 := Lib.hid (show w2.drew.heap[w.heap.size]? = _ from hg2.out); have HB2 := Lib.hid (Below.drew hb2); clear hg2 hb2)
  have HR2 := Lib.hid (HR.out.on (below_grown HB2.out))
  have HLS := Lib.hid (show (splice (zeros q) 0 (vals (xs.take (k + 1)))).length = q by rw [length_splice _ _ _ (by rw [HLA.out, zeros_len]; have := HK1.out; omega), zeros_len])
  have HF := Lib.hid (show splice (splice (zeros q) 0 (vals (xs.take (k + 1)))) (k + 2) (vals (xs.drop (k + 1))) = vals (wide xs k) by
    have := splice_gap (vals (xs.take (k + 1))) (vals (xs.drop (k + 1))) q 1 (by rw [HLA.out, HLD.out]; have := HQ.out; have := HKN.out; omega)
    rw [HLA.out] at this
    rw [this, show zeros 1 = vals [0] from rfl, ← vals_append, ← vals_append]
    rfl)
  by_cases he : n = k + 1
  · have hqe : q = k + 2 := by have := HQ.out; omega
    by_cases hc : cap = k + 1
    · subst hc
      go_region_law ((refine step_copy_splice rfl (.tmp 19) (.tmp 23) 27 27 rfl 3 Try.underlying27 (by kernel_rfl) (some ⟨w.heap.size, 0, none⟩) (some ⟨g, 0, none⟩) 0 0 0 0 (by first | (simp [Act.eval]; done) | simp [Act.eval, Act.put]) (by first | (simp [Act.eval]; done) | simp [Act.eval, Act.put]) w.heap.size (k + 2) (splice (zeros q) 0 (vals (xs.take (k + 1)))) 3 HG2.out (vals (xs.drop (k + 1))) (by rw [HLD.out]; have := HQ.out; have := HKN.out; first | exact (Nat.min_eq_left (by omega)).symm | exact (Nat.min_eq_right (by omega)).symm | (simp; omega)) (fun h => by rw [HLD.out] at h; omega) (by rw [HLD.out, HLS.out]; have := HQ.out; have := HKN.out; omega) (vals_one _) w.heap.size w HB2.out (Nat.le_refl _) ?_; intro w4 hg4 hb4; have HG4 := Lib.hid hg4; have HB4 := Lib.hid hb4; clear hg4 hb4))
      all_goals
        go_wp2_with fail
        go_ret
        have hg := HG4.out
        rw [show splice (splice (zeros q) 0 (vals (xs.take (k + 1)))) (k + 2) (vals (xs.drop (k + 1))) = vals (wide xs k) from HF.out] at hg
        exact ⟨w.heap.size, (by first | rfl | (rw [hqe]; rfl)), row_own _ _ _ _ _ HQL.out HQ6.out (Nat.le_refl _) hg.out, below_grown HB4.out⟩
    · skip
      go_region_law ((refine step_copy_splice rfl (.tmp 19) (.tmp 23) 27 27 rfl 3 Try.underlying27 (by kernel_rfl) (some ⟨w.heap.size, 0, none⟩) (some ⟨g, k + 1, none⟩) 0 0 0 (cap - (k + 1)) (by first | (simp [Act.eval]; done) | simp [Act.eval, Act.put]) (by first | (simp [Act.eval]; done) | simp [Act.eval, Act.put]) w.heap.size (k + 2) (splice (zeros q) 0 (vals (xs.take (k + 1)))) 3 HG2.out (vals (xs.drop (k + 1))) (by rw [HLD.out]; have := HQ.out; have := HKN.out; first | exact (Nat.min_eq_left (by omega)).symm | exact (Nat.min_eq_right (by omega)).symm | (simp; omega)) (fun h => by rw [HLD.out] at h; omega) (by rw [HLD.out, HLS.out]; have := HQ.out; have := HKN.out; omega) (vals_one _) w.heap.size w HB2.out (Nat.le_refl _) ?_; intro w4 hg4 hb4; have HG4 := Lib.hid hg4; have HB4 := Lib.hid hb4; clear hg4 hb4))
      all_goals
        go_wp2_with fail
        go_ret
        have hg := HG4.out
        rw [show splice (splice (zeros q) 0 (vals (xs.take (k + 1)))) (k + 2) (vals (xs.drop (k + 1))) = vals (wide xs k) from HF.out] at hg
        exact ⟨w.heap.size, (by first | rfl | (rw [hqe]; rfl)), row_own _ _ _ _ _ HQL.out HQ6.out (Nat.le_refl _) hg.out, below_grown HB4.out⟩
  · have hqe : ¬ q = k + 2 := by have := HQ.out; have := HKN.out; omega
    have hc : ¬ cap = k + 1 := by have := HCN.out; have := HKN.out; omega
    go_region_law ((refine step_copy_splice rfl (.tmp 19) (.tmp 23) 27 27 rfl 3 Try.underlying27 (by kernel_rfl) (some ⟨w.heap.size, k + 2, none⟩) (some ⟨g, k + 1, none⟩) (q - (k + 2)) (q - (k + 2)) (n - (k + 1)) (cap - (k + 1)) (by first | (simp [Act.eval]; done) | simp [Act.eval, Act.put]) (by first | (simp [Act.eval]; done) | simp [Act.eval, Act.put]) w.heap.size (k + 2) (splice (zeros q) 0 (vals (xs.take (k + 1)))) 3 HG2.out (vals (xs.drop (k + 1))) (by rw [HLD.out]; have := HQ.out; have := HKN.out; first | exact (Nat.min_eq_left (by omega)).symm | exact (Nat.min_eq_right (by omega)).symm | (simp; omega)) (fun _ => ⟨rfl, _, rfl, reads_rest HR2.out (k + 1)⟩) (by rw [HLD.out, HLS.out]; have := HQ.out; have := HKN.out; omega) (vals_one _) w.heap.size w HB2.out (Nat.le_refl _) ?_; intro w4 hg4 hb4; have HG4 := Lib.hid hg4; have HB4 := Lib.hid hb4; clear hg4 hb4))
    all_goals
      go_wp2_with fail
      go_ret
      have hg := HG4.out
      rw [show splice (splice (zeros q) 0 (vals (xs.take (k + 1)))) (k + 2) (vals (xs.drop (k + 1))) = vals (wide xs k) from HF.out] at hg
      exact ⟨w.heap.size, (by first | rfl | (rw [hqe]; rfl)), row_own _ _ _ _ _ HQL.out HQ6.out (Nat.le_refl _) hg.out, below_grown HB4.out⟩

set_option maxHeartbeats 4000000 in
theorem withoutPlace_is (g n cap k : Nat) (xs : List Int) (w : World) (hr : ReadsI w (some ⟨g, 0, none⟩) n xs) (hn : n ≤ 1000) (hcap : n ≤ cap) (hk : k + 1 < n) :
    Calls Try.prog 102 #[.slice (some ⟨g, 0, none⟩) n cap, .int .i64 (k : Int)] w fun e w' => ∃ b, e = .returned (.slice (some ⟨b, 0, none⟩) (n - 1) (n - 1)) ∧ w'.ownsRow w.heap.size 3 1 (.slice (some ⟨b, 0, none⟩) (n - 1) (n - 1)) (n - 1) (vals (slim xs k)) ∧ w.grownBy w' none := by
  obtain ⟨q, hq⟩ : ∃ q, q = n - 1 := ⟨_, rfl⟩
  rw [← hq]
  have hlen := hr.len
  have hql : (slim xs k).length = q := by have := slim_len (xs := xs) (k := k) (by omega); omega
  have HR := Lib.hid hr
  have HQL := Lib.hid hql
  have HLA := Lib.hid (show (vals (xs.take (k + 1))).length = k + 1 by rw [vals_len, List.length_take]; omega)
  have HLD := Lib.hid (show (vals (xs.drop (k + 2))).length = n - (k + 2) by rw [vals_len, List.length_drop]; omega)
  have HMK := Lib.hid (fun u => makeN_is u q (by omega))
  have HQ := Lib.hid hq
  have HQ6 := Lib.hid (show q ≤ 1048576 by omega)
  have w1 : IntKind.i64.wrap ((n : Int) - 1) = (q : Int) := IntWalk.i64_in _ (by omega) |>.trans (by omega)
  have w2 : IntKind.i64.wrap ((k : Int) + 1) = (k : Int) + 1 := IntWalk.i64_in _ (by omega)
  have w3 : IntKind.i64.wrap ((k : Int) + 2) = (k : Int) + 2 := IntWalk.i64_in _ (by omega)
  have p1 : (0 : Int) ≤ (k : Int) + 1 := by omega
  have p2 : (k : Int) + 1 ≤ (cap : Int) := by omega
  have p3 : ((k : Int) + 1).toNat = k + 1 := by omega
  have p4 : (0 : Int) ≤ (k : Int) + 2 := by omega
  have p5 : ((k : Int) + 2).toNat = k + 2 := by omega
  have p6 : (k : Int) + 1 ≤ (q : Int) := by omega
  have p7 : (k : Int) + 2 ≤ (n : Int) := by omega
  have HK1 := Lib.hid (show k + 1 ≤ q by omega)
  have HKN := Lib.hid (show k + 2 ≤ n by omega)
  have HCN := Lib.hid hcap
  clear hr hql hlen hn hcap hk
  have hmk : ∀ u : World, (Instr.makeSlice 27 (.int .i64 (q : Int)) (.int .i64 (q : Int))).run Try.prog u = .ok (.slice (some ⟨u.heap.size, 0, none⟩) q q) (u.alloc (.cells (zeros q).toArray 3)) := HMK.out
  clear hq
  go_enter Try.func102, Try.ntmps102
  go_upto_region 2 with fail
  have HB0 := Lib.hid (Cell.grown_below (World.grownBy_alloc w (.cells (zeros q).toArray 3) none) (Nat.le_refl _))
  have HZ := Lib.hid (show (w.alloc (.cells (zeros q).toArray 3)).heap[w.heap.size]? = some (.cells (zeros q).toArray 3 (0, 0)) from heap_alloc_new w _)
  have HR1 := Lib.hid (HR.out.past (.cells (zeros q).toArray 3))
  generalize w.alloc (.cells (zeros q).toArray 3) = W0 at *
  clear hmk w1 HMK
  go_upto_region 3 with (refine wpList_copy_splice rfl _ _ 27 27 rfl 3 Try.underlying27 (by kernel_rfl) (some ⟨w.heap.size, 0, none⟩) (some ⟨g, 0, none⟩) q q (k + 1) cap rfl rfl w.heap.size 0 (zeros q) 3 HZ.out (vals (xs.take (k + 1))) (by rw [HLA.out]; exact (Nat.min_eq_left HK1.out).symm) (fun _ => ⟨rfl, _, rfl, reads_cut HR1.out (k + 1)⟩) (by rw [HLA.out, zeros_len]; have := HK1.out; omega) (vals_one _) w.heap.size w HB0.out (Nat.le_refl _) ?_; intro w2 hg2 hb2; have HG2 := Lib.hid (show w2.drew.heap[w.heap.size]? = _ from hg2.out); have HB2 := Lib.hid (Below.drew hb2); clear hg2 hb2)
  have HR2 := Lib.hid (HR.out.on (below_grown HB2.out))
  have HLS := Lib.hid (show (splice (zeros q) 0 (vals (xs.take (k + 1)))).length = q by rw [length_splice _ _ _ (by rw [HLA.out, zeros_len]; have := HK1.out; omega), zeros_len])
  have HF := Lib.hid (show splice (splice (zeros q) 0 (vals (xs.take (k + 1)))) (k + 1) (vals (xs.drop (k + 2))) = vals (slim xs k) by
    have := splice_gap (vals (xs.take (k + 1))) (vals (xs.drop (k + 2))) q 0 (by rw [HLA.out, HLD.out]; have := HQ.out; have := HKN.out; omega)
    rw [HLA.out] at this
    rw [show k + 1 = k + 1 + 0 from rfl, this, show zeros 0 = [] from rfl, List.append_nil, ← vals_append]
    rfl)
  by_cases he : n = k + 2
  · have hqe : q = k + 1 := by have := HQ.out; omega
    by_cases hc : cap = k + 2
    · subst hc
      go_region_law ((refine step_copy_splice rfl (.tmp 19) (.tmp 23) 27 27 rfl 3 Try.underlying27 (by kernel_rfl) (some ⟨w.heap.size, 0, none⟩) (some ⟨g, 0, none⟩) 0 0 0 0 (by first | (simp [Act.eval]; done) | simp [Act.eval, Act.put]) (by first | (simp [Act.eval]; done) | simp [Act.eval, Act.put]) w.heap.size (k + 1) (splice (zeros q) 0 (vals (xs.take (k + 1)))) 3 HG2.out (vals (xs.drop (k + 2))) (by rw [HLD.out]; have := HQ.out; have := HKN.out; first | exact (Nat.min_eq_left (by omega)).symm | exact (Nat.min_eq_right (by omega)).symm | (simp; omega)) (fun h => by rw [HLD.out] at h; omega) (by rw [HLD.out, HLS.out]; have := HQ.out; have := HKN.out; omega) (vals_one _) w.heap.size w HB2.out (Nat.le_refl _) ?_; intro w4 hg4 hb4; have HG4 := Lib.hid hg4; have HB4 := Lib.hid hb4; clear hg4 hb4))
      all_goals
        go_wp2_with fail
        go_ret
        have hg := HG4.out
        rw [show splice (splice (zeros q) 0 (vals (xs.take (k + 1)))) (k + 1) (vals (xs.drop (k + 2))) = vals (slim xs k) from HF.out] at hg
        exact ⟨w.heap.size, (by first | rfl | (rw [hqe]; rfl)), row_own _ _ _ _ _ HQL.out HQ6.out (Nat.le_refl _) hg.out, below_grown HB4.out⟩
    · skip
      go_region_law ((refine step_copy_splice rfl (.tmp 19) (.tmp 23) 27 27 rfl 3 Try.underlying27 (by kernel_rfl) (some ⟨w.heap.size, 0, none⟩) (some ⟨g, k + 2, none⟩) 0 0 0 (cap - (k + 2)) (by first | (simp [Act.eval]; done) | simp [Act.eval, Act.put]) (by first | (simp [Act.eval]; done) | simp [Act.eval, Act.put]) w.heap.size (k + 1) (splice (zeros q) 0 (vals (xs.take (k + 1)))) 3 HG2.out (vals (xs.drop (k + 2))) (by rw [HLD.out]; have := HQ.out; have := HKN.out; first | exact (Nat.min_eq_left (by omega)).symm | exact (Nat.min_eq_right (by omega)).symm | (simp; omega)) (fun h => by rw [HLD.out] at h; omega) (by rw [HLD.out, HLS.out]; have := HQ.out; have := HKN.out; omega) (vals_one _) w.heap.size w HB2.out (Nat.le_refl _) ?_; intro w4 hg4 hb4; have HG4 := Lib.hid hg4; have HB4 := Lib.hid hb4; clear hg4 hb4))
      all_goals
        go_wp2_with fail
        go_ret
        have hg := HG4.out
        rw [show splice (splice (zeros q) 0 (vals (xs.take (k + 1)))) (k + 1) (vals (xs.drop (k + 2))) = vals (slim xs k) from HF.out] at hg
        exact ⟨w.heap.size, (by first | rfl | (rw [hqe]; rfl)), row_own _ _ _ _ _ HQL.out HQ6.out (Nat.le_refl _) hg.out, below_grown HB4.out⟩
  · have hqe : ¬ q = k + 1 := by have := HQ.out; have := HKN.out; omega
    have hc : ¬ cap = k + 2 := by have := HCN.out; have := HKN.out; omega
    go_region_law ((refine step_copy_splice rfl (.tmp 19) (.tmp 23) 27 27 rfl 3 Try.underlying27 (by kernel_rfl) (some ⟨w.heap.size, k + 1, none⟩) (some ⟨g, k + 2, none⟩) (q - (k + 1)) (q - (k + 1)) (n - (k + 2)) (cap - (k + 2)) (by first | (simp [Act.eval]; done) | simp [Act.eval, Act.put]) (by first | (simp [Act.eval]; done) | simp [Act.eval, Act.put]) w.heap.size (k + 1) (splice (zeros q) 0 (vals (xs.take (k + 1)))) 3 HG2.out (vals (xs.drop (k + 2))) (by rw [HLD.out]; have := HQ.out; have := HKN.out; first | exact (Nat.min_eq_left (by omega)).symm | exact (Nat.min_eq_right (by omega)).symm | (simp; omega)) (fun _ => ⟨rfl, _, rfl, reads_rest HR2.out (k + 2)⟩) (by rw [HLD.out, HLS.out]; have := HQ.out; have := HKN.out; omega) (vals_one _) w.heap.size w HB2.out (Nat.le_refl _) ?_; intro w4 hg4 hb4; have HG4 := Lib.hid hg4; have HB4 := Lib.hid hb4; clear hg4 hb4))
    all_goals
      go_wp2_with fail
      go_ret
      have hg := HG4.out
      rw [show splice (splice (zeros q) 0 (vals (xs.take (k + 1)))) (k + 1) (vals (xs.drop (k + 2))) = vals (slim xs k) from HF.out] at hg
      exact ⟨w.heap.size, (by first | rfl | (rw [hqe]; rfl)), row_own _ _ _ _ _ HQL.out HQ6.out (Nat.le_refl _) hg.out, below_grown HB4.out⟩
end Go.Proofs.Ytfoilfgiablleaa.State
