/- Meshes: slices.Replace of one cell by two, at a row of cells that the call owns, as a contract: the three roads of its text.
   Conditions: none. -/
import Derived.Test.YtmkmlfaekiofcaaMRepl
import Derived.Deep.CutRange
import Derived.Deep.DeepCutAuto
namespace Go.Proofs.Ytmkmlfaekiofcaa.Mesh
open Go.ChangeShapes Go.WideShapes Go.ChangeAt Go.RowKit Go.Proofs.Ytmkmlfaekiofcaa.Cell

theorem own_parts {w : World} {base g n cap : Nat} {xs : List C3} (h : w.ownsRow base 33 3 (.slice (some ⟨g, 0, none⟩) n cap) n (flatC xs)) :
    base ≤ g ∧ n ≤ cap ∧ cap ≤ maxLen ∧ xs.length = n ∧ ∃ cur : List Value, w.heap[g]? = some (.cells cur.toArray 33 (0, 0)) ∧ cur.length = cap * 3 ∧ cur.take (n * 3) = flatC xs := by
  have hl := h.1
  rw [flatC_len] at hl
  rcases h.2 with ⟨h', -⟩ | ⟨g', cap', cur, h', hb, hg, hnc, hcm, hcs, htake⟩
  · cases h'
  · cases h'
    exact ⟨hb, hnc, hcm, by omega, cur.toList, by simpa using hg, by simpa using hcs, htake⟩
theorem own_make {w : World} {base g n cap : Nat} {xs : List C3} {cur : List Value} (hb : base ≤ g) (hnc : n ≤ cap) (hcm : cap ≤ maxLen) (hl : xs.length = n) (hg : w.heap[g]? = some (.cells cur.toArray 33 (0, 0))) (hcs : cur.length = cap * 3) (htake : cur.take (n * 3) = flatC xs) :
    w.ownsRow base 33 3 (.slice (some ⟨g, 0, none⟩) n cap) n (flatC xs) :=
  ⟨by rw [flatC_len, hl], .inr ⟨g, cap, cur.toArray, rfl, hb, hg, hnc, hcm, by simpa using hcs, by simpa using htake⟩⟩
/-- What slices.Replace leaves: a row of the call's own that reads zs; nothing but the row g was written. -/
def ReplPost (base g : Nat) (w : World) (zs : List C3) (m : Nat) (e : Ending) (w' : World) : Prop :=
  ∃ g' cap', e = .returned (.slice (some ⟨g', 0, none⟩) m cap') ∧ w'.ownsRow base 33 3 (.slice (some ⟨g', 0, none⟩) m cap') m (flatC zs) ∧ w.grownBy w' (some g)

theorem grown_new {a b c : World} {N : Nat} (h : a.grownBy b none) (k : b.grownBy c (some N)) (hN : a.heap.size ≤ N) : a.grownBy c none :=
  ⟨k.os.trans h.os, k.tape.trans h.tape, k.output.trans h.output, Nat.le_trans h.size k.size, fun i hi hne => (k.block i (Nat.lt_of_lt_of_le hi h.size) (by simp; omega)).trans (h.block i hi hne)⟩
theorem grown_any {a b : World} {r : Option Nat} (h : a.grownBy b none) : a.grownBy b r := ⟨h.os, h.tape, h.output, h.size, fun i hi _ => h.block i hi (by simp)⟩
theorem grown_one {a b c : World} {N : Nat} (h : a.grownBy b (some N)) (k : b.grownBy c (some N)) : a.grownBy c (some N) :=
  ⟨k.os.trans h.os, k.tape.trans h.tape, k.output.trans h.output, Nat.le_trans h.size k.size, fun i hi hne => (k.block i (Nat.lt_of_lt_of_le hi h.size) hne).trans (h.block i hi hne)⟩
theorem row_src {w : World} {g n : Nat} {cur : List Value} {xs : List C3} (hg : w.heap[g]? = some (.cells cur.toArray 33 (0, 0))) (htake : cur.take (n * 3) = flatC xs) (k : Nat) :
    ∀ j v, (flatC (xs.drop k))[j]? = some v → w.cell? ⟨g, k * 3 + j, none⟩ = some v := by
  intro j v hj
  rw [← flatC_drop, List.getElem?_drop, ← htake, List.getElem?_take] at hj
  split at hj
  · rw [cell_of_row w g _ cur.toArray _ (0, 0) hg]
    simpa using hj
  · cases hj
theorem row_front_back {row : List Value} {xs : List C3} {p q : C3} {i n : Nat} (hi : i + 1 ≤ n) (hl : xs.length = n) (hrow : (n + 1) * 3 ≤ row.length) (hT : row.take (i * 3) = flatC (xs.take i)) :
    (splice (splice row (i * 3) (flatC [p, q])) ((i + 2) * 3) (flatC (xs.drop (i + 1)))).take ((n + 1) * 3) = flatC (xs.take i ++ [p, q] ++ xs.drop (i + 1)) := by
  have hV : (flatC [p, q]).length = 6 := rfl
  have hTl : (flatC (xs.drop (i + 1))).length = (n - (i + 1)) * 3 := by rw [flatC_len, List.length_drop, hl]
  have h := splice_front_back row (flatC [p, q]) (flatC (xs.drop (i + 1))) (i * 3) (by omega)
  rw [hV, hTl, show i * 3 + 6 = (i + 2) * 3 by omega, show (i + 2) * 3 + (n - (i + 1)) * 3 = (n + 1) * 3 by omega] at h
  rw [h, hT, ← flatC_append, ← flatC_append]
theorem row_back_front {row : List Value} {xs : List C3} {p q : C3} {i n : Nat} (hi : i + 1 ≤ n) (hl : xs.length = n) (hrow : (n + 1) * 3 ≤ row.length) (hT : row.take (i * 3) = flatC (xs.take i)) :
    (splice (splice row ((i + 2) * 3) (flatC (xs.drop (i + 1)))) (i * 3) (flatC [p, q])).take ((n + 1) * 3) = flatC (xs.take i ++ [p, q] ++ xs.drop (i + 1)) := by
  have hV : (flatC [p, q]).length = 6 := rfl
  have hTl : (flatC (xs.drop (i + 1))).length = (n - (i + 1)) * 3 := by rw [flatC_len, List.length_drop, hl]
  have h := splice_back_front row (flatC [p, q]) (flatC (xs.drop (i + 1))) (i * 3) (by omega)
  rw [hV, hTl, show i * 3 + 6 = (i + 2) * 3 by omega, show (i + 2) * 3 + (n - (i + 1)) * 3 = (n + 1) * 3 by omega] at h
  rw [h, hT, ← flatC_append, ← flatC_append]

set_option maxHeartbeats 4000000 in
set_option maxRecDepth 100000 in
theorem repl_end (base g n cap i gv : Nat) (xs : List C3) (p q : C3) (w : World) (hown : w.ownsRow base 33 3 (.slice (some ⟨g, 0, none⟩) n cap) n (flatC xs))
    (hv : w.heap[gv]? = some (.cells (flatC [p, q]).toArray 33 (0, 0))) (hi : i + 1 = n) (hn : n ≤ 1000) (hb : base ≤ w.heap.size) :
    Calls Try.prog 68 #[.slice (some ⟨g, 0, none⟩) n cap, .int .i64 i, .int .i64 ((i : Int) + 1), .slice (some ⟨gv, 0, none⟩) 2 2] w (ReplPost base g w (xs.take i ++ [p, q] ++ xs.drop (i + 1)) (n + 1)) := by
  obtain ⟨i0, hi0, hz0, hz1, hz2⟩ := info_parts infoIdR
  obtain ⟨hbg, hnc, hcm, hl, cur, hg, hcs, htake⟩ := own_parts hown
  have hl0 : xs.drop (i + 1) = [] := List.drop_of_length_le (by omega)
  rw [hl0, List.append_nil]
  have hown1 : w.ownsRow base 33 3 (.slice (some ⟨g, 0, none⟩) i cap) i (flatC (xs.take i)) :=
    own_make hbg (by omega) hcm (by rw [List.length_take]; omega) hg hcs (by rw [take_of_take htake _ (by omega), flatC_take])
  have HN := Lib.hid (World.news_of_block (cs := (flatC [p, q]).toArray) (t := 33) (fr := (0, 0)) hv)
  have HO := Lib.hid hown1
  have HV := Lib.hid hv
  have HF := Lib.hid (flatC_append (xs.take i) [p, q])
  have hcp : (n : Int) ≤ cap := by omega
  have hni : (n : Int) = (i : Int) + 1 := by omega
  clear hown hown1 hg htake hv hl0
  unfold maxLen at hcm
  subst hi
  go_enter Try.func68, Try.ntmps68
  go_wp2_with (at_builtin; refine wpList_append_own _ rfl _ _ 24 rfl base 33 i0 (.agg #[.int .i64 0, .int .i64 0, .int .i64 0]) 3 24 Try.underlying24 hi0 hz0 hz1 hz2 rfl (by decide) _ _ _ rfl HO.out ⟨gv, 0, none⟩ 2 2 (flatC [p, q]) rfl rfl HN.out (flatC_one _) (by unfold maxLen; omega) (by omega) hb ?_; intro v' w1 hown' hgrow hnil; clear hnil; obtain ⟨g', cap', rfl⟩ := ownsRow_succ hown'; have HOW := Lib.hid hown'; have HGR := Lib.hid hgrow; clear hown' hgrow)
  go_ret
  exact ⟨g', cap', rfl, HF.out ▸ HOW.out, HGR.out⟩

set_option maxHeartbeats 4000000 in
set_option maxRecDepth 100000 in
theorem repl_grow (base g n i gv : Nat) (xs : List C3) (p q : C3) (w : World) (hown : w.ownsRow base 33 3 (.slice (some ⟨g, 0, none⟩) n n) n (flatC xs))
    (hv : w.heap[gv]? = some (.cells (flatC [p, q]).toArray 33 (0, 0))) (hi : i + 1 < n) (hn : n ≤ 1000) (hb : base ≤ w.heap.size) :
    Calls Try.prog 68 #[.slice (some ⟨g, 0, none⟩) n n, .int .i64 i, .int .i64 ((i : Int) + 1), .slice (some ⟨gv, 0, none⟩) 2 2] w (ReplPost base g w (xs.take i ++ [p, q] ++ xs.drop (i + 1)) (n + 1)) := by
  obtain ⟨hbg, hnc, hcm, hl, cur, hg, hcs, htake⟩ := own_parts hown
  have HN := Lib.hid (World.news_of_block (cs := (flatC [p, q]).toArray) (t := 33) (fr := (0, 0)) hv)
  have HV := Lib.hid hv
  have HG := Lib.hid hg
  have HT := Lib.hid htake
  have HCS := Lib.hid hcs
  have HL := Lib.hid hl
  have hni : (i : Int) + 1 < n := by omega
  have hn2 : (n : Int) ≤ 1000 := by omega
  clear hown hv hg htake hcs hl hcm hnc
  go_enter Try.func68, Try.ntmps68
  go_wp2_with fail
  go_quiet (fail)
  go_wp2_with (first
    | (at_builtin; refine wpList_append_zeros rfl _ _ rfl g i n (n + 1 - i) cur _ rfl rfl (by omega) HG.out (by have := HCS.out; omega) (by omega) (by omega) (by omega) ?_; intro G row w1 hG1 hG2 HR1 hr1 HT1 hgr1; have HRL := Lib.hid hr1; have HGR1 := Lib.hid hgr1; clear hgr1 hr1)
    | (refine wpList_copy_into rfl _ _ rfl w.heap.size (i * 3) _ _ ⟨gv, 0, none⟩ _ _ rfl rfl row HR1.out (flatC [p, q]) (by rw [show Nat.min 2 (n + 1 - i) = 2 from Nat.min_eq_left (by omega)]; rfl) (fun j v hj => HGR1.out.cell (HN.out j v hj) (by simp)) (by have := HRL.out; show i * 3 + 6 ≤ _; omega) (flatC_one _) ?_; intro z2 w2 HR2 hgr2; have HGR2 := Lib.hid hgr2; clear hgr2))
  have e1 : IntKind.i64.wrap ((i : Int) + 2) = (i : Int) + 2 := IntWalk.i64_in _ (by omega)
  have e2 : (0 : Int) ≤ (i : Int) + 2 := by omega
  have e3 : (i : Int) + 2 ≤ (i : Int) + ((n + 1 - i : Nat) : Int) := by omega
  have e4 : ((i : Int) + 2).toNat = i + 2 := by omega
  have e5 : ¬ (G = i + 2) := by omega
  have e6 : (0 : Int) ≤ (i : Int) + 1 := by omega
  have e7 : (i : Int) + 1 ≤ (n : Int) := by omega
  have e8 : ((i : Int) + 1).toNat = i + 1 := by omega
  have e9 : ¬ (n = i + 1) := by omega
  have hgw : g < w.heap.size := lt_of_block HG.out
  have HS2 := Lib.hid (show ∀ j v, (flatC (xs.drop (i + 1)))[j]? = some v → w2.drew.cell? ((⟨g, (i + 1) * 3, none⟩ : Addr).add j) = some v from fun j v hj => by
    rw [Addr.add_lit]
    exact HGR2.out.cell (HGR1.out.cell (row_src HG.out HT.out (i + 1) j v hj) (by simp)) (by simp; omega))
  have HT2 := Lib.hid (HT1.out.trans ((take_of_take HT.out (i * 3) (by omega)).trans (flatC_take xs i)))
  go_region_law ((refine step_copy_into rfl _ _ rfl w.heap.size ((i + 2) * 3) (i + (n + 1 - i) - (i + 2)) (G - (i + 2)) ⟨g, (i + 1) * 3, none⟩ (n - (i + 1)) (n - (i + 1)) (by simp [Act.eval, Act.put]) (by simp [Act.eval, Act.put]) (splice row (i * 3) (flatC [p, q])) HR2.out (flatC (xs.drop (i + 1))) (by have := HL.out; rw [flatC_len, List.length_drop, show Nat.min (n - (i + 1)) (i + (n + 1 - i) - (i + 2)) = n - (i + 1) from Nat.min_eq_left (by omega)]; omega) HS2.out (by have := HL.out; have := HRL.out; rw [length_splice _ _ _ (by show i * 3 + 6 ≤ _; omega), flatC_len, List.length_drop]; omega) (flatC_one _) ?_; intro z3 w3 HR3 hgr3; have HGR3 := Lib.hid hgr3; clear hgr3))
  all_goals
    go_wp2_with fail
    go_ret
    have hk : i + (n + 1 - i) = n + 1 := by omega
    have hl := HL.out
    have hrl := HRL.out
    have hs1 : (splice row (i * 3) (flatC [p, q])).length = row.length := length_splice _ _ _ (by show i * 3 + 6 ≤ _; omega)
    refine ⟨w.heap.size, G, ?_, own_make hb (by omega) hG2 (by simp; omega) HR3.out ?_ (row_front_back (by omega) hl (by omega) HT2.out), ?_⟩
    · show Ending.returned (Value.slice (some ⟨w.heap.size, 0, none⟩) (i + (n + 1 - i)) G) = _
      rw [hk]
    · rw [length_splice _ _ _ (by rw [hs1, flatC_len, List.length_drop]; omega), hs1, hrl]
    · exact grown_any (grown_new (grown_new (grown_trans (grown_drewN w nq) HGR1.out) HGR2.out (Nat.le_refl _)) (⟨HGR3.out.os, HGR3.out.tape, HGR3.out.output, HGR3.out.size, HGR3.out.block⟩ : w2.grownBy w3 _) (Nat.le_refl _))
end Go.Proofs.Ytmkmlfaekiofcaa.Mesh
