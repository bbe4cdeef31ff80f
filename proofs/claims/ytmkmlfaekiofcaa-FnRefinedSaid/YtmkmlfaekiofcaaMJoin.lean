/- Meshes: joinLeaves of the program, as a contract: two leaves replaced by the parent of the first, in memory of its own; nothing that was there is written.
   Conditions: at most 1000 leaves. -/
import Derived.Test.YtmkmlfaekiofcaaMSplitS
import Derived.Test.YtmkmlfaekiofcaaMChgPure
import Derived.Test.YtmkmlfaekiofcaaMOwn
import Derived.ArgAppend
namespace Go.Proofs.Ytmkmlfaekiofcaa.Mesh
open Go.ChangeShapes Go.WideShapes Go.ChangeAt Go.RowKit Go.Proofs.Ytmkmlfaekiofcaa.Cell

/-- append to a slice with no room, of whoever it is. -/
theorem step_append_full {w : World} {ops : Array Oper} {o : Oper} {a : Act} {K : Act → World → Prop} {Q : Exit → Act → World → Prop} {E : Prop} (hgd : o.guard = none) (s x : Operand)
    (ho : o.op = .call { callee := .builtin .append, args := #[s, x], argTypes := #[24, 24] })
    (b : Addr) (k : Nat) (olds : List Value) (hs : a.eval s = .slice (some b) k k) (hlo : olds.length = k * 3) (holds : ∀ j u, olds[j]? = some u → w.cell? (b.add j) = some u)
    (ad : Addr) (m c : Nat) (news : List Value) (hx : a.eval x = .slice (some ad) m c) (hl : news.length = m * 3) (hnews : ∀ j u, news[j]? = some u → w.cell? (ad.add j) = some u) (hm : 0 < m)
    (hbig : k + m ≤ 1048577)
    (h : ∀ v' w', w'.ownsRow w.heap.size 33 3 v' (k + m) (olds ++ news) → w.grownBy w' none → K (a.put o.dst v') w') :
    if Region.wanted o (yielded ops a.tmps) = true then Oper.wp Try.prog o a w K Q else E := by
  have hw : Region.wanted o (yielded ops a.tmps) = true := by simp [Region.wanted, hgd]
  rw [if_pos hw]
  obtain ⟨i0, hi0, hz0, hz1, hz2⟩ := info_parts infoIdR
  obtain ⟨v', w', hrun, r1, r2⟩ := run_append_arg_grows (P := Try.prog) w 24 o.type 33 i0 (.agg #[.int .i64 0, .int .i64 0, .int .i64 0]) 3 24 Try.underlying24 hi0 hz0 hz1 hz2 rfl (by decide) b k k olds hlo holds ad m c news hl hnews (by omega) (by unfold maxLen; omega) (by omega)
  unfold Oper.wp
  simp [execOp, ho, resolve, invoke, builtin, hs, hx, hrun, Result.andThen]
  exact h v' w' r1 r2
theorem up_to (x p : C3) (h : okOf x = true) (hl : 1 ≤ x.2.1) (hp : parOf x = p) (w : World) :
    Calls Try.prog 72 #[.agg #[.int .i64 x.1, .int .i64 x.2.1, .int .i64 x.2.2]] w fun e w' => e = .returned (.agg #[.int .i64 p.1, .int .i64 p.2.1, .int .i64 p.2.2]) ∧ w.grownBy w' none := by
  subst hp
  obtain ⟨r, l, i⟩ := x
  obtain ⟨h0, h1, h2, h3, h4, h5, -, -⟩ := bounds (show okId r l i = true from h)
  exact (up_is r l i hl (by omega) (by omega) (by omega) w).mono fun _ _ ⟨he, hw⟩ => ⟨he, hw ▸ g_alloc (g_alloc (grown_refl _) _) _⟩
theorem one_new (w : World) (p : C3) : (w.alloc (.cells #[.int .i64 p.1, .int .i64 p.2.1, .int .i64 p.2.2] 33)).heap[w.heap.size]? = some (.cells (flatC [p]).toArray 33 (0, 0)) := heap_alloc_new w _

set_option maxHeartbeats 4000000 in
theorem join_is (g n cap k : Nat) (xs : List C3) (x : C3) (w : World) (hr : Reads w (some ⟨g, 0, none⟩) n xs) (hn : n ≤ 1000) (hcap : n ≤ cap) (hx : xs[k]? = some x) (ho : okOf x = true) (hl : 1 ≤ x.2.1) (hk2 : k + 2 ≤ n) :
    Calls Try.prog 46 #[.slice (some ⟨g, 0, none⟩) n cap, .int .i64 k] w fun e w' => ∃ v, e = .returned v ∧ w'.ownsRow w.heap.size 33 3 v (k + 1 + (n - (k + 2))) (flatC (merge2 xs k)) ∧ w.grownBy w' none := by
  obtain ⟨i0, hi0, hz0, hz1, hz2⟩ := info_parts infoIdR
  have HS := Lib.hid (merge2_of hx)
  obtain ⟨p, hp⟩ : ∃ p, parOf x = p := ⟨_, rfl⟩
  rw [hp] at HS
  have HP := Lib.hid (up_to x p ho hl hp)
  obtain ⟨r, l, i⟩ := x
  have hki : (k : Int) < n := by omega
  have hni : (n : Int) ≤ 1000 := by omega
  have hnc : (n : Int) ≤ cap := by omega
  have hkc : (k : Int) ≤ cap := by omega
  have HR := Lib.hid hr
  have HLN := Lib.hid hr.len
  obtain ⟨g_, hg_, -, d0, d1, d2⟩ := hr.at_ k _ hx
  cases hg_
  dsimp only at d0 d1 d2
  clear hx ho hl hp hr
  have HLA := Lib.hid (show (flatC (xs.take k)).length = k * 3 by rw [flatC_len, List.length_take, HLN.out]; omega)
  go_enter Try.func46, Try.ntmps46
  go_upto_region 1 with fail
  go_cut [5] from 6 to 17 (fun v wx => ∃ a3 cap3, v = .slice a3 (k + 1) cap3 ∧ Hid (wx.ownsRow w.heap.size 33 3 (.slice a3 (k + 1) cap3) (k + 1) (flatC (xs.take k) ++ flatC [p])) ∧ Hid (w.grownBy wx none))
  case first =>
    go_region_law (first
      | (go_simp; go_at_call 72; ((with_reducible refine (HP.out _).mono ?_); rintro e w1 ⟨rfl, hg⟩; dsimp only; have HG1 := Lib.hid (grown_trans (show w.grownBy _ none by first | exact gr_drew (grown_refl w) | exact grown_refl w) hg); clear hg))
      | (refine step_append_full rfl _ _ rfl ⟨g, 0, none⟩ k (flatC (xs.take k)) (by simp [Act.eval]) HLA.out (reads_take (HR.out.on (g_alloc HG1.out _)) k) ⟨w1.heap.size, 0, none⟩ 1 1 (flatC [p]) (by simp [Act.eval]) rfl (World.news_of_block (cs := (flatC [p]).toArray) (t := 33) (fr := (0, 0)) (one_new w1 p)) (by omega) (by omega) ?_; intro v' w2 hown' hgrow; obtain ⟨a3, cap3, rfl⟩ := own_shape hown'; have HO := Lib.hid hown'; have HG2 := Lib.hid (grown_trans (g_alloc HG1.out _) hgrow); clear hown' hgrow))
    all_goals
      go_wp2_with fail
      go_meet
      exact ⟨_, _, rfl, Lib.hid (own_down HO.out (by have := HG1.out.size; simp; omega)), HG2⟩
  case rest =>
    obtain ⟨a3, cap3, rfl, HO, HG⟩ := hcut
    have f1 : IntKind.i64.wrap ((k : Int) + 2) = (k : Int) + 2 := IntWalk.i64_in _ (by omega)
    have f2 : (0 : Int) ≤ (k : Int) + 2 := by omega
    have f3 : (k : Int) + 2 ≤ (n : Int) := by omega
    have f4 : ((k : Int) + 2).toNat = k + 2 := by omega
    have HLD := Lib.hid (show (flatC (xs.drop (k + 2))).length = (n - (k + 2)) * 3 by rw [flatC_len, List.length_drop, HLN.out])
    by_cases hc : cap = k + 2
    · have h0 : flatC (xs.drop (k + 2)) = [] := by rw [List.drop_of_length_le (by rw [HLN.out]; omega)]; rfl
      have H0 := Lib.hid h0; clear h0
      go_wp2_with (at_builtin; refine wpList_append_own _ rfl _ _ 24 rfl w.heap.size 33 i0 (.agg #[.int .i64 0, .int .i64 0, .int .i64 0]) 3 24 Try.underlying24 hi0 hz0 hz1 hz2 rfl (by decide) _ _ _ rfl HO.out ⟨g, 0, none⟩ (n - (k + 2)) 0 (flatC (xs.drop (k + 2))) rfl HLD.out (fun j u hj => by rw [H0.out] at hj; simp at hj) (flatC_one _) (by unfold maxLen; omega) (by omega) (by exact HG.out.size) ?_; intro v' w5 hown' hgrow hnil; clear hnil; have HOW := Lib.hid hown'; have HGR := Lib.hid (show World.grownBy _ w5 (Value.ownBlock (.slice a3 (k + 1) cap3)) from hgrow); clear hown' hgrow)
      go_ret
      have ho := HOW.out
      rw [show flatC (xs.take k) ++ flatC [p] ++ flatC (xs.drop (k + 2)) = flatC (merge2 xs k) by rw [HS.out, ← flatC_append, ← flatC_append]] at ho
      exact ⟨_, rfl, ho, grown_row HG.out HGR.out HO.out⟩
    · have HND := Lib.hid (reads_drop (HR.out.on HG.out) (k + 2))
      go_wp2_with (at_builtin; refine wpList_append_own _ rfl _ _ 24 rfl w.heap.size 33 i0 (.agg #[.int .i64 0, .int .i64 0, .int .i64 0]) 3 24 Try.underlying24 hi0 hz0 hz1 hz2 rfl (by decide) _ _ _ rfl HO.out ⟨g, (k + 2) * 3, none⟩ (n - (k + 2)) (cap - (k + 2)) (flatC (xs.drop (k + 2))) rfl HLD.out HND.out (flatC_one _) (by unfold maxLen; omega) (by omega) (by exact HG.out.size) ?_; intro v' w5 hown' hgrow hnil; clear hnil; have HOW := Lib.hid hown'; have HGR := Lib.hid (show World.grownBy _ w5 (Value.ownBlock (.slice a3 (k + 1) cap3)) from hgrow); clear hown' hgrow)
      go_ret
      have ho := HOW.out
      rw [show flatC (xs.take k) ++ flatC [p] ++ flatC (xs.drop (k + 2)) = flatC (merge2 xs k) by rw [HS.out, ← flatC_append, ← flatC_append]] at ho
      exact ⟨_, rfl, ho, grown_row HG.out HGR.out HO.out⟩
end Go.Proofs.Ytmkmlfaekiofcaa.Mesh
