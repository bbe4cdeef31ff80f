/- Meshes: the iterator cellsOfText of chapter 4 as a contract: the cells that the program's way of parsing gives.
   Conditions: at most 135 bytes. -/
import Derived.Test.YtjhfjceieaanhaaMSeq
import Derived.Test.YtjhfjceieaanhaaMParsePure
import Derived.Sort.QuietIn
import Derived.Sort.CutIn
namespace Go.Proofs.Ytjhfjceieaanhaa.Mesh
open Go.ChangeShapes Go.WideShapes Go.ChangeAt Go.RowKit Go.Shelf Go.Proofs.Ytjhfjceieaanhaa.Cell

attribute [local go_sem] Oper.semAt_some

theorem take_byte {s : ByteArray} {k : Nat} (h : k < s.size) : s.data.toList.take (k + 1) = s.data.toList.take k ++ [s[k]] := by
  rw [List.take_add_one, List.getElem?_eq_getElem (by simpa using h)]; rfl
theorem iSt_next {s : ByteArray} {k : Nat} (h : k < s.size) : iSt (s.data.toList.take (k + 1)) = iStep (iSt (s.data.toList.take k)) s[k] := by
  rw [take_byte h, iSt_app]; rfl
theorem iSt_stop (t u : List UInt8) (h : (iSt t).1 = none) : iSt (t ++ u) = iSt t := by
  rw [iSt_app]
  induction u with
  | nil => rfl
  | cons b u ih =>
    rw [List.foldl_cons]
    have : iStep (iSt t) b = iSt t := by unfold iStep; rw [h]
    rw [this]; exact ih

set_option maxRecDepth 100000 in
set_option maxHeartbeats 4000000 in
theorem text1_in (n : Nat) (hn : 1 ≤ n) (l Bt : Nat) (s : ByteArray) (h135 : s.size ≤ 135) (J Jx : List C3 → World → Prop)
    (hY : ∀ pre x W, J pre W → pre.length < 135 → YieldAt Fence.wide (n - 1) Try.prog l (encC x) W fun e W' =>
      (e = .returned (.bool true) ∧ J (pre ++ [x]) W' ∧ KeepsAt Bt Bt W W') ∨ (e = .returned (.bool false) ∧ Jx (pre ++ [x]) W'))
    (hJd : ∀ ys W k, J ys W → J ys (W.drewN k)) (W : World) (hBt : W.cell? ⟨Bt, 0, none⟩ = some (.string s)) (h0 : J [] W) :
    CallsIn Fence.wide n Try.prog 59 #[.func (.yield l) #[] #[], .pointer (some ⟨Bt, 0, none⟩)] W fun e W' => (∃ v, e = .returned v) ∧
      ((∃ ys, ys = (iSt s.data.toList).2 ∧ J ys W') ∨ (∃ pre : List C3, True ∧ Jx pre W')) := by
  refine callsIn_of_wp Try.func59 rfl trivial ?_ rfl
  simp only [Try.ntmps59, List.size_toArray, List.length_cons, List.length_nil, Nat.reduceAdd, Nat.reduceSub, Array.replicate_succ, Array.replicate_zero, List.push_toArray, List.append_toArray, List.nil_append, List.cons_append]
  gi_wp2
  gi_loopw [3, 9] (fun p q wr => ∃ (k : Nat) (e : Int) (ys : List C3), (k : Int) ≤ s.size ∧ q = .int .i64 k ∧ p = .int .i64 e ∧ 0 ≤ e ∧ e ≤ 16 * k ∧ Hid (iSt (s.data.toList.take k) = (some e, ys)) ∧ Hid (ys.length ≤ k) ∧ J ys wr ∧ wr.cell? ⟨Bt, 0, none⟩ = some (.string s)) (fun _ q _ => s.size - (intOf q).toNat)
  case atStart => exact ⟨0, 0, [], by omega, rfl, rfl, by omega, by omega, Lib.hid rfl, Lib.hid (by simp), h0, hBt⟩
  case round =>
    obtain ⟨k, e, ys, hk, rfl, rfl, he0, he1, HI, HL, hJ, hb⟩ := hrel
    by_cases hlt : (k : Int) < s.size
    · have hks : k < s.size := by omega
      have h255 : (s[k].toNat : Int) ≤ 255 := by have := s[k].toNat_lt; omega
      by_cases h124 : s[k] = 124
      · have hq : ((s[k].toNat : Int) == ((⟨#[124]⟩ : ByteArray)[0].toNat : Int)) = true := by rw [h124]; rfl
        gi_wp2
        gi_quiet (fail)
        gi_wp2
        refine ⟨⟨k + 1, e, ys, by omega, by go_num, rfl, he0, by omega, Lib.hid ?_, Lib.hid (by have := HL.out; omega), hJd _ _ _ hJ, (grown_drewN wr _).cell hb (by simp)⟩, by simp [intOf]; omega⟩
        rw [iSt_next hks, HI.out, h124, iStep_sep]
      · have hq : ((s[k].toNat : Int) == ((⟨#[124]⟩ : ByteArray)[0].toNat : Int)) = false := by
          rw [beq_eq_false_iff_ne]
          intro e
          exact h124 (UInt8.toNat_inj.1 (by have h : (s[k].toNat : Int) = ((124 : Nat) : Int) := e; have : (124 : UInt8).toNat = 124 := rfl; omega))
        gi_wp2
        gi_quiet (fail)
        rename_i nq
        gi_upto_region 7 with (refine ⟨trivial, ?_⟩; gi_at_call 40; refine (callsIn_wide.2 (width_is _ _)).mono ?_; rintro e w' ⟨rfl, rfl⟩)
        have hJ1 := hJd _ _ nq hJ
        have hb1 := (grown_drewN wr nq).cell hb (by simp)
        generalize wr.drewN nq = wd at *
        clear hJ hb hq
        obtain ⟨y0, y1⟩ := wd_bounds ((s[k].toNat : Int) - 48)
        have HN := Lib.hid (iSt_next hks)
        rw [HI.out] at HN
        by_cases hw : widthOf ((s[k].toNat : Int) - 48) = 0
        · have hst : iSt s.data.toList = (none, ys) := by
            have h1 : iSt (s.data.toList.take (k + 1)) = (none, ys) := by
              rw [HN.out]; simp only [iStep, if_neg h124]; rw [if_pos (show widthOf (lv s[k]) = 0 from hw)]
            have h2 := iSt_stop (s.data.toList.take (k + 1)) (s.data.toList.drop (k + 1)) (by rw [h1])
            rw [List.take_append_drop, h1] at h2
            exact h2
          have HST := Lib.hid hst; clear hst
          gi_wp2
          refine ⟨fun _ h => (by cases h), ?_⟩
          gi_wp2
          refine bodyPost_ret (results_none rfl _ _ _) rfl ?_
          exact ⟨⟨_, rfl⟩, .inl (by rw [HST.out]; exact ⟨_, rfl, hJ1⟩)⟩
        · obtain ⟨fn, tmps, assign, body, hy, hR⟩ := hY ys (e / 16, (s[k].toNat : Int) - 48, e % 16 / widthOf ((s[k].toNat : Int) - 48)) wd hJ1 (by have := HL.out; omega)
          dsimp only [encC] at hy
          gi_wp2
          refine hR.mono ?_
          rintro e' W3 (⟨rfl, hJ3, hk3⟩ | ⟨rfl, hJx3⟩)
          · gi_wp2
            refine ⟨⟨k + 1, e + widthOf ((s[k].toNat : Int) - 48), _, by omega, by go_num, rfl, by omega, by omega, Lib.hid ?_, Lib.hid ?_, hJ3, hk3.1 _ hb1⟩, by simp [intOf]; omega⟩
            · rw [HN.out]; simp only [iStep, if_neg h124]; rw [if_neg (show ¬ widthOf (lv s[k]) = 0 from hw)]; rfl
            · have := HL.out; simp; omega
          · gi_wp2
            refine bodyPost_ret (results_none rfl _ _ _) rfl ?_
            exact ⟨⟨_, rfl⟩, .inr ⟨_, trivial, hJx3⟩⟩
    · obtain rfl : k = s.size := by omega
      gi_wp2
      go_end0
      have hf : s.data.toList.take s.size = s.data.toList := List.take_of_length_le (by simp)
      have h := HI.out
      rw [hf] at h
      exact ⟨⟨_, rfl⟩, .inl (by rw [h]; exact hJ)⟩

set_option maxHeartbeats 1000000 in
theorem text_in (n : Nat) (s : ByteArray) (w : World) :
    CallsIn Fence.wide n Try.prog 45 #[.string s] w fun e w' => e = .returned (.func (.func 59) #[] #[.pointer (some ⟨w.heap.size, 0, none⟩)]) ∧ w' = w.alloc (.cells #[.string s] 9) := by
  refine callsIn_of_wp Try.func45 rfl trivial ?_ rfl
  simp only [Try.ntmps45, List.size_toArray, List.length_cons, List.length_nil, Nat.reduceAdd, Nat.reduceSub, Array.replicate_succ, Array.replicate_zero, List.push_toArray, List.append_toArray, List.nil_append, List.cons_append]
  gi_wp2
  go_ret
  exact ⟨rfl, rfl⟩

theorem text_stops (n : Nat) (hn : 1 ≤ n) (Bt : Nat) (s : ByteArray) (h135 : s.size ≤ 135) (w : World) (hBt : w.cell? ⟨Bt, 0, none⟩ = some (.string s)) (hb : Bt < w.heap.size) :
    SeqStopsK Fence.wide n Try.prog 59 #[.pointer (some ⟨Bt, 0, none⟩)] encC (KeepsAt Bt Bt) (fun ys => ys = (iSt s.data.toList).2) (fun _ => True) 135 w := fun l J Jx W hW hJ _ hY h0 =>
  text1_in n hn l Bt s h135 J Jx hY (fun ys W k h => hJ ys W _ none h (grown_drewN W k) (fun r e => by cases e)) W ((hW.cell (p := ⟨Bt, 0, none⟩) hb).trans hBt) h0
end Go.Proofs.Ytjhfjceieaanhaa.Mesh
