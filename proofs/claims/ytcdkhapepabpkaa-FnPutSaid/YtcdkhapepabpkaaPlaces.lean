/- The reference model's DrawPlaces, as a contract: twelve numbers from 0 to 9999 in a row of its own; nothing that was there turns.
   Conditions: the bytes that are drawn from are at most 1048576. -/
import Derived.Test.YtcdkhapepabpkaaDraw
import Derived.Deep.AppendLies
set_option maxRecDepth 100000
namespace Go.Proofs.Ytcdkhapepabpkaa.Draw
open Go.ChangeShapes Go.WideShapes Go.ChangeAt Go.RowKit

theorem infoI64 : (Try.prog.info? 3).map (fun i => (i.zero, i.size, i.bytes)) = some (some (.int .i64 0), 1, 8) := by kernel_rfl

def PlacesSome (B : Nat) (w : World) (e : Ending) (w' : World) : Prop :=
  ∃ (g cap : Nat) (f : Nat → Int), e = .returned (.slice (some ⟨g, 0, none⟩) 12 cap) ∧ w.heap.size ≤ g ∧ g < w'.heap.size ∧ (∀ j, j < 12 → 0 ≤ f j ∧ f j ≤ 9999 ∧ w'.cell? ⟨g, j, none⟩ = some (.int .i64 (f j))) ∧ Below B w w'

theorem draw_places {B : Nat} {w : World} {a : Option Addr} {len cap : Nat} (hlen : len ≤ 1048576) (hy : Bytes B w a len) (hB : B ≤ w.heap.size) :
    Calls Try.prog 16 #[.slice a len cap] w (PlacesSome B w) := by
  have HY := Lib.hid hy; clear hy
  have HL := Lib.hid hlen; clear hlen
  have HB := Lib.hid hB; clear hB
  obtain ⟨i0, hi, hz0, hz1, hz2⟩ := info_parts infoI64
  go_enter Try.func16, Try.ntmps16
  go_wp2_with fail
  refine (new_any HL.out HY.out HB.out).mono ?_; rintro e w1 ⟨rfl, hC1, hg1, hlt1⟩
  obtain ⟨C, hCe⟩ : ∃ C, C = w.heap.size := ⟨_, rfl⟩
  rw [← hCe] at hC1
  have HC := Lib.hid hCe
  rw [← hCe]
  clear hCe
  have HLT := Lib.hid hlt1; clear hlt1
  have HBel := Lib.hid ((Below.refl B w).grown hg1 HB.out (fun _ e => by cases e))
  clear hg1
  have HCur := Lib.hid hC1; clear hC1
  go_wp2_with fail
  go_loopw [4, 5] (fun v i wr => ∃ k : Nat, (k : Int) ≤ 12 ∧ i = .int .i64 k ∧ (∃ l : List Int, (∀ x ∈ l, 0 ≤ x ∧ x ≤ 9999) ∧ wr.ownsRow w1.heap.size 3 1 v k (l.map (.int .i64 ·))) ∧ Cur B wr C a len cap ∧ Below B w wr ∧ w1.heap.size ≤ wr.heap.size) (fun _ i _ => (12 - intOf i).toNat)
  case atStart => exact ⟨0, by omega, rfl, ⟨[], by simp, World.ownsRow_lit w1 #[] 0 (Nat.le_refl _) (by unfold maxLen; omega) rfl⟩, HCur.out.kept (World.grownBy_alloc w1 _ Option.none) (by simp) (by simp), HBel.out.alloc (Nat.le_trans HB.out HBel.out.size) _, by simp⟩
  case round =>
    obtain ⟨k, hk, rfl, ⟨l, hl, hown⟩, hC1, hbel, hws⟩ := hrel
    have HWS := Lib.hid hws; clear hws
    have HO := Lib.hid hown; clear hown
    have HBl := Lib.hid hbel; clear hbel
    have HLL := Lib.hid hl; clear hl
    by_cases hlt : (k : Int) < 12
    · go_wp2_with fail
      refine (below_any 10000 (by decide) hC1).mono ?_; rintro e w2 ⟨x, hx0, hx1, rfl, hC2, hg1⟩
      have hCs : C < w1.heap.size := by have := HLT.out; have := HC.out; omega
      have HO1 := Lib.hid (HO.out.kept hg1 (.inr (fun e => by have h := (HO.out.lt C e).1; omega)))
      have HBl1 := Lib.hid (HBl.out.trans (grown_below hg1 hC1.lo (Nat.le_trans HB.out HBl.out.size)))
      have HCs := Lib.hid hCs
      clear hC1 hCs
      have HS1 := Lib.hid HBel.out.size
      have HC2 := Lib.hid hC2; clear hC2
      have hk2 : k + 1 ≤ maxLen ∧ (k + 1) * 8 ≤ 140737488355328 := by unfold maxLen; omega
      have HK2 := Lib.hid hk2; clear hk2
      have hsz : w1.heap.size ≤ w2.heap.size := Nat.le_trans HWS.out hg1.size
      have HSZ := Lib.hid hsz; clear hsz hg1
      go_wp2_with (at_builtin; refine wpList_append_own _ rfl _ _ 27 rfl w1.heap.size 3 i0 (.int .i64 0) 1 8 Try.underlying27 hi hz0 hz1 hz2 rfl (by decide) _ _ _ rfl (HO1.out.alloc _) ⟨w2.heap.size, 0, none⟩ 1 1 [.int .i64 x] rfl rfl (cell_one_new _ _ _) (fun x hx => by simp at hx; subst hx; rfl) HK2.out.1 HK2.out.2 (by have := HSZ.out; simp; omega) ?_; intro v' w3 hown' hgrow' _; have HO3 := Lib.hid hown'; clear hown'; have HG3 := Lib.hid hgrow'; clear hgrow')
      go_roundw
      case rel =>
        have hrow : ∀ j, u4.ownBlock = some j → w1.heap.size ≤ j := fun j hj => (HO1.out.lt j hj).1
        have hlow : B ≤ w1.heap.size := Nat.le_trans HB.out HS1.out
        refine ⟨k + 1, by omega, by go_num, ⟨l ++ [x], ?_, ?_⟩, ?_, ?_, ?_⟩
        · intro y hy
          rcases List.mem_append.1 hy with h | h
          · exact HLL.out y h
          · simp at h; subst h; omega
        · rw [List.map_append]; exact HO3.out
        · exact (HC2.out.kept (World.grownBy_alloc w2 _ Option.none) (by simp) (by simp)).kept HG3.out (fun e => by have := hrow C e.symm; have := HCs.out; omega) (fun j hj => Nat.le_trans hlow (hrow j hj))
        · exact (HBl1.out.alloc (Nat.le_trans hlow HSZ.out) _).grown HG3.out (by have := HSZ.out; simp; omega) (fun j hj => Nat.le_trans hlow (hrow j hj))
        · exact Nat.le_trans HSZ.out (Nat.le_trans (by simp) HG3.out.size)
      case measure => simp [intOf]; omega
    · obtain rfl : k = 12 := by omega
      obtain ⟨g, c, rfl, hb, hgl⟩ := HO.out.form (by omega)
      have hlen : l.length = 12 := by have := HO.out.1; simpa using this
      have HR : Hid (∀ j, j < 12 → 0 ≤ l.getD j 0 ∧ l.getD j 0 ≤ 9999 ∧ wr.cell? ⟨g, j, none⟩ = some (.int .i64 (l.getD j 0))) := Lib.hid fun j hj => by
        have hj' : j < l.length := by omega
        have e : l.getD j 0 = l[j] := by rw [List.getD_eq_getElem?_getD, List.getElem?_eq_getElem hj']; rfl
        have hm := HLL.out l[j] (List.getElem_mem hj')
        rw [e]
        refine ⟨hm.1, hm.2, ?_⟩
        rw [HO.out.cellAt j (by omega), List.getElem?_map, List.getElem?_eq_getElem hj']; rfl
      have HGE : Hid (w.heap.size ≤ g) := Lib.hid (Nat.le_trans HBel.out.size hb)
      have HGL := Lib.hid hgl
      clear hb hgl hlen HO HLL hC1
      go_wp2_with fail
      go_ret
      exact ⟨g, c, _, rfl, HGE.out, HGL.out, HR.out, HBl.out⟩
end Go.Proofs.Ytcdkhapepabpkaa.Draw
