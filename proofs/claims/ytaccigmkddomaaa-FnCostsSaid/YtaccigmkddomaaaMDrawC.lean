/- Meshes: the reference model's draws of a mesh by a cursor (l04Mesh, l05Mesh), as contracts: the cursor is one still; nothing but its block is written.
   Conditions: at most 2^20 bytes; none of them lies in the call's own memory. -/
import Derived.Test.YtaccigmkddomaaaMDraw
import Derived.Test.YtaccigmkddomaaaMBalAll
import Derived.Test.YtaccigmkddomaaaPkCopy
set_option maxRecDepth 100000
namespace Go.Proofs.Ytaccigmkddomaaa.Mesh
open Go.ChangeShapes Go.WideShapes Go.ChangeAt Go.RowKit Go.Proofs.Ytaccigmkddomaaa.Cell

/-- A drawn mesh, and the cursor as one. -/
def MeshCur (B C : Nat) (a : Option Addr) (len cap : Nat) (w : World) (e : Ending) (w' : World) : Prop := MeshPost B C w e w' ∧ Draw.Cur B w' C a len cap ∧ w.grownBy w' (some C)
/-- A drawn balanced mesh in a new row, and the cursor as one. -/
def MeshCurB (B C : Nat) (a : Option Addr) (len cap : Nat) (w : World) (e : Ending) (w' : World) : Prop :=
  ∃ (R : Int) (xs : List C3) (x : Option Addr) (c : Nat), e = .returned (.agg #[.int .i64 R, .slice x xs.length c]) ∧ meshOk R xs = true ∧ firstGap xs < 0 ∧ w'.ownsRow w.heap.size 35 3 (.slice x xs.length c) xs.length (flatC xs) ∧ Draw.Cur B w' C a len cap ∧ w.grownBy w' (some C)

set_option maxHeartbeats 8000000 in
theorem mesh_cur {B : Nat} {w : World} {C : Nat} {a : Option Addr} {len cap : Nat} (hC : Draw.Cur B w C a len cap) (hB : B ≤ w.heap.size) :
    Calls Try.prog 43 #[.pointer (some ⟨C, 0, none⟩)] w (MeshCur B C a len cap w) := by
  have hlt := hC.lt
  have hlo := hC.lo
  have HC := Lib.hid hC
  have hm0 := MBox.new w 0 (.slice none 0 0)
  have HM0 := Lib.hid hm0; clear hm0
  go_enter Try.func43, Try.ntmps43
  go_wp2_with fail
  refine (Draw.below_any 3 (by decide) (hC.kept (World.grownBy_alloc w _ Option.none) (by simp) (by simp))).mono ?_
  rintro e w1 ⟨x, hx0, hx1, rfl, hC1, hg1⟩
  have hx3 : x < 3 := by omega
  have hsz1 : w.heap.size + 1 ≤ w1.heap.size := by have := hg1.size; simpa using this
  have hr1 := HM0.out.kept hg1 (by simp; omega)
  have hbw1 : Below B w w1 := (grown_below (World.grownBy_alloc w _ none) hB).trans (Draw.grown_below hg1 hlo (by simp; omega))
  obtain ⟨R, hR⟩ : ∃ R : Nat, (R : Int) = 1 + x := ⟨(1 + x).toNat, by omega⟩
  have hO2 : Out B C w1.heap.size a len cap (1 + x) (w1.alloc (.cells #[.int .i64 (1 + x), .slice none 0 0] 26)) [] (.slice none 0 0) :=
    ⟨hC1.kept (World.grownBy_alloc _ _ none) (by simp) (by simp), MBox.new _ _ _, World.ownsRow_nil _ _ _ _, by simp; omega⟩
  have hr2 := hr1.alloc (.cells #[.int .i64 (1 + x), .slice none 0 0] 26)
  have hbw2 := hbw1.trans (grown_below (World.grownBy_alloc w1 (.cells #[.int .i64 (1 + x), .slice none 0 0] 26) none) (by omega : B ≤ w1.heap.size))
  have HKP := Lib.hid (show ∀ b, b < w.heap.size → b ≠ C → (w1.alloc (.cells #[.int .i64 (1 + x), .slice none 0 0] 26)).heap[b]? = w.heap[b]? from fun b hb hne => (Below.heap_alloc _ _ b (by omega)).trans ((hg1.block b (by simp; omega) (by simp; omega)).trans (Below.heap_alloc _ _ b hb)))
  have HO2 := Lib.hid hO2; have HR2 := Lib.hid hr2; have HB2 := Lib.hid hbw2
  clear hC hC1 hg1 hr1 hbw1 hO2 hr2 hbw2 hx1
  have hsz2 : w.heap.size + 1 < (w1.alloc (.cells #[.int .i64 (1 + x), .slice none 0 0] 26)).heap.size := by simp; omega
  have hCs : C < (w1.alloc (.cells #[.int .i64 (1 + x), .slice none 0 0] 26)).heap.size := by simp; omega
  have HSZ := Lib.hid (And.intro hsz2 hCs); clear hsz2 hCs
  rw [← hR] at HO2 HR2 HB2 HSZ HKP
  go_wp2_with fail
  rw [← hR]
  obtain ⟨W2, hW2⟩ : ∃ W2, W2 = w1.alloc (.cells #[.int .i64 (R : Int), .slice none 0 0] 26) := ⟨_, rfl⟩
  rw [← hW2] at HO2 HR2 HB2 HSZ HKP ⊢
  clear hW2
  have hR1 : 1 ≤ R := by omega
  have hR3 : R ≤ 3 := by omega
  have hRi1 : (1 : Int) ≤ R := by omega
  have hRi3 : (R : Int) ≤ 3 := by omega
  clear hR hx0 hx3
  go_loopw [4] (fun p wr => ∃ (k : Nat) (ys : List C3) (v' : Value), (k : Int) ≤ R ∧ p = .int .i64 k ∧ Hid (Out B C w1.heap.size a len cap R wr ys v') ∧ Hid (run ys = some (16 * (k : Int))) ∧ Hid (Fr C w1.heap.size W2 wr (.slice none 0 0) v')) (fun p _ => R - (intOf p).toNat)
  case atStart => exact ⟨0, [], _, by omega, rfl, HO2, Lib.hid rfl, Lib.hid (Fr.refl _ _ _ _)⟩
  case round =>
    obtain ⟨k, ys, v', hk, rfl, HOk, HRk, HFk⟩ := hrel
    have b0 := HOk.out.box.c0
    by_cases hlt2 : (k : Int) < R
    · have hok : okId (k : Int) 0 0 = true := ok_true (by simp; omega)
      have hst : startOf (k : Int) 0 0 = 16 * (k : Int) := by
        rw [show startOf (k : Int) 0 0 = (k : Int) * 16 + 0 * widthOf 0 from if_pos hok]; simp; omega
      have HQ := Lib.hid (And.intro hok hst); clear hok hst
      go_wp2_with (first
        | (go_at_call 39; (with_reducible refine (Draw.below_any 2 (by decide) HOk.out.cur).mono ?_); rintro en wa ⟨y, hy0, hy1, rfl, hCa, hga⟩; have hy2 : y < 2 := (by omega); have HOa := Lib.hid (HOk.out.drawn (by omega) hCa hga); have HGA := Lib.hid hga; clear hCa hga hy1)
        | (go_at_call 68; (with_reducible refine (root_is (by omega) (by omega) 4 (k : Int) 0 0 (1 + y) _ ys v' _ HQ.out.1 (by omega) (by omega) (by omega) HOa.out HRk.out HQ.out.2).mono ?_); rintro en w3 ⟨rfl, ys', v3, hO3, hR3', hF3⟩; have HO3 := Lib.hid hO3; have HR3 := Lib.hid hR3'; have HF3 := Lib.hid hF3; clear hO3 hR3' hF3))
      go_roundw
      case rel =>
        refine ⟨k + 1, ys', v3, by omega, by go_num, HO3, Lib.hid ?_, Lib.hid ((HFk.out.trans (Fr.of_grown (v := v') HGA.out (.inr (.inl rfl)))).trans HF3.out)⟩
        rw [HR3.out]
        exact congrArg some (by have : widthOf 0 = 16 := rfl; omega)
      case measure => simp [intOf]; omega
    · obtain rfl : k = R := by omega
      obtain ⟨a', c', rfl⟩ := own_form2 HOk.out.row
      have b1 := HOk.out.box.c1
      have hres : MBox wr w.heap.size 0 (.slice none 0 0) := (HFk.out.block w.heap.size (by have := HSZ.out.1; omega) (by omega) (by omega) (by simp [Value.ownBlock])).trans HR2.out
      have d0 := hres.c0
      have d1 := hres.c1
      have f0 := hres.f0
      have f1 := hres.f1
      have HRS := Lib.hid hres; clear hres
      go_wp2_with fail
      have hg1 := grownBy_setC wr w.heap.size 0 (.int .i64 (k : Int))
      have hg2 := grownBy_setC (wr.setCell ⟨w.heap.size, 0, none⟩ (.int .i64 (k : Int))) w.heap.size 1 (.slice a' ys.length c')
      have ho1 := HOk.out.row.kept hg1 (.inr (MBox.not_row HRS.out HOk.out.row).symm)
      have ho2 := ho1.kept hg2 (.inr (MBox.not_row (MBox.set0 HRS.out (k : Int)) ho1).symm)
      have hbl := HB2.out.trans (HFk.out.below hlo (by omega) (by have := HSZ.out.1; omega) (by simp [Value.ownBlock]))
      have hb3 := (hbl.setCell (p := ⟨w.heap.size, 0, none⟩) hB (.int .i64 (k : Int))).setCell (p := ⟨w.heap.size, 1, none⟩) hB (.slice a' ys.length c')
      have hcur : Draw.Cur B ((wr.setCell ⟨w.heap.size, 0, none⟩ (.int .i64 (k : Int))).setCell ⟨w.heap.size, 1, none⟩ (.slice a' ys.length c')) C a len cap :=
        (HOk.out.cur.kept hg1 (by simp; omega) (fun x hx => by cases hx; exact hB)).kept hg2 (by simp; omega) (fun x hx => by cases hx; exact hB)
      have hkeep := HKP.out
      have hgrow : w.grownBy ((wr.setCell ⟨w.heap.size, 0, none⟩ (.int .i64 (k : Int))).setCell ⟨w.heap.size, 1, none⟩ (.slice a' ys.length c')) (some C) :=
        ⟨hb3.os, hb3.tape, hb3.output, hb3.size, fun b hb hne => (heap_setCell_other _ ⟨w.heap.size, 1, none⟩ b _ (by simp; omega)).trans ((heap_setCell_other _ ⟨w.heap.size, 0, none⟩ b _ (by simp; omega)).trans ((HFk.out.block b (by have := HSZ.out.1; omega) (fun e => hne (by rw [e])) (by omega) (by simp [Value.ownBlock])).trans (hkeep b hb (fun e => hne (by rw [e])))))⟩
      exact bodyPost_ret_by (results_cell_row (fn := Try.f43) rfl _ _ w.heap.size _ _ (0, 0) _ rfl (MBox.set1 (MBox.set0 HRS.out (k : Int)) _) Try.underlying26 rfl (by kernel_rfl)) rfl
        ⟨⟨⟨k, ys, a', c', rfl, by omega, by omega, decide_eq_true ⟨by omega, by omega, by rw [HRk.out]; congr 1; omega⟩, ho2, hb3⟩, fun b hb hne => (heap_setCell_other _ ⟨w.heap.size, 1, none⟩ b _ (by simp; omega)).trans ((heap_setCell_other _ ⟨w.heap.size, 0, none⟩ b _ (by simp; omega)).trans ((HFk.out.block b (by have := HSZ.out.1; omega) hne (by omega) (by simp [Value.ownBlock])).trans (HKP.out b hb hne)))⟩, hcur, hgrow⟩

set_option maxHeartbeats 1000000 in
theorem meshB_cur {B : Nat} {w : World} {C : Nat} {a : Option Addr} {len cap : Nat} (hC : Draw.Cur B w C a len cap) (hB : B ≤ w.heap.size) :
    Calls Try.prog 61 #[.pointer (some ⟨C, 0, none⟩)] w (MeshCurB B C a len cap w) := by
  have hlt := hC.lt
  have HC := Lib.hid hC
  have hm0 := MBox.new w 0 (.slice none 0 0)
  have HM0 := Lib.hid hm0; clear hm0
  go_enter Try.func61, Try.ntmps61
  go_wp2_with fail
  refine (mesh_cur (hC.kept (World.grownBy_alloc w _ Option.none) (by simp) (by simp)) (by simp; omega)).mono ?_
  rintro e w1 ⟨⟨⟨R, xs, a', c', rfl, h1, h3, hm, ho, hb⟩, hkp⟩, hcur1, hgrow1⟩
  have HCU := Lib.hid hcur1; have HGW := Lib.hid hgrow1; clear hcur1 hgrow1
  clear hC h1 h3
  obtain ⟨-, hl1, hl2⟩ := mesh_parts hm
  obtain ⟨g1, c1, hv⟩ := own_at1 ho hl1
  cases hv
  have hk0 := hkp w.heap.size (by simp) (by omega)
  have HR1 := Lib.hid (show MBox w1 w.heap.size 0 (.slice none 0 0) from hk0.trans HM0.out)
  have hs1 : w.heap.size + 1 ≤ w1.heap.size := by have := hb.size; simpa using this
  have HKP := Lib.hid hkp
  have HBL := Lib.hid hb
  have HO := Lib.hid ho
  have HMM := Lib.hid hm
  clear hkp hb ho hm hk0
  go_wp2_with fail
  refine (specBalance_is R g1 xs.length c' xs w1 (own_reads HO.out) (by omega)).mono ?_
  rintro e w2 ⟨v, rfl, ho2, hg2⟩
  obtain ⟨a2, c2, rfl⟩ := own_shape ho2
  have hrs := HR1.out.kept hg2 (by simp)
  have d0 := hrs.c0
  have d1 := hrs.c1
  have f0 := hrs.f0
  have f1 := hrs.f1
  have HRS := Lib.hid hrs
  have HO2 := Lib.hid (own_down ho2 (show w.heap.size ≤ w1.heap.size by omega))
  have HC2 := Lib.hid (HCU.out.kept hg2 (by simp) (by simp))
  have HG2 := Lib.hid hg2
  clear ho2 hg2 hrs
  go_wp2_with fail
  have hg1 := grownBy_setC w2 w.heap.size 0 (.int .i64 R)
  have hg3 := grownBy_setC (w2.setCell ⟨w.heap.size, 0, none⟩ (.int .i64 R)) w.heap.size 1 (.slice a2 (balOf R xs).length c2)
  have ho1 := HO2.out.kept hg1 (.inr (MBox.not_row HRS.out HO2.out).symm)
  have ho3 := ho1.kept hg3 (.inr (MBox.not_row (MBox.set0 HRS.out R) ho1).symm)
  have hbl := ((grown_below (World.grownBy_alloc w (.cells #[.int .i64 0, .slice none 0 0] 26) none) hB).trans HBL.out).trans (grown_below HG2.out (show B ≤ w1.heap.size by omega))
  have hb3 := (hbl.setCell (p := ⟨w.heap.size, 0, none⟩) hB (.int .i64 R)).setCell (p := ⟨w.heap.size, 1, none⟩) hB (.slice a2 (balOf R xs).length c2)
  obtain ⟨q1, q2⟩ := balOf_ok HMM.out
  have hc3 := (HC2.out.kept hg1 (by simp; omega) (fun x hx => by cases hx; exact hB)).kept hg3 (by simp; omega) (fun x hx => by cases hx; exact hB)
  have hgr : w.grownBy ((w2.setCell ⟨w.heap.size, 0, none⟩ (.int .i64 R)).setCell ⟨w.heap.size, 1, none⟩ (.slice a2 (balOf R xs).length c2)) (some C) :=
    ⟨hb3.os, hb3.tape, hb3.output, hb3.size, fun b hb hne => (heap_setCell_other _ ⟨w.heap.size, 1, none⟩ b _ (by simp; omega)).trans ((heap_setCell_other _ ⟨w.heap.size, 0, none⟩ b _ (by simp; omega)).trans ((HG2.out.block b (by omega) (by simp)).trans ((HGW.out.block b (by simp; omega) hne).trans (Below.heap_alloc _ _ b hb))))⟩
  exact bodyPost_ret_by (results_cell_row (fn := Try.f61) rfl _ _ w.heap.size _ _ (0, 0) _ rfl (MBox.set1 (MBox.set0 HRS.out R) _) Try.underlying26 rfl (by kernel_rfl)) rfl
    ⟨R, balOf R xs, a2, c2, rfl, q1, by omega, ho3, hc3, hgr⟩
end Go.Proofs.Ytaccigmkddomaaa.Mesh
