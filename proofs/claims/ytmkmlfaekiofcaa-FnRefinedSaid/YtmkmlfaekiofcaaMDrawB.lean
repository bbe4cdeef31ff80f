/- Meshes: the reference model's draw of a balanced mesh (l05Mesh, DrawBalanced), as contracts: a valid and balanced mesh in memory of the call's own.
   Conditions: at most 2^20 bytes; none of them lies in the call's own memory. -/
import Derived.Test.YtmkmlfaekiofcaaMBalanceS
import Derived.Test.YtmkmlfaekiofcaaMBalLaw
import Derived.Test.YtmkmlfaekiofcaaMOwn
namespace Go.Proofs.Ytmkmlfaekiofcaa.Mesh
open Go.ChangeShapes Go.WideShapes Go.ChangeAt Go.RowKit Go.Proofs.Ytmkmlfaekiofcaa.Cell

/-- A drawn mesh that is balanced. -/
def DrawPostB (B : Nat) (w : World) (e : Ending) (w' : World) : Prop :=
  ∃ (R : Int) (xs : List C3) (a : Option Addr) (c : Nat), e = .returned (.agg #[.int .i64 R, .slice a xs.length c]) ∧ meshOk R xs = true ∧ firstGap xs < 0 ∧ w'.ownsRow B 33 3 (.slice a xs.length c) xs.length (flatC xs) ∧ Below B w w'
def MeshPostB (B C : Nat) (w : World) (e : Ending) (w' : World) : Prop := DrawPostB B w e w' ∧ ∀ b, b < w.heap.size → b ≠ C → w'.heap[b]? = w.heap[b]?

set_option maxHeartbeats 1000000 in
theorem meshB_is {B : Nat} {w : World} {C : Nat} {a : Option Addr} {len cap : Nat} (hC : Draw.Cur B w C a len cap) (hB : B ≤ w.heap.size) :
    Calls Try.prog 39 #[.pointer (some ⟨C, 0, none⟩)] w (MeshPostB B C w) := by
  have hlt := hC.lt
  have HC := Lib.hid hC
  have hm0 := MBox.new w 0 (.slice none 0 0)
  have HM0 := Lib.hid hm0; clear hm0
  go_enter Try.func39, Try.ntmps39
  go_wp2_with fail
  refine (mesh_is (hC.kept (World.grownBy_alloc w _ Option.none) (by simp) (by simp)) (by simp; omega)).mono ?_
  rintro e w1 ⟨⟨R, xs, a', c', rfl, h1, h3, hm, ho, hb⟩, hkp⟩
  clear hC h1 h3
  obtain ⟨-, hl1, hl2⟩ := mesh_parts hm
  obtain ⟨g1, c1, hv⟩ := own_at1 ho hl1
  cases hv
  have hk0 := hkp w.heap.size (by simp) (by omega)
  have HR1 := Lib.hid (show MBox w1 w.heap.size 0 (.slice none 0 0) from hk0.trans HM0.out)
  have hs1 : w.heap.size + 1 ≤ w1.heap.size := by have := hb.size; simpa using this
  have HKP := Lib.hid hkp
  have HBL := Lib.hid hb
  have HO := Lib.hid ho
  have HMM := Lib.hid hm
  clear hkp hb ho hm hk0
  go_wp2_with fail
  refine (specBalance_is R g1 xs.length c' xs w1 (own_reads HO.out) (by omega)).mono ?_
  rintro e w2 ⟨v, rfl, ho2, hg2⟩
  obtain ⟨a2, c2, rfl⟩ := own_shape ho2
  have hrs := HR1.out.kept hg2 (by simp)
  have d0 := hrs.c0
  have d1 := hrs.c1
  have f0 := hrs.f0
  have f1 := hrs.f1
  have HRS := Lib.hid hrs
  have HO2 := Lib.hid (own_down ho2 (show B ≤ w1.heap.size by omega))
  have HG2 := Lib.hid hg2
  clear ho2 hg2 hrs
  go_wp2_with fail
  have hg1 := grownBy_setC w2 w.heap.size 0 (.int .i64 R)
  have hg3 := grownBy_setC (w2.setCell ⟨w.heap.size, 0, none⟩ (.int .i64 R)) w.heap.size 1 (.slice a2 (balOf R xs).length c2)
  have ho1 := HO2.out.kept hg1 (.inr (MBox.not_row HRS.out HO2.out).symm)
  have ho3 := ho1.kept hg3 (.inr (MBox.not_row (MBox.set0 HRS.out R) ho1).symm)
  have hbl := ((grown_below (World.grownBy_alloc w (.cells #[.int .i64 0, .slice none 0 0] 26) none) hB).trans HBL.out).trans (grown_below HG2.out (show B ≤ w1.heap.size by omega))
  have hb3 := (hbl.setCell (p := ⟨w.heap.size, 0, none⟩) hB (.int .i64 R)).setCell (p := ⟨w.heap.size, 1, none⟩) hB (.slice a2 (balOf R xs).length c2)
  obtain ⟨q1, q2⟩ := balOf_ok HMM.out
  exact bodyPost_ret_by (results_cell_row (fn := Try.f39) rfl _ _ w.heap.size _ _ (0, 0) _ rfl (MBox.set1 (MBox.set0 HRS.out R) _) Try.underlying26 rfl (by kernel_rfl)) rfl
    ⟨⟨R, balOf R xs, a2, c2, rfl, q1, by omega, ho3, hb3⟩, fun b hb hne => (heap_setCell_other _ ⟨w.heap.size, 1, none⟩ b _ (by simp; omega)).trans ((heap_setCell_other _ ⟨w.heap.size, 0, none⟩ b _ (by simp; omega)).trans ((HG2.out.block b (by omega) (by simp)).trans ((HKP.out b (by simp; omega) hne).trans (heap_alloc_old _ _ b hb))))⟩

set_option maxHeartbeats 1000000 in
theorem drawB_is {w : World} {a : Option Addr} {len cap : Nat} (hlen : len ≤ 1048576) (hy : Draw.Bytes w.heap.size w a len) :
    Calls Try.prog 13 #[.slice a len cap] w (DrawPostB w.heap.size w) := by
  have HL := Lib.hid hlen; clear hlen
  have HY := Lib.hid hy; clear hy
  have hm0 := MBox.new w 0 (.slice none 0 0)
  have HM0 := Lib.hid hm0; clear hm0
  have hy1 : Draw.Bytes w.heap.size (w.alloc (.cells #[.int .i64 0, .slice none 0 0] 26)) a len := HY.out.kept fun k hk => heap_alloc_old _ _ _ hk
  have HY1 := Lib.hid hy1; clear hy1
  go_enter Try.func13, Try.ntmps13
  go_wp2_with fail
  refine (Draw.new_any (B := w.heap.size) HL.out HY1.out (by simp)).mono ?_
  rintro e w1 ⟨rfl, hC1, hg1, hs1⟩
  have hr1 := HM0.out.kept hg1 (by simp)
  have hbw1 := (grown_below (World.grownBy_alloc w (.cells #[.int .i64 0, .slice none 0 0] 26) none) (Nat.le_refl _)).trans (grown_below hg1 (by simp : w.heap.size ≤ _))
  have hsz : w.heap.size ≤ w1.heap.size := hbw1.size
  have hC1' : Draw.Cur w.heap.size w1 (w.heap.size + 1) a len cap := by simpa using hC1
  have HC1 := Lib.hid hC1'; clear hC1'; have HR1 := Lib.hid hr1; have HB1 := Lib.hid hbw1; have HG1 := Lib.hid hg1; have HS1 := Lib.hid hs1; clear hC1 hr1 hbw1 hg1 hs1
  go_wp2_with fail
  refine (meshB_is (B := w.heap.size) HC1.out hsz).mono ?_
  rintro e w2 ⟨⟨R, xs, a', c', rfl, hm, hgp, ho, hb⟩, hkp⟩
  have hrs : MBox w2 w.heap.size 0 (.slice none 0 0) := (hkp w.heap.size (by have := HS1.out; simp at this; omega) (by omega)).trans HR1.out
  have d0 := hrs.c0
  have d1 := hrs.c1
  have f0 := hrs.f0
  have f1 := hrs.f1
  have HRS := Lib.hid hrs; have HO := Lib.hid ho; have HB := Lib.hid (HB1.out.trans hb); clear hrs ho hb
  have HM := Lib.hid (And.intro hm hgp); clear hm hgp
  go_wp2_with fail
  have hg1 := grownBy_setC w2 w.heap.size 0 (.int .i64 R)
  have hg2 := grownBy_setC (w2.setCell ⟨w.heap.size, 0, none⟩ (.int .i64 R)) w.heap.size 1 (.slice a' xs.length c')
  have ho1 := HO.out.kept hg1 (.inr (MBox.not_row HRS.out HO.out).symm)
  have ho2 := ho1.kept hg2 (.inr (MBox.not_row (MBox.set0 HRS.out R) ho1).symm)
  have hb3 := (HB.out.setCell (p := ⟨w.heap.size, 0, none⟩) (Nat.le_refl _) (.int .i64 R)).setCell (p := ⟨w.heap.size, 1, none⟩) (Nat.le_refl _) (.slice a' xs.length c')
  exact bodyPost_ret_by (results_cell_row (fn := Try.f13) rfl _ _ w.heap.size _ _ (0, 0) _ rfl (MBox.set1 (MBox.set0 HRS.out R) _) Try.underlying26 rfl (by kernel_rfl)) rfl
    ⟨R, xs, a', c', rfl, HM.out.1, HM.out.2, ho2, hb3⟩
end Go.Proofs.Ytmkmlfaekiofcaa.Mesh
