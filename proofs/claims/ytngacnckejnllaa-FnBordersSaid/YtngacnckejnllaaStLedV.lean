/- Borders and ledgers: what the laws of chapter 13 draw: the reference model's l13Border, DrawBorder, DrawPlaces (all twelve), as contracts; what a drawn border does to a drawn state.
   Conditions: at most 2^20 bytes; none of them lies in the call's own memory. -/
import Derived.Test.YtngacnckejnllaaStLedK
import Derived.Test.YtngacnckejnllaaStPutL
import Derived.Test.YtngacnckejnllaaDrawHeld
set_option maxRecDepth 100000
namespace Go.Proofs.Ytngacnckejnllaa.State
open Go.ChangeShapes Go.WideShapes Go.ChangeAt Go.RowKit Go.Joins Go.Proofs.Ytngacnckejnllaa.Cell Go.Proofs.Ytngacnckejnllaa.Mesh Go.Proofs.Ytngacnckejnllaa.Law Go.Proofs.Ytngacnckejnllaa.Ints Go.Deep

theorem mul_two {x y n : Int} (hx : 0 ≤ x ∧ x ≤ 1) (hy : 0 ≤ y ∧ y ≤ n) : 0 ≤ x * y ∧ x * y ≤ n := by
  rcases (show x = 0 ∨ x = 1 by omega) with rfl | rfl
  · rw [Int.zero_mul]; omega
  · rw [Int.one_mul]; exact hy
/-- What l13Border leaves: a border's small numbers; the cursor is one still. -/
def BordCur (B C : Nat) (a : Option Addr) (len cap : Nat) (w : World) (e : Ending) (w' : World) : Prop :=
  ∃ i s o : Int, e = .returned (.agg #[.int .i64 i, .int .i64 s, .int .i64 o]) ∧ (0 ≤ i ∧ i ≤ 2999) ∧ (0 ≤ s ∧ s ≤ 1000) ∧ (0 ≤ o ∧ o ≤ 250) ∧ Draw.Cur B w' C a len cap ∧ w.grownBy w' (some C)
set_option maxHeartbeats 8000000 in
theorem bordDraw_is {B : Nat} {w : World} {C : Nat} {a : Option Addr} {len cap : Nat} (hC : Draw.Cur B w C a len cap) :
    Calls Try.prog 32 #[.pointer (some ⟨C, 0, none⟩)] w (BordCur B C a len cap w) := by
  have hlo := hC.lo
  have hlt := hC.lt
  have HSM := Lib.hid hC.small
  have HY := Lib.hid (cut_bytes hC)
  have HBC := Lib.hid (show B ≤ (cutW w C).heap.size by rw [cutW_size (by omega)]; exact hlo)
  have HE := Lib.hid ((held_start hC).box 32 #[.int .i64 0, .int .i64 0, .int .i64 0])
  have HLT := Lib.hid hlt
  clear hC hlo hlt
  go_enter Try.func32, Try.ntmps32
  go_upto_region 1 with fail
  generalize w.alloc (.cells #[.int .i64 0, .int .i64 0, .int .i64 0] 32) = W0 at *
  go_wp2_with fail
  refine (Draw.below_any 2 (by decide) (HE.out.cur 1 rfl HBC.out HSM.out HY.out)).mono ?_
  rintro e w1 ⟨x, x0, x1, rfl, hcu, hgr⟩
  have HE1 := Lib.hid (HE.out.draw 1 rfl hgr hcu)
  clear hcu hgr HE
  go_wp2_with fail
  refine (Draw.below_any 3000 (by decide) (HE1.out.cur 1 rfl HBC.out HSM.out HY.out)).mono ?_
  rintro e w2 ⟨y, y0, y1, rfl, hcu, hgr⟩
  have HE2 := Lib.hid (HE1.out.draw 1 rfl hgr hcu)
  clear hcu hgr HE1
  have hxy := mul_two (x := x) (y := y) (n := 2999) (by omega) (by omega)
  have hw1 : IntKind.i64.wrap (x * y) = x * y := IntWalk.i64_in _ (by omega)
  clear x0 x1 y0 y1
  go_wp2_with fail
  refine (Draw.below_any 1001 (by decide) (HE2.out.cur 1 rfl HBC.out HSM.out HY.out)).mono ?_
  rintro e w3 ⟨s, s0, s1, rfl, hcu, hgr⟩
  have HE3 := Lib.hid (HE2.out.draw 1 rfl hgr hcu)
  have hs : 0 ≤ s ∧ s ≤ 1000 := by omega
  clear hcu hgr HE2 s0 s1
  go_wp2_with fail
  refine (Draw.below_any 2 (by decide) (HE3.out.cur 1 rfl HBC.out HSM.out HY.out)).mono ?_
  rintro e w4 ⟨u, x0, x1, rfl, hcu, hgr⟩
  have HE4 := Lib.hid (HE3.out.draw 1 rfl hgr hcu)
  clear hcu hgr HE3
  go_wp2_with fail
  refine (Draw.below_any 251 (by decide) (HE4.out.cur 1 rfl HBC.out HSM.out HY.out)).mono ?_
  rintro e w5 ⟨v, y0, y1, rfl, hcu, hgr⟩
  have HE5 := Lib.hid (HE4.out.draw 1 rfl hgr hcu)
  clear hcu hgr HE4
  have huv := mul_two (x := u) (y := v) (n := 250) (by omega) (by omega)
  have hw2 : IntKind.i64.wrap (u * v) = u * v := IntWalk.i64_in _ (by omega)
  clear x0 x1 y0 y1
  obtain ⟨r0, r1, r2⟩ := cells3 (HE5.out.nth 2 rfl)
  obtain ⟨f0, f1, f2, -⟩ := frees4 (HE5.out.nth 2 rfl)
  go_wp2_with fail
  have he := HE5.out.put3' 2 rfl (.int .i64 (x * y)) (.int .i64 s) (.int .i64 (u * v))
  exact bodyPost_ret_by (results_cell_row (fn := Try.f32) rfl _ _ w.heap.size _ _ (0, 0) _ rfl (he.nth 2 rfl) Try.underlying32 rfl (by kernel_rfl)) rfl
    ⟨x * y, s, u * v, rfl, hxy, hs, huv, he.cur 1 rfl HBC.out HSM.out HY.out, Held.ends he HLT.out rfl rfl⟩

/-- What DrawBorder leaves. -/
def BordNew (w : World) (e : Ending) (w' : World) : Prop :=
  ∃ i s o : Int, e = .returned (.agg #[.int .i64 i, .int .i64 s, .int .i64 o]) ∧ (0 ≤ i ∧ i ≤ 2999) ∧ (0 ≤ s ∧ s ≤ 1000) ∧ (0 ≤ o ∧ o ≤ 250) ∧ w.grownBy w' none
set_option maxHeartbeats 4000000 in
theorem drawBorder_is {B : Nat} {w : World} {a : Option Addr} {len cap : Nat} (hlen : len ≤ 1048576) (hy : Draw.Bytes B w a len) (hB : B ≤ w.heap.size) :
    Calls Try.prog 11 #[.slice a len cap] w (BordNew w) := by
  have HY := Lib.hid hy; clear hy
  have HE := Lib.hid ((Held.nil w).box 32 #[.int .i64 0, .int .i64 0, .int .i64 0])
  go_enter Try.func11, Try.ntmps11
  go_upto_region 1 with fail
  have HS0 := Lib.hid (show (w.alloc (.cells #[.int .i64 0, .int .i64 0, .int .i64 0] 32)).heap.size = w.heap.size + 1 by simp)
  have HY0 := Lib.hid (HY.out.kept fun k hk => Below.heap_alloc w (.cells #[.int .i64 0, .int .i64 0, .int .i64 0] 32) k (Nat.lt_of_lt_of_le hk hB))
  generalize w.alloc (.cells #[.int .i64 0, .int .i64 0, .int .i64 0] 32) = W0 at *
  go_wp2_with fail
  refine (Draw.new_any hlen HY0.out (by have := HS0.out; omega)).mono ?_; rintro e w1 ⟨rfl, hC1, hg1, hlt1⟩
  have HG1 := Lib.hid hg1; have HC1 := Lib.hid hC1
  clear hg1 hC1 hlt1
  go_wp2_with fail
  refine (bordDraw_is HC1.out).mono ?_
  rintro e w2 ⟨i, s, o, rfl, hi, hs, ho, -, hg⟩
  have HE2 := Lib.hid (HE.out.on (grown_past HG1.out hg (Nat.le_refl _)))
  clear hg
  obtain ⟨r0, r1, r2⟩ := cells3 (HE2.out.nth 0 rfl)
  obtain ⟨f0, f1, f2, -⟩ := frees4 (HE2.out.nth 0 rfl)
  go_wp2_with fail
  have he := HE2.out.put3' 0 rfl (.int .i64 i) (.int .i64 s) (.int .i64 o)
  exact bodyPost_ret_by (results_cell_row (fn := Try.f11) rfl _ _ w.heap.size _ _ (0, 0) _ rfl (he.nth 0 rfl) Try.underlying32 rfl (by kernel_rfl)) rfl
    ⟨i, s, o, rfl, hi, hs, ho, he.gr⟩

/-- A drawn border at a drawn state: there is room for what enters. -/
theorem drawn_border {R : Int} {n1 n2 : Nat} {xs : List C3} {ms ts bs : List Int} {i s o : Int} (hd : DrawnS R n1 n2 xs ms ts bs) (hi : 0 ≤ i ∧ i ≤ 2999) (hs : 0 ≤ s ∧ s ≤ 1000) (ho : 0 ≤ o ∧ o ≤ 250) :
    ∃ (mm mt : List Int) (M T : Int), (apM R xs ms ts bs i s o = mm ∧ apT R xs ms ts bs i s o = mt ∧ apL0 R xs ms ts bs i s o = i ∧ apL1 R xs ms ts bs i s o = M ∧ apL2 R xs ms ts bs i s o = i * s ∧ apL3 R xs ms ts bs i s o = T)
      ∧ bordB i s o = true ∧ stOk R xs mm mt bs = true ∧ (mm.sum = ms.sum + i - M ∧ mt.sum = ts.sum + i * s - T) ∧ (atI ms (n1 - 1) * o / 1000 = M ∧ 0 ≤ atI ms (n1 - 1) * o ∧ atI ms (n1 - 1) * o ≤ 2500000000) ∧ (0 ≤ M ∧ M ≤ 10000000) ∧ (0 ≤ T ∧ T ≤ 10000000000) ∧ (0 ≤ i * s ∧ i * s ≤ 2999000) := by
  have hb : bordB i s o = true := decide_eq_true (by omega)
  have hok := hd.ok
  have hp : apB R xs ms ts bs i s o = true := by unfold apB; rw [hok, hb]; rfl
  obtain ⟨l2, l3⟩ := hd.len
  obtain ⟨⟨u0, u1⟩, ⟨u2, u3, u4⟩, u5, u6⟩ := out_facts hok hb
  have hl := hd.leaves
  have hat := st_at hok (k := ms.length - 1) (by omega)
  have hsum := (sum_bounds hd.small).2
  rw [l2] at hsum
  have hc : (n1 : Int) * 20000 ≤ 128 * 20000 := Int.mul_le_mul_of_nonneg_right (by omega) (by decide)
  have hls := less_sum (o := o) hok
  have hr : roomB ms i o = true := decide_eq_true (by rw [hls.1]; omega)
  have hm := more_sum hok hb
  have e0 : inM ms i o = i := if_pos hr
  have e2 : inT ms i s o = i * s := if_pos hr
  have v := Int.mul_le_mul_of_nonneg_left hs.2 hi.1
  have v0 := Int.mul_nonneg hi.1 hs.1
  rw [e0, e2] at hm
  refine ⟨moreM ms i o, moreT ms ts i s o, outM ms o, outT ms ts o, ⟨if_pos hp, if_pos hp, (if_pos hp).trans e0, if_pos hp, (if_pos hp).trans e2, if_pos hp⟩, hb, more_ok hok hb, hm, ?_, by omega, by omega, v0, by omega⟩
  rw [← l2]
  exact ⟨rfl, u5, u6⟩

/-- All drawn places. -/
def placesA (g : Nat) (f : Nat → Int) : Grp := ⟨fun W => ∀ j, j < 12 → W.cell? ⟨g, j, none⟩ = some (.int .i64 (f j)), [g], fun W W' h hp j hj => (World.cell?_of_block (h g (by simp))).trans (hp j hj)⟩
theorem places_all {B : Nat} {w : World} {a : Option Addr} {len cap : Nat} (hlen : len ≤ 1048576) (hy : Draw.Bytes B w a len) (hB : B ≤ w.heap.size) :
    Calls Try.prog 16 #[.slice a len cap] w fun e w' => ∃ (g c : Nat) (f : Nat → Int), e = .returned (.slice (some ⟨g, 0, none⟩) 12 c) ∧ (∀ j, j < 12 → 0 ≤ f j ∧ f j ≤ 9999) ∧ Held w w' [placesA g f] := by
  have hy' : Draw.Bytes w.heap.size w a len := fun k hk => by
    obtain ⟨b, off, n, h1, h2, h3⟩ := hy k hk
    exact ⟨b, off, n, h1, by omega, h3⟩
  refine (Draw.draw_places hlen hy' (Nat.le_refl _)).mono ?_
  rintro e w' ⟨g, c, f, rfl, h1, h2, h3, h4⟩
  have hg : w.grownBy w' none := ⟨h4.os, h4.tape, h4.output, h4.size, fun k hk _ => h4.block k hk⟩
  exact ⟨g, c, f, rfl, fun j hj => ⟨(h3 j hj).1, (h3 j hj).2.1⟩, (Held.nil w).add hg (fun j hj => (h3 j hj).2.2) (fun b hb => by rw [List.mem_singleton.1 hb]; exact ⟨h1, h2⟩)⟩
end Go.Proofs.Ytngacnckejnllaa.State
