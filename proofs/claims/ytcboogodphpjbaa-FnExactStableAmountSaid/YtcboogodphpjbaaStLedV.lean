/- Borders and ledgers: what the laws of chapter 13 draw: the reference model's l13Border, DrawBorder, DrawPlaces (all twelve), as contracts; what a drawn border does to a drawn state.
   Conditions: at most 2^20 bytes; none of them lies in the call's own memory. -/
import Derived.Test.YtcboogodphpjbaaStLedK
import Derived.Test.YtcboogodphpjbaaStPutL
import Derived.Test.YtcboogodphpjbaaDrawHeld
set_option maxRecDepth 100000
namespace Go.Proofs.Ytcboogodphpjbaa.State
open Go.ChangeShapes Go.WideShapes Go.ChangeAt Go.RowKit Go.Joins Go.Proofs.Ytcboogodphpjbaa.Cell Go.Proofs.Ytcboogodphpjbaa.Mesh Go.Proofs.Ytcboogodphpjbaa.Law Go.Proofs.Ytcboogodphpjbaa.Ints Go.Deep

theorem mul_two {x y n : Int} (hx : 0 ≤ x ∧ x ≤ 1) (hy : 0 ≤ y ∧ y ≤ n) : 0 ≤ x * y ∧ x * y ≤ n := by
  rcases (show x = 0 ∨ x = 1 by omega) with rfl | rfl
  · rw [Int.zero_mul]; omega
  · rw [Int.one_mul]; exact hy
/-- What l13Border leaves: a border's small numbers; the cursor is one still. -/
def BordCur (B C : Nat) (a : Option Addr) (len cap : Nat) (w : World) (e : Ending) (w' : World) : Prop :=
  ∃ i s o : Int, e = .returned (.agg #[.int .i64 i, .int .i64 s, .int .i64 o]) ∧ (0 ≤ i ∧ i ≤ 2999) ∧ (0 ≤ s ∧ s ≤ 1000) ∧ (0 ≤ o ∧ o ≤ 250) ∧ Draw.Cur B w' C a len cap ∧ w.grownBy w' (some C)
/-- What DrawBorder leaves. -/
def BordNew (w : World) (e : Ending) (w' : World) : Prop :=
  ∃ i s o : Int, e = .returned (.agg #[.int .i64 i, .int .i64 s, .int .i64 o]) ∧ (0 ≤ i ∧ i ≤ 2999) ∧ (0 ≤ s ∧ s ≤ 1000) ∧ (0 ≤ o ∧ o ≤ 250) ∧ w.grownBy w' none
/-- A drawn border at a drawn state: there is room for what enters. -/
theorem drawn_border {R : Int} {n1 n2 : Nat} {xs : List C3} {ms ts bs : List Int} {i s o : Int} (hd : DrawnS R n1 n2 xs ms ts bs) (hi : 0 ≤ i ∧ i ≤ 2999) (hs : 0 ≤ s ∧ s ≤ 1000) (ho : 0 ≤ o ∧ o ≤ 250) :
    ∃ (mm mt : List Int) (M T : Int), (apM R xs ms ts bs i s o = mm ∧ apT R xs ms ts bs i s o = mt ∧ apL0 R xs ms ts bs i s o = i ∧ apL1 R xs ms ts bs i s o = M ∧ apL2 R xs ms ts bs i s o = i * s ∧ apL3 R xs ms ts bs i s o = T)
      ∧ bordB i s o = true ∧ stOk R xs mm mt bs = true ∧ (mm.sum = ms.sum + i - M ∧ mt.sum = ts.sum + i * s - T) ∧ (atI ms (n1 - 1) * o / 1000 = M ∧ 0 ≤ atI ms (n1 - 1) * o ∧ atI ms (n1 - 1) * o ≤ 2500000000) ∧ (0 ≤ M ∧ M ≤ 10000000) ∧ (0 ≤ T ∧ T ≤ 10000000000) ∧ (0 ≤ i * s ∧ i * s ≤ 2999000) := by
  have hb : bordB i s o = true := decide_eq_true (by omega)
  have hok := hd.ok
  have hp : apB R xs ms ts bs i s o = true := by unfold apB; rw [hok, hb]; rfl
  obtain ⟨l2, l3⟩ := hd.len
  obtain ⟨⟨u0, u1⟩, ⟨u2, u3, u4⟩, u5, u6⟩ := out_facts hok hb
  have hl := hd.leaves
  have hat := st_at hok (k := ms.length - 1) (by omega)
  have hsum := (sum_bounds hd.small).2
  rw [l2] at hsum
  have hc : (n1 : Int) * 20000 ≤ 128 * 20000 := Int.mul_le_mul_of_nonneg_right (by omega) (by decide)
  have hls := less_sum (o := o) hok
  have hr : roomB ms i o = true := decide_eq_true (by rw [hls.1]; omega)
  have hm := more_sum hok hb
  have e0 : inM ms i o = i := if_pos hr
  have e2 : inT ms i s o = i * s := if_pos hr
  have v := Int.mul_le_mul_of_nonneg_left hs.2 hi.1
  have v0 := Int.mul_nonneg hi.1 hs.1
  rw [e0, e2] at hm
  refine ⟨moreM ms i o, moreT ms ts i s o, outM ms o, outT ms ts o, ⟨if_pos hp, if_pos hp, (if_pos hp).trans e0, if_pos hp, (if_pos hp).trans e2, if_pos hp⟩, hb, more_ok hok hb, hm, ?_, by omega, by omega, v0, by omega⟩
  rw [← l2]
  exact ⟨rfl, u5, u6⟩

/-- All drawn places. -/
def placesA (g : Nat) (f : Nat → Int) : Grp := ⟨fun W => ∀ j, j < 12 → W.cell? ⟨g, j, none⟩ = some (.int .i64 (f j)), [g], fun W W' h hp j hj => (World.cell?_of_block (h g (by simp))).trans (hp j hj)⟩
theorem places_all {B : Nat} {w : World} {a : Option Addr} {len cap : Nat} (hlen : len ≤ 1048576) (hy : Draw.Bytes B w a len) (hB : B ≤ w.heap.size) :
    Calls Try.prog 9 #[.slice a len cap] w fun e w' => ∃ (g c : Nat) (f : Nat → Int), e = .returned (.slice (some ⟨g, 0, none⟩) 12 c) ∧ (∀ j, j < 12 → 0 ≤ f j ∧ f j ≤ 9999) ∧ Held w w' [placesA g f] := by
  have hy' : Draw.Bytes w.heap.size w a len := fun k hk => by
    obtain ⟨b, off, n, h1, h2, h3⟩ := hy k hk
    exact ⟨b, off, n, h1, by omega, h3⟩
  refine (Draw.draw_places hlen hy' (Nat.le_refl _)).mono ?_
  rintro e w' ⟨g, c, f, rfl, h1, h2, h3, h4⟩
  have hg : w.grownBy w' none := ⟨h4.os, h4.tape, h4.output, h4.size, fun k hk _ => h4.block k hk⟩
  exact ⟨g, c, f, rfl, fun j hj => ⟨(h3 j hj).1, (h3 j hj).2.1⟩, (Held.nil w).add hg (fun j hj => (h3 j hj).2.2) (fun b hb => by rw [List.mem_singleton.1 hb]; exact ⟨h1, h2⟩)⟩
end Go.Proofs.Ytcboogodphpjbaa.State
