/- Meshes: what the laws of changed meshes hold between their calls.
   Conditions: none. -/
import Derived.Test.YtmkmlfaekiofcaaMDrawB
import Derived.Test.YtmkmlfaekiofcaaMFaceS
import Derived.Test.YtmkmlfaekiofcaaMCoAns
import Derived.Test.YtmkmlfaekiofcaaMEq
namespace Go.Proofs.Ytmkmlfaekiofcaa.Mesh
open Go.ChangeShapes Go.WideShapes Go.ChangeAt Go.RowKit Go.Proofs.Ytmkmlfaekiofcaa.Cell

theorem own_cap {w : World} {base n cap : Nat} {a : Option Addr} {xs : List Value} (h : w.ownsRow base 33 3 (.slice a n cap) n xs) (hn : 1 ≤ n) : n ≤ cap := by
  rcases h.2 with ⟨-, h0⟩ | ⟨g, c, cur, he, -, -, hc, -⟩
  · omega
  · cases he; exact hc
/-- One mesh in its box. -/
structure One (w wr : World) (R : Int) (B3 g1 n c1 : Nat) (xs : List C3) : Prop where
  m3 : MBox wr B3 R (.slice (some ⟨g1, 0, none⟩) n c1)
  r1 : Reads wr (some ⟨g1, 0, none⟩) n xs
  gr : w.grownBy wr none
theorem One.on {w wr wy : World} {R : Int} {B3 g1 n c1 : Nat} {xs : List C3} (h : One w wr R B3 g1 n c1 xs) (hg : wr.grownBy wy none) : One w wy R B3 g1 n c1 xs :=
  ⟨h.m3.kept hg (by simp), h.r1.on hg, grown_trans h.gr hg⟩
theorem Two.one {w wr : World} {R : Int} {B3 B4 g1 n c1 g2 nb c2 : Nat} {xs bs : List C3} (h : Two w wr R B3 B4 g1 n c1 g2 nb c2 xs bs) : One w wr R B3 g1 n c1 xs := ⟨h.m3, h.r1, h.gr⟩
/-- A second mesh is made, and laid into a box of its own. -/
theorem One.two {w wr w2 : World} {R : Int} {B3 g1 n c1 g2 nb c2 : Nat} {xs bs : List C3} (h : One w wr R B3 g1 n c1 xs) (hg : wr.grownBy w2 none) {base : Nat} (ho : w2.ownsRow base 33 3 (.slice (some ⟨g2, 0, none⟩) nb c2) nb (flatC bs)) :
    Two w (w2.alloc (.cells #[.int .i64 R, .slice (some ⟨g2, 0, none⟩) nb c2] 26)) R B3 w2.heap.size g1 n c1 g2 nb c2 xs bs :=
  ⟨(h.m3.kept hg (by simp)).alloc _, MBox.new w2 _ _, (h.r1.on hg).past _, (own_reads ho).past _, g_alloc (grown_trans h.gr hg) _⟩
theorem bal_true {R : Int} {xs : List C3} (h : meshOk R xs = true) (hg : firstGap xs < 0) : balanced R xs = true := by
  simp [balanced, h]
  omega
theorem co_facts {R : Int} {n g1 c1 k : Nat} {xs : List C3} (hm : meshOk R xs = true) (hg : firstGap xs < 0) (hl : xs.length = n) (hc : n ≤ c1) : ∃ (b : Bool) (zs : List C3) (nz : Nat), zs.length = nz ∧ 1 ≤ nz ∧ nz ≤ 128 ∧ (b = true → (nz : Int) = (n : Int) - 1) ∧ (b = false → zs = xs ∧ nz = n)
    ∧ (∀ u : World, Reads u (some ⟨g1, 0, none⟩) n xs → Calls Try.prog 18 #[.agg #[.int .i64 R, .slice (some ⟨g1, 0, none⟩) n c1], .int .i64 k] u (GivesT R b nz zs u))
    ∧ (∀ u : World, Reads u (some ⟨g1, 0, none⟩) n xs → Calls Try.prog 19 #[.agg #[.int .i64 R, .slice (some ⟨g1, 0, none⟩) n c1], .int .i64 k] u fun e w' => e = .returned (.bool b) ∧ u.grownBy w' none)
    ∧ (∀ (u : World) (a : Option Addr) (c : Nat), Reads u a nz zs → Calls Try.prog 21 #[.agg #[.int .i64 R, .slice a nz c]] u fun e w' => e = .returned (.bool true) ∧ u.grownBy w' none) := by
  obtain ⟨-, hl1, hl2⟩ := mesh_parts hm
  obtain ⟨b1, b2⟩ := balanced_co (i := (k : Int)) hm hg
  obtain ⟨-, hk1, hk2⟩ := mesh_parts b1
  refine ⟨mayCo R xs k, coOf R xs k, _, rfl, hk1, hk2, fun h => ?_, fun h => ?_, fun u hr => ?_, fun u hr => ?_, fun u a c hr => ?_⟩
  · obtain ⟨-, k', x, y, -, hx, hy, -, -, -, hro⟩ := mayCo_parts h
    have := merge_len hx hy
    rw [hro]
    omega
  · have e : coOf R xs k = xs := by simp [coOf, h]
    rw [e]
    exact ⟨rfl, hl⟩
  · exact (coarsen_is R k g1 n c1 xs u hr (by omega) hc).mono gives_t
  · exact mayCo_is R k _ n c1 xs u hr (by omega)
  · have q := specIsBalanced_is R a _ c _ u hr (by omega)
    rw [bal_true b1 b2] at q
    exact q
end Go.Proofs.Ytmkmlfaekiofcaa.Mesh
