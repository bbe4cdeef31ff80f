/- Meshes: what the law of Balance holds: two meshes in their boxes, their leaves as they read.
   Conditions: none. -/
import Derived.Test.YtmkmlfaekiofcaaMBalance
import Derived.Test.YtmkmlfaekiofcaaMCon
import Derived.Test.YtmkmlfaekiofcaaMDeep
import Derived.Test.YtmkmlfaekiofcaaMSame
import Derived.Test.YtmkmlfaekiofcaaMDraw
import Derived.Test.YtmkmlfaekiofcaaMFacePure
namespace Go.Proofs.Ytmkmlfaekiofcaa.Mesh
open Go.ChangeShapes Go.WideShapes Go.ChangeAt Go.RowKit Go.Proofs.Ytmkmlfaekiofcaa.Cell

structure Two (w wr : World) (R : Int) (B3 B4 g1 n c1 g2 nb c2 : Nat) (xs bs : List C3) : Prop where
  m3 : MBox wr B3 R (.slice (some ⟨g1, 0, none⟩) n c1)
  m4 : MBox wr B4 R (.slice (some ⟨g2, 0, none⟩) nb c2)
  r1 : Reads wr (some ⟨g1, 0, none⟩) n xs
  r2 : Reads wr (some ⟨g2, 0, none⟩) nb bs
  gr : w.grownBy wr none
theorem Two.on {w wr wy : World} {R : Int} {B3 B4 g1 n c1 g2 nb c2 : Nat} {xs bs : List C3} (h : Two w wr R B3 B4 g1 n c1 g2 nb c2 xs bs) (hg : wr.grownBy wy none) : Two w wy R B3 B4 g1 n c1 g2 nb c2 xs bs :=
  ⟨h.m3.kept hg (by simp), h.m4.kept hg (by simp), h.r1.on hg, h.r2.on hg, grown_trans h.gr hg⟩
theorem own_at1 {w : World} {base n : Nat} {v : Value} {xs : List Value} (h : w.ownsRow base 33 3 v n xs) (hn : 1 ≤ n) : ∃ g c, v = .slice (some ⟨g, 0, none⟩) n c := by
  rcases h.2 with ⟨-, h0⟩ | ⟨g, c, cur, rfl, -⟩
  · omega
  · exact ⟨g, c, rfl⟩
end Go.Proofs.Ytmkmlfaekiofcaa.Mesh
