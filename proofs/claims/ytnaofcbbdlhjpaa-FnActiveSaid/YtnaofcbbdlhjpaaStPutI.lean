/- States: contentOf, put and PutCell of the program, as contracts.
   Conditions: at most 2^20 leaves and numbers. -/
import Derived.Test.YtnaofcbbdlhjpaaStClone
import Derived.Test.YtnaofcbbdlhjpaaStI
import Derived.Test.YtnaofcbbdlhjpaaStPutS
import Derived.Test.YtnaofcbbdlhjpaaStFillS
set_option maxRecDepth 100000
namespace Go.Proofs.Ytnaofcbbdlhjpaa.State
open Go.ChangeShapes Go.WideShapes Go.ChangeAt Go.RowKit Go.Joins Go.Proofs.Ytnaofcbbdlhjpaa.Cell Go.Proofs.Ytnaofcbbdlhjpaa.Mesh Go.Proofs.Ytnaofcbbdlhjpaa.Law Go.Proofs.Ytnaofcbbdlhjpaa.Ints Go.Proofs.Ytnaofcbbdlhjpaa.Draws Go.Deep

theorem free2 {b : Nat} {t : TypeId} {vs : Array Value} {W : World} (h : (boxG b t vs).P W) : W.frozen? ⟨b, 0, none⟩ = false ∧ W.frozen? ⟨b, 1, none⟩ = false := ⟨boxG.free h 0, boxG.free h 1⟩

set_option maxHeartbeats 4000000 in
theorem contentOf_is (R : Int) (a1 a4 : Option Addr) (g2 g3 n1 n2 n3 n4 c1 c2 c3 c4 k : Nat) (h2 : k < n2) (h3 : k < n3) (w : World) :
    Calls Try.prog 88 #[.agg #[.int .i64 R, .slice a1 n1 c1, .slice (some ⟨g2, 0, none⟩) n2 c2, .slice (some ⟨g3, 0, none⟩) n3 c3, .slice a4 n4 c4], .int .i64 (k : Int)] w fun e w' => e = .returned (.agg #[.pointer (some ⟨g2, k, none⟩), .pointer (some ⟨g3, k, none⟩)]) ∧ w.grownBy w' none := by
  have i2 : (k : Int) < n2 := by omega
  have i3 : (k : Int) < n3 := by omega
  clear h2 h3
  have he := ((Held.nil w).box 29 #[.int .i64 R, .slice a1 n1 c1, .slice (some ⟨g2, 0, none⟩) n2 c2, .slice (some ⟨g3, 0, none⟩) n3 c3, .slice a4 n4 c4]).box 88 #[.pointer none, .pointer none]
  simp only [World.size_alloc] at he
  have HE := Lib.hid he; clear he
  go_enter Try.func88, Try.ntmps88
  go_upto_region 1 with fail
  generalize (w.alloc (.cells #[.int .i64 R, .slice a1 n1 c1, .slice (some ⟨g2, 0, none⟩) n2 c2, .slice (some ⟨g3, 0, none⟩) n3 c3, .slice a4 n4 c4] 29)).alloc (.cells #[.pointer none, .pointer none] 88) = W0 at *
  obtain ⟨p0, p1, p2, p3, p4⟩ := box5 (HE.out.nth 0 rfl)
  obtain ⟨r0, r1⟩ := box2 (HE.out.nth 1 rfl)
  obtain ⟨f0, f1⟩ := free2 (HE.out.nth 1 rfl)
  go_region
  all_goals
    have hH := ((HE.out.on (gr_drew (grown_refl W0))).put 1 rfl 0 (.pointer (some ⟨g2, k, none⟩))).put 1 rfl 1 (.pointer (some ⟨g3, k, none⟩))
    go_wp2_with fail
    exact bodyPost_ret_by (results_cell_row (fn := Try.f88) rfl _ _ (w.heap.size + 1) _ _ (0, 0) _ rfl (hH.nth 1 rfl) Try.underlying88 rfl (by kernel_rfl)) rfl ⟨rfl, hH.gr⟩

end Go.Proofs.Ytnaofcbbdlhjpaa.State
