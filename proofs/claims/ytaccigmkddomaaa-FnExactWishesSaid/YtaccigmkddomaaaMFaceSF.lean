/- Meshes: the reference model's faces: l05Face, FirstUnbalanced, FaceLevel, CountFaces, as contracts.
   Conditions: at most 2^20 leaves. -/
import Derived.Test.YtaccigmkddomaaaMFaceIF
import Derived.Test.YtaccigmkddomaaaMFaceS
set_option maxRecDepth 100000
namespace Go.Proofs.Ytaccigmkddomaaa.Mesh
open Go.ChangeShapes Go.WideShapes Go.ChangeAt Go.RowKit Go.Proofs.Ytaccigmkddomaaa.Cell
theorem specFace_is (R : Int) (i : Nat) (a : Option Addr) (n cap : Nat) (xs : List C3) (x y : C3) (w : World) (hr : Reads w a n xs) (hn : n ≤ 1048576) (hx : xs[i]? = some x) (hy : xs[i + 1]? = some y) :
    Calls Try.prog 82 #[.agg #[.int .i64 R, .slice a n cap], .int .i64 i] w fun e w' => e = .returned (.int .i64 (faceAt xs i)) ∧ w.grownBy w' none := by
  rw [faceAt_of hx hy]
  have hb := boxM_new w 26 R (.slice a n cap)
  have hr1 := hr.past (.cells #[.int .i64 R, .slice a n cap] 26)
  have hg0 : w.grownBy (w.alloc (.cells #[.int .i64 R, .slice a n cap] 26)) none := g_alloc (grown_refl _) _
  obtain ⟨r, l, j⟩ := x
  obtain ⟨r', l', j'⟩ := y
  have hi : (i : Int) + 1 < n := by have := (List.getElem?_eq_some_iff.1 hy).1; have := hr.len; omega
  have hni : (n : Int) ≤ 1048576 := by omega
  obtain ⟨g, rfl, hg, d0, d1, d2⟩ := hr1.at_ i _ hx
  obtain ⟨g_, hg_, -, f0, f1, f2⟩ := hr1.at_ (i + 1) _ hy
  cases hg_
  have hb1 := hb.c1
  have HG := Lib.hid hg0
  dsimp only at d0 d1 d2 f0 f1 f2 ⊢
  clear hr hr1 hx hy d0 d2 f0 f2 hb hg0
  by_cases h1 : l < l'
  · rw [show max l l' = l' by omega]
    go_enter Try.func82, Try.ntmps82
    go_wp2_with fail
    go_quiet (fail)
    go_wp2_with fail
    go_ret
    exact ⟨rfl, g_drewN HG.out _⟩
  · rw [show max l l' = l by omega]
    go_enter Try.func82, Try.ntmps82
    go_wp2_with fail
    go_quiet (fail)
    go_wp2_with fail
    go_ret
    exact ⟨rfl, g_drewN HG.out _⟩

end Go.Proofs.Ytaccigmkddomaaa.Mesh
