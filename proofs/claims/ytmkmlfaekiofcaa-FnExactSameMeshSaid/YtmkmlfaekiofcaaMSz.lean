/- Meshes: szMesh with any number left, as a contract; what the exact law of SameMesh holds between its calls.
   Conditions: none. -/
import Derived.Test.YtmkmlfaekiofcaaMEq
import Derived.Test.YtmkmlfaekiofcaaMOwn
namespace Go.Proofs.Ytmkmlfaekiofcaa.Mesh
open Go.ChangeShapes Go.WideShapes Go.ChangeAt Go.RowKit Go.Proofs.Ytmkmlfaekiofcaa.Cell

theorem szS_to (a : Option Addr) (n cap : Nat) (L : Int) (hn : n ≤ maxLen) (h0 : 0 ≤ L) (h1 : L ≤ 1048576) (w : World) :
    Calls Try.prog 53 #[.slice a n cap, .int .i64 L] w fun e w' => e = .returned (.int .i64 (if (n : Int) ≤ L then L - n else -1)) ∧ w' = w := by
  have hm : n ≤ 9223372036854775807 := by simpa [maxLen] using hn
  have hmi : (n : Int) ≤ 9223372036854775807 := by omega
  clear hm hn
  by_cases h : (n : Int) ≤ L
  · rw [if_pos h]
    go_enter Try.func53, Try.ntmps53
    go_wp2
    go_ret
    exact ⟨rfl, rfl⟩
  · have hi : L < (n : Int) := by omega
    rw [if_neg h]
    clear h
    go_enter Try.func53, Try.ntmps53
    go_wp2
    go_ret
    exact ⟨rfl, rfl⟩
theorem sz_to (R : Int) (a : Option Addr) (n cap : Nat) (L : Int) (hn : n ≤ maxLen) (h0 : 0 ≤ L) (h1 : L ≤ 1048576) (w : World) :
    Calls Try.prog 23 #[.agg #[.int .i64 R, .slice a n cap], .int .i64 L] w fun e w' => e = .returned (.int .i64 (if (n : Int) ≤ L then L - n else -1)) ∧ w.grownBy w' none := by
  have hsz := szS_to a n cap L hn h0 h1
  by_cases h : (n : Int) ≤ L
  · rw [if_pos h] at hsz ⊢
    have HS := Lib.hid hsz; clear hsz hn
    have hp : ¬ L - (n : Int) < 0 := by omega
    go_enter Try.func23, Try.ntmps23
    go_wp2_with (go_at_call 53; (with_reducible refine (HS.out _).mono ?_); rintro e w' ⟨rfl, rfl⟩)
    go_ret
    exact ⟨rfl, g_alloc (grown_refl _) _⟩
  · rw [if_neg h] at hsz ⊢
    have HS := Lib.hid hsz; clear hsz hn
    go_enter Try.func23, Try.ntmps23
    go_wp2_with (go_at_call 53; (with_reducible refine (HS.out _).mono ?_); rintro e w' ⟨rfl, rfl⟩)
    go_ret
    exact ⟨rfl, g_alloc (grown_refl _) _⟩

/-- The law's two arguments in their boxes. -/
structure TSt (w W : World) (R0 : Int) (v0 : Value) (R1 : Int) (v1 : Value) : Prop where
  m0 : LBox W w.heap.size R0 v0
  m1 : LBox W (w.heap.size + 1) R1 v1
  gr : w.grownBy W none
theorem TSt.on {w W W' : World} {R0 R1 : Int} {v0 v1 : Value} (h : TSt w W R0 v0 R1 v1) (hg : W.grownBy W' none) : TSt w W' R0 v0 R1 v1 :=
  ⟨h.m0.kept hg (by simp), h.m1.kept hg (by simp), grown_trans h.gr hg⟩
theorem TSt.new (w : World) (R0 R1 : Int) (v0 v1 : Value) : TSt w ((w.alloc (.cells #[.int .i64 R0, v0] 39)).alloc (.cells #[.int .i64 R1, v1] 39)) R0 v0 R1 v1 := by
  have h1 : LBox ((w.alloc (.cells #[.int .i64 R0, v0] 39)).alloc (.cells #[.int .i64 R1, v1] 39)) (w.alloc (.cells #[.int .i64 R0, v0] 39)).heap.size R1 v1 := World.alloc_heap_new _ _
  rw [World.size_alloc] at h1
  exact ⟨LBox.kept (show LBox (w.alloc (.cells #[.int .i64 R0, v0] 39)) w.heap.size R0 v0 from World.alloc_heap_new w _) (World.grownBy_alloc _ _ none) (by simp), h1, g_alloc (g_alloc (grown_refl _) _) _⟩
/-- And two meshes made of them, in their boxes. -/
structure SSt (w W : World) (R0 : Int) (v0 : Value) (R1 : Int) (v1 : Value) (B0 B1 : Nat) (a0 a1 : Option Addr) (n0 n1 c0 c1 : Nat) (xs ys : List C3) : Prop where
  t : TSt w W R0 v0 R1 v1
  x0 : MBox W B0 R0 (.slice a0 n0 c0)
  x1 : MBox W B1 R1 (.slice a1 n1 c1)
  r0 : Reads W a0 n0 xs
  r1 : Reads W a1 n1 ys
theorem SSt.on {w W W' : World} {R0 R1 : Int} {v0 v1 : Value} {B0 B1 : Nat} {a0 a1 : Option Addr} {n0 n1 c0 c1 : Nat} {xs ys : List C3} (h : SSt w W R0 v0 R1 v1 B0 B1 a0 a1 n0 n1 c0 c1 xs ys) (hg : W.grownBy W' none) : SSt w W' R0 v0 R1 v1 B0 B1 a0 a1 n0 n1 c0 c1 xs ys :=
  ⟨h.t.on hg, h.x0.kept hg (by simp), h.x1.kept hg (by simp), h.r0.on hg, h.r1.on hg⟩
end Go.Proofs.Ytmkmlfaekiofcaa.Mesh
