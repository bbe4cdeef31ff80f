/- Cells: what the exact laws' walks share: laws.toId and IdOk again, the world left open; a block of three ints read in a later world.
   Conditions: none. -/
import Derived.Test.YthecidagejagmaaCellUp
namespace Go.Proofs.Ythecidagejagmaa.Cell
open Go.ChangeShapes Go.WideShapes Go.ChangeAt Go.RowKit

theorem toId_g (r l i : Int) (w : World) :
    Calls Try.prog 23 #[.agg #[.int .i64 r, .int .i64 l, .int .i64 i]] w fun e w' => e = .returned (.agg #[.int .i64 r, .int .i64 l, .int .i64 i]) ∧ w.grownBy w' none :=
  (toId_is r l i w).mono fun _ _ ⟨he, hw⟩ => ⟨he, hw ▸ g_alloc (g_alloc (g_alloc (grown_refl _) _) _) _⟩
theorem valid_g (r l i : Int) (w : World) :
    Calls Try.prog 33 #[.agg #[.int .i64 r, .int .i64 l, .int .i64 i]] w fun e w' => e = .returned (.bool (okId r l i)) ∧ w.grownBy w' none :=
  (valid_is r l i w).mono fun _ _ ⟨he, _, hw⟩ => ⟨he, hw ▸ g_drewN (g_alloc (grown_refl _) _) _⟩
theorem ok_g (r l i : Int) (w : World) :
    Calls Try.prog 15 #[.agg #[.int .i64 r, .int .i64 l, .int .i64 i]] w fun e w' => e = .returned (.bool (okId r l i)) ∧ w.grownBy w' none :=
  (ok_is r l i w).mono fun _ _ ⟨he, _, hw⟩ => ⟨he, hw ▸ g_drewN (g_alloc (g_alloc (grown_refl _) _) _) _⟩
theorem specOk_g (r l i : Int) (w : World) :
    Calls Try.prog 21 #[.agg #[.int .i64 r, .int .i64 l, .int .i64 i]] w fun e w' => e = .returned (.bool (okId r l i)) ∧ w.grownBy w' none :=
  (specOk_is r l i w).mono fun _ _ ⟨he, _, hw⟩ => ⟨he, hw ▸ g_drewN (g_alloc (grown_refl _) _) _⟩
theorem eq_g (r l i r' l' i' : Int) (w : World) :
    Calls Try.prog 27 #[.agg #[.int .i64 r, .int .i64 l, .int .i64 i], .agg #[.int .i64 r', .int .i64 l', .int .i64 i']] w fun e w' =>
      e = .returned (.bool (decide (r = r' ∧ l = l' ∧ i = i'))) ∧ w.grownBy w' none :=
  (eq_is r l i r' l' i' w).mono fun _ _ ⟨he, hw⟩ => ⟨he, hw ▸ g_alloc (g_alloc (grown_refl _) _) _⟩

/-- A cell's block, read. -/
structure Laid (w : World) (C : Nat) (r l i : Int) : Prop where
  c0 : w.cell? ⟨C, 0, none⟩ = some (.int .i64 r)
  c1 : w.cell? ⟨C, 1, none⟩ = some (.int .i64 l)
  c2 : w.cell? ⟨C, 2, none⟩ = some (.int .i64 i)
  lt : C < w.heap.size

theorem laid_new (w : World) (t : TypeId) (r l i : Int) : Laid (w.alloc (.cells #[.int .i64 r, .int .i64 l, .int .i64 i] t)) w.heap.size r l i :=
  ⟨by simp [World.cell?_alloc_new], by simp [World.cell?_alloc_new], by simp [World.cell?_alloc_new], by simp⟩
theorem Laid.on {w w' : World} {C : Nat} {r l i : Int} (h : Laid w C r l i) (hg : w.grownBy w' none) : Laid w' C r l i :=
  ⟨hg.cell h.c0 (by simp), hg.cell h.c1 (by simp), hg.cell h.c2 (by simp), Nat.lt_of_lt_of_le h.lt hg.size⟩
theorem Laid.past {w : World} {C : Nat} {r l i : Int} (h : Laid w C r l i) (o : Obj) : Laid (w.alloc o) C r l i := h.on (World.grownBy_alloc _ _ _)
end Go.Proofs.Ythecidagejagmaa.Cell
