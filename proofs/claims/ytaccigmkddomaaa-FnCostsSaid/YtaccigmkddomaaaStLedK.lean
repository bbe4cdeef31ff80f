/- Borders and ledgers: boxes of three, four and nine cells; laws.toBorder, toLedger, eqLedger; the methods enter and leave of the program's Ledger; BorderOk and LedgerAdd of both; l01In. As contracts.
   Conditions: none. -/
import Derived.Test.YtaccigmkddomaaaStLedP
import Derived.Test.YtaccigmkddomaaaStPutI
set_option maxRecDepth 100000
namespace Go.Proofs.Ytaccigmkddomaaa.Law
open Go.ChangeShapes Go.WideShapes Go.ChangeAt Go.RowKit
section
variable {b : Nat} {t : TypeId} {W : World} {x0 x1 x2 x3 x4 x5 x6 x7 x8 : Value} {vs : Array Value}
theorem cells3 (h : (boxG b t #[x0, x1, x2]).P W) : W.cell? ⟨b, 0, none⟩ = some x0 ∧ W.cell? ⟨b, 1, none⟩ = some x1 ∧ W.cell? ⟨b, 2, none⟩ = some x2 := ⟨boxG.cell h 0, boxG.cell h 1, boxG.cell h 2⟩
theorem cells4 (h : (boxG b t #[x0, x1, x2, x3]).P W) : W.cell? ⟨b, 0, none⟩ = some x0 ∧ W.cell? ⟨b, 1, none⟩ = some x1 ∧ W.cell? ⟨b, 2, none⟩ = some x2 ∧ W.cell? ⟨b, 3, none⟩ = some x3 := ⟨boxG.cell h 0, boxG.cell h 1, boxG.cell h 2, boxG.cell h 3⟩
theorem cells9 (h : (boxG b t #[x0, x1, x2, x3, x4, x5, x6, x7, x8]).P W) : (W.cell? ⟨b, 0, none⟩ = some x0 ∧ W.cell? ⟨b, 1, none⟩ = some x1 ∧ W.cell? ⟨b, 2, none⟩ = some x2 ∧ W.cell? ⟨b, 3, none⟩ = some x3 ∧ W.cell? ⟨b, 4, none⟩ = some x4) ∧ W.cell? ⟨b, 5, none⟩ = some x5 ∧ W.cell? ⟨b, 6, none⟩ = some x6 ∧ W.cell? ⟨b, 7, none⟩ = some x7 ∧ W.cell? ⟨b, 8, none⟩ = some x8 :=
  ⟨⟨boxG.cell h 0, boxG.cell h 1, boxG.cell h 2, boxG.cell h 3, boxG.cell h 4⟩, boxG.cell h 5, boxG.cell h 6, boxG.cell h 7, boxG.cell h 8⟩
theorem frees4 (h : (boxG b t vs).P W) : W.frozen? ⟨b, 0, none⟩ = false ∧ W.frozen? ⟨b, 1, none⟩ = false ∧ W.frozen? ⟨b, 2, none⟩ = false ∧ W.frozen? ⟨b, 3, none⟩ = false := ⟨boxG.free h 0, boxG.free h 1, boxG.free h 2, boxG.free h 3⟩
theorem Held.put4 {w : World} {gs : List Grp} (h : Held w W gs) (k : Nat) (hk : gs[k]? = some (boxG b t #[x0, x1, x2, x3])) (y0 y1 y2 y3 : Value) :
    Held w ((((W.setCell ⟨b, 0, none⟩ y0).setCell ⟨b, 1, none⟩ y1).setCell ⟨b, 2, none⟩ y2).setCell ⟨b, 3, none⟩ y3) (gs.set k (boxG b t #[y0, y1, y2, y3])) := by
  have hlt := (List.getElem?_eq_some_iff.1 hk).1
  have g1 : Held w _ (gs.set k (boxG b t #[y0, x1, x2, x3])) := h.put k hk 0 y0
  have g2 : Held w _ _ := g1.put k (by rw [List.getElem?_set_self hlt]) 1 y1
  have g3 : Held w _ _ := g2.put k (by rw [List.getElem?_set_self (by simpa using hlt)]) 2 y2
  have g4 : Held w _ _ := g3.put k (by rw [List.getElem?_set_self (by simpa using hlt)]) 3 y3
  simpa [List.set_set] using g4
theorem Held.put3' {w : World} {gs : List Grp} (h : Held w W gs) (k : Nat) (hk : gs[k]? = some (boxG b t #[x0, x1, x2])) (y0 y1 y2 : Value) :
    Held w (((W.setCell ⟨b, 0, none⟩ y0).setCell ⟨b, 1, none⟩ y1).setCell ⟨b, 2, none⟩ y2) (gs.set k (boxG b t #[y0, y1, y2])) := by
  have hlt := (List.getElem?_eq_some_iff.1 hk).1
  have g1 : Held w _ (gs.set k (boxG b t #[y0, x1, x2])) := h.put k hk 0 y0
  have g2 : Held w _ _ := g1.put k (by rw [List.getElem?_set_self hlt]) 1 y1
  have g3 : Held w _ _ := g2.put k (by rw [List.getElem?_set_self (by simpa using hlt)]) 2 y2
  simpa [List.set_set] using g3
end
/-- Some of the groups. -/
theorem Held.only {w W : World} {gs gs' : List Grp} (h : Held w W gs) (hs : gs'.Sublist gs) : Held w W gs' :=
  ⟨fun g hg => h.p g (hs.subset hg), fun g hg => h.lo g (hs.subset hg), h.dis.sublist hs, h.gr⟩
/-- What a call holds, behind what its caller holds. -/
theorem Held.app {w W W' : World} {gs gs' : List Grp} (h : Held w W gs) (k : Held W W' gs') : Held w W' (gs ++ gs') := by
  have h' := h.on k.gr
  refine ⟨?_, ?_, ?_, h'.gr⟩
  · intro x hx
    rcases List.mem_append.1 hx with hx | hx
    · exact h'.p x hx
    · exact k.p x hx
  · intro x hx b hb
    rcases List.mem_append.1 hx with hx | hx
    · exact h'.lo x hx b hb
    · exact ⟨Nat.le_trans h.gr.size (k.lo x hx b hb).1, (k.lo x hx b hb).2⟩
  · refine List.pairwise_append.2 ⟨h.dis, k.dis, ?_⟩
    intro x hx y hy b hb hby
    have := (h.lo x hx b hb).2
    have := (k.lo y hy b hby).1
    omega
/-- Two boxes lie in two blocks. -/
theorem Held.boxNe {w W : World} {gs : List Grp} {b b' : Nat} {t t' : TypeId} {vs vs' : Array Value} (h : Held w W gs) (i j : Nat) (hij : i < j) (hi : gs[i]? = some (boxG b t vs)) (hj : gs[j]? = some (boxG b' t' vs')) : b ≠ b' := fun e => by
  have hi' := List.getElem?_eq_some_iff.1 hi
  have hj' := List.getElem?_eq_some_iff.1 hj
  exact List.pairwise_iff_getElem.1 h.dis i j hi'.1 hj'.1 hij b (by rw [hi'.2]; simp [boxG]) (by rw [hj'.2]; simp [boxG, e])
theorem results_two_rows {P : Program} {fn : Func} {p u : Tmp} {ty ty' : TypeId} (h : fn.results = #[.cell p ty, .cell u ty']) (tmps : Array Value) (w : World) (g g' : Nat) (t t' : TypeId) (cs cs' : Array Value) (fr fr' : Nat × Nat) (d d' : TypeDesc)
    (hp : tmps.getD p undef = .pointer (some ⟨g, 0, none⟩)) (hu : tmps.getD u undef = .pointer (some ⟨g', 0, none⟩)) (hg : w.heap[g]? = some (.cells cs t fr)) (hg' : w.heap[g']? = some (.cells cs' t' fr'))
    (ht : P.underlying ty = some d) (hd : (match d with | .struct _ | .array _ _ => true | _ => false) = true) (hi : (P.info? ty).map (·.size) = some cs.size)
    (ht' : P.underlying ty' = some d') (hd' : (match d' with | .struct _ | .array _ _ => true | _ => false) = true) (hi' : (P.info? ty').map (·.size) = some cs'.size) :
    (results fn tmps).run P w = .ok (.tuple #[.agg cs, .agg cs']) w := by
  simp only [results, h]
  simp only [Array.getD_eq_getD_getElem?] at hp hu
  simp [Sem.run_bind, hp, hu, asAddr, run_loadVar_row w g t ty cs fr d hg ht hd hi, run_loadVar_row w g' t' ty' cs' fr' d' hg' ht' hd' hi']
end Go.Proofs.Ytaccigmkddomaaa.Law
namespace Go.Proofs.Ytaccigmkddomaaa.State
open Go.ChangeShapes Go.WideShapes Go.ChangeAt Go.RowKit Go.Proofs.Ytaccigmkddomaaa.Cell Go.Proofs.Ytaccigmkddomaaa.Mesh Go.Proofs.Ytaccigmkddomaaa.Law Go.Proofs.Ytaccigmkddomaaa.Ints Go.Proofs.Ytaccigmkddomaaa.Draws Go.Deep
set_option linter.unusedVariables false

theorem gAl {a b : World} (h : a.grownBy b none) (o : Obj) : a.grownBy (b.alloc o) none := Cell.grown_trans h (World.grownBy_alloc b o none)
/-- A number of a range. -/
theorem range_is (n lo hi : Int) (w : World) (b : Bool) (hb : b = decide (lo ≤ n ∧ n ≤ hi)) :
    Calls Try.prog 44 #[.int .i64 n, .int .i64 lo, .int .i64 hi] w fun e w' => e = .returned (.bool b) ∧ w' = w := in_is n lo hi b hb.symm w
end Go.Proofs.Ytaccigmkddomaaa.State
