/- Proved: for every slice of bytes the law FnLedgers returns true: the program's LedgerAdd adds drawn ledgers in any order to the same ledger, whose first number is the sum of theirs; adding a ledger of nothing changes nothing.
   Conditions: none besides those that the given row prints. -/
import Derived.Test.YtngacnckejnllaaRows
import Derived.WalkKit
import Derived.ProofKit
import Derived.OpenShut
import Derived.ShutString
import Derived.Test.YtngacnckejnllaaStLedW
import Derived.Test.YtngacnckejnllaaStLedK
import Derived.ChangeOld
import Derived.Below
set_option maxRecDepth 100000
namespace Go.Proofs.Ytngacnckejnllaa.fnLedgers
open Go.ChangeShapes Go.WideShapes Go.ChangeAt Go.RowKit
open Go.ChangeMaps (open_string shut_string)
set_option linter.unusedVariables false

theorem own : ownKnob Try.prog.godebug = none := by kernel_rfl
theorem laidOut : laidOutB Try.prog = true := by kernel_rfl

def IsRow (k : IntKind) (w : World) (a : Option Addr) (len cap : Nat) (zs : List Int) : Prop :=
  (a = none ∧ len = 0 ∧ cap = 0 ∧ zs = []) ∨
  ∃ x, a = some x ∧ len ≤ cap ∧ cap ≤ maxLen ∧ zs.length = cap ∧ (∀ i, i < zs.length → w.cell? (x.add i) = some (.int k (zs.getD i 0))) ∧ ∀ n ∈ zs, (Lit.int k n).wf = true

set_option maxHeartbeats 32000000 in
theorem walk (a0 : Option Addr) (len0 cap0 : Nat) (z0 : List Int) (w : World) (w0 : IsRow .u8 w a0 len0 cap0 z0) :
    Calls Try.prog 4 #[.slice a0 len0 cap0] w fun e w' => e = .returned (.bool true) ∧ Below w.heap.size w w' := by
  have hb := Draw.bytes_of w0
  have HB := Lib.hid hb; clear hb
  clear w0
  by_cases hlen : 1048576 < len0
  · have hd : decide (1048576 < (len0 : Int)) = true := by simp; omega
    go_enter Try.func4, Try.ntmps4
    go_wp2_with fail
    refine Draw.big_any.mono ?_; rintro e w1 ⟨rfl, rfl⟩
    rw [hd]
    go_wp2_with fail
    go_ret
    exact ⟨rfl, Below.refl _ _⟩
  · have hd : decide (1048576 < (len0 : Int)) = false := by simp; omega
    have hlen' : len0 ≤ 1048576 := by omega
    have HLen := Lib.hid hlen'; clear hlen'
    go_enter Try.func4, Try.ntmps4
    go_wp2_with fail
    refine Draw.big_any.mono ?_; rintro e w1 ⟨rfl, rfl⟩
    rw [hd]
    clear hd hlen
    go_wp2_with fail
    refine (State.places_all HLen.out HB.out (Nat.le_refl _)).mono ?_
    rintro e w1 ⟨gp, cp, f, rfl, hf, hh⟩
    have HE1 := Lib.hid hh
    clear hh HB HLen
    have f0 := hf 0 (by decide); have f1 := hf 1 (by decide); have f2 := hf 2 (by decide); have f3 := hf 3 (by decide); have f4 := hf 4 (by decide); have f5 := hf 5 (by decide); have f6 := hf 6 (by decide); have f7 := hf 7 (by decide); have f8 := hf 8 (by decide); have f9 := hf 9 (by decide); have f10 := hf 10 (by decide); have f11 := hf 11 (by decide)
    clear hf
    obtain ⟨a0, h0⟩ : ∃ z, f 0 = z := ⟨_, rfl⟩
    rw [h0] at f0
    obtain ⟨a1, h1⟩ : ∃ z, f 1 = z := ⟨_, rfl⟩
    rw [h1] at f1
    obtain ⟨a2, h2⟩ : ∃ z, f 2 = z := ⟨_, rfl⟩
    rw [h2] at f2
    obtain ⟨a3, h3⟩ : ∃ z, f 3 = z := ⟨_, rfl⟩
    rw [h3] at f3
    obtain ⟨b0, h4⟩ : ∃ z, f 4 = z := ⟨_, rfl⟩
    rw [h4] at f4
    obtain ⟨b1, h5⟩ : ∃ z, f 5 = z := ⟨_, rfl⟩
    rw [h5] at f5
    obtain ⟨b2, h6⟩ : ∃ z, f 6 = z := ⟨_, rfl⟩
    rw [h6] at f6
    obtain ⟨b3, h7⟩ : ∃ z, f 7 = z := ⟨_, rfl⟩
    rw [h7] at f7
    obtain ⟨k0, h8⟩ : ∃ z, f 8 = z := ⟨_, rfl⟩
    rw [h8] at f8
    obtain ⟨k1, h9⟩ : ∃ z, f 9 = z := ⟨_, rfl⟩
    rw [h9] at f9
    obtain ⟨k2, h10⟩ : ∃ z, f 10 = z := ⟨_, rfl⟩
    rw [h10] at f10
    obtain ⟨k3, h11⟩ : ∃ z, f 11 = z := ⟨_, rfl⟩
    rw [h11] at f11
    have HF12 := Lib.hid (And.intro (And.intro h0 (And.intro h1 (And.intro h2 h3))) (And.intro (And.intro h4 (And.intro h5 (And.intro h6 h7))) (And.intro h8 (And.intro h9 (And.intro h10 h11)))))
    clear h0 h1 h2 h3 h4 h5 h6 h7 h8 h9 h10 h11
    have HCE := Lib.hid (show ∀ W, (State.placesA gp f).P W → (W.cell? ⟨gp, 0, none⟩ = some (.int .i64 a0) ∧ W.cell? ⟨gp, 1, none⟩ = some (.int .i64 a1) ∧ W.cell? ⟨gp, 2, none⟩ = some (.int .i64 a2) ∧ W.cell? ⟨gp, 3, none⟩ = some (.int .i64 a3)) ∧ (W.cell? ⟨gp, 4, none⟩ = some (.int .i64 b0) ∧ W.cell? ⟨gp, 5, none⟩ = some (.int .i64 b1) ∧ W.cell? ⟨gp, 6, none⟩ = some (.int .i64 b2) ∧ W.cell? ⟨gp, 7, none⟩ = some (.int .i64 b3)) ∧ (W.cell? ⟨gp, 8, none⟩ = some (.int .i64 k0) ∧ W.cell? ⟨gp, 9, none⟩ = some (.int .i64 k1) ∧ W.cell? ⟨gp, 10, none⟩ = some (.int .i64 k2) ∧ W.cell? ⟨gp, 11, none⟩ = some (.int .i64 k3)) from fun W h => by
      obtain ⟨⟨e0, e1, e2, e3⟩, ⟨e4, e5, e6, e7⟩, e8, e9, e10, e11⟩ := HF12.out
      refine ⟨⟨?_, ?_, ?_, ?_⟩, ⟨?_, ?_, ?_, ?_⟩, ?_, ?_, ?_, ?_⟩
      · rw [← e0]; exact h 0 (by decide)
      · rw [← e1]; exact h 1 (by decide)
      · rw [← e2]; exact h 2 (by decide)
      · rw [← e3]; exact h 3 (by decide)
      · rw [← e4]; exact h 4 (by decide)
      · rw [← e5]; exact h 5 (by decide)
      · rw [← e6]; exact h 6 (by decide)
      · rw [← e7]; exact h 7 (by decide)
      · rw [← e8]; exact h 8 (by decide)
      · rw [← e9]; exact h 9 (by decide)
      · rw [← e10]; exact h 10 (by decide)
      · rw [← e11]; exact h 11 (by decide))
    have HF := Lib.hid (And.intro HF12.out.1.1 (And.intro HF12.out.2.1.1 HF12.out.2.2.1))
    obtain ⟨ab0, hab0⟩ : ∃ z, a0 + b0 = z := ⟨_, rfl⟩
    obtain ⟨kb0, hkb0⟩ : ∃ z, k0 + b0 = z := ⟨_, rfl⟩
    obtain ⟨x0, hx0⟩ : ∃ z, ab0 + k0 = z := ⟨_, rfl⟩
    have wa0 : IntKind.i64.wrap (a0 + b0) = ab0 := by rw [hab0]; exact IntWalk.i64_in _ (by omega)
    have wb0 : IntKind.i64.wrap (k0 + b0) = kb0 := by rw [hkb0]; exact IntWalk.i64_in _ (by omega)
    have wc0 : IntKind.i64.wrap (ab0 + k0) = x0 := by rw [hx0]; exact IntWalk.i64_in _ (by omega)
    have wd0 : IntKind.i64.wrap (a0 + kb0) = x0 := by rw [show a0 + kb0 = x0 by omega]; exact IntWalk.i64_in _ (by omega)
    have we0 : IntKind.i64.wrap (a0 + 0) = a0 := by rw [Int.add_zero]; exact IntWalk.i64_in _ (by omega)
    obtain ⟨ab1, hab1⟩ : ∃ z, a1 + b1 = z := ⟨_, rfl⟩
    obtain ⟨kb1, hkb1⟩ : ∃ z, k1 + b1 = z := ⟨_, rfl⟩
    obtain ⟨x1, hx1⟩ : ∃ z, ab1 + k1 = z := ⟨_, rfl⟩
    have wa1 : IntKind.i64.wrap (a1 + b1) = ab1 := by rw [hab1]; exact IntWalk.i64_in _ (by omega)
    have wb1 : IntKind.i64.wrap (k1 + b1) = kb1 := by rw [hkb1]; exact IntWalk.i64_in _ (by omega)
    have wc1 : IntKind.i64.wrap (ab1 + k1) = x1 := by rw [hx1]; exact IntWalk.i64_in _ (by omega)
    have wd1 : IntKind.i64.wrap (a1 + kb1) = x1 := by rw [show a1 + kb1 = x1 by omega]; exact IntWalk.i64_in _ (by omega)
    have we1 : IntKind.i64.wrap (a1 + 0) = a1 := by rw [Int.add_zero]; exact IntWalk.i64_in _ (by omega)
    obtain ⟨ab2, hab2⟩ : ∃ z, a2 + b2 = z := ⟨_, rfl⟩
    obtain ⟨kb2, hkb2⟩ : ∃ z, k2 + b2 = z := ⟨_, rfl⟩
    obtain ⟨x2, hx2⟩ : ∃ z, ab2 + k2 = z := ⟨_, rfl⟩
    have wa2 : IntKind.i64.wrap (a2 + b2) = ab2 := by rw [hab2]; exact IntWalk.i64_in _ (by omega)
    have wb2 : IntKind.i64.wrap (k2 + b2) = kb2 := by rw [hkb2]; exact IntWalk.i64_in _ (by omega)
    have wc2 : IntKind.i64.wrap (ab2 + k2) = x2 := by rw [hx2]; exact IntWalk.i64_in _ (by omega)
    have wd2 : IntKind.i64.wrap (a2 + kb2) = x2 := by rw [show a2 + kb2 = x2 by omega]; exact IntWalk.i64_in _ (by omega)
    have we2 : IntKind.i64.wrap (a2 + 0) = a2 := by rw [Int.add_zero]; exact IntWalk.i64_in _ (by omega)
    obtain ⟨ab3, hab3⟩ : ∃ z, a3 + b3 = z := ⟨_, rfl⟩
    obtain ⟨kb3, hkb3⟩ : ∃ z, k3 + b3 = z := ⟨_, rfl⟩
    obtain ⟨x3, hx3⟩ : ∃ z, ab3 + k3 = z := ⟨_, rfl⟩
    have wa3 : IntKind.i64.wrap (a3 + b3) = ab3 := by rw [hab3]; exact IntWalk.i64_in _ (by omega)
    have wb3 : IntKind.i64.wrap (k3 + b3) = kb3 := by rw [hkb3]; exact IntWalk.i64_in _ (by omega)
    have wc3 : IntKind.i64.wrap (ab3 + k3) = x3 := by rw [hx3]; exact IntWalk.i64_in _ (by omega)
    have wd3 : IntKind.i64.wrap (a3 + kb3) = x3 := by rw [show a3 + kb3 = x3 by omega]; exact IntWalk.i64_in _ (by omega)
    have we3 : IntKind.i64.wrap (a3 + 0) = a3 := by rw [Int.add_zero]; exact IntWalk.i64_in _ (by omega)
    have HAB := Lib.hid (show ∀ u, Calls Try.prog 17 #[.agg #[.int .i64 a0, .int .i64 a1, .int .i64 a2, .int .i64 a3], .agg #[.int .i64 b0, .int .i64 b1, .int .i64 b2, .int .i64 b3]] u fun e w' => e = .returned (.agg #[.int .i64 ab0, .int .i64 ab1, .int .i64 ab2, .int .i64 ab3]) ∧ u.grownBy w' none from fun u => by
      have q := State.ledgerAdd_is a0 a1 a2 a3 b0 b1 b2 b3 u
      rw [wa0, wa1, wa2, wa3] at q
      exact q)
    have HX1 := Lib.hid (show ∀ u, Calls Try.prog 17 #[.agg #[.int .i64 ab0, .int .i64 ab1, .int .i64 ab2, .int .i64 ab3], .agg #[.int .i64 k0, .int .i64 k1, .int .i64 k2, .int .i64 k3]] u fun e w' => e = .returned (.agg #[.int .i64 x0, .int .i64 x1, .int .i64 x2, .int .i64 x3]) ∧ u.grownBy w' none from fun u => by
      have q := State.ledgerAdd_is ab0 ab1 ab2 ab3 k0 k1 k2 k3 u
      rw [wc0, wc1, wc2, wc3] at q
      exact q)
    have HKB := Lib.hid (show ∀ u, Calls Try.prog 17 #[.agg #[.int .i64 k0, .int .i64 k1, .int .i64 k2, .int .i64 k3], .agg #[.int .i64 b0, .int .i64 b1, .int .i64 b2, .int .i64 b3]] u fun e w' => e = .returned (.agg #[.int .i64 kb0, .int .i64 kb1, .int .i64 kb2, .int .i64 kb3]) ∧ u.grownBy w' none from fun u => by
      have q := State.ledgerAdd_is k0 k1 k2 k3 b0 b1 b2 b3 u
      rw [wb0, wb1, wb2, wb3] at q
      exact q)
    have HX2 := Lib.hid (show ∀ u, Calls Try.prog 17 #[.agg #[.int .i64 a0, .int .i64 a1, .int .i64 a2, .int .i64 a3], .agg #[.int .i64 kb0, .int .i64 kb1, .int .i64 kb2, .int .i64 kb3]] u fun e w' => e = .returned (.agg #[.int .i64 x0, .int .i64 x1, .int .i64 x2, .int .i64 x3]) ∧ u.grownBy w' none from fun u => by
      have q := State.ledgerAdd_is a0 a1 a2 a3 kb0 kb1 kb2 kb3 u
      rw [wd0, wd1, wd2, wd3] at q
      exact q)
    have HZ := Lib.hid (show ∀ u, Calls Try.prog 17 #[.agg #[.int .i64 a0, .int .i64 a1, .int .i64 a2, .int .i64 a3], .agg #[.int .i64 0, .int .i64 0, .int .i64 0, .int .i64 0]] u fun e w' => e = .returned (.agg #[.int .i64 a0, .int .i64 a1, .int .i64 a2, .int .i64 a3]) ∧ u.grownBy w' none from fun u => by
      have q := State.ledgerAdd_is a0 a1 a2 a3 0 0 0 0 u
      rw [we0, we1, we2, we3] at q
      exact q)
    clear hab0 hkb0 hx0 wb0 wd0 we0 hab1 hkb1 hx1 wb1 wd1 we1 hab2 hkb2 hx2 wb2 wd2 we2 hab3 hkb3 hx3 wb3 wd3 we3 wa1 wa2 wa3 wc1 wc2 wc3 f0 f1 f2 f3 f4 f5 f6 f7 f8 f9 f10 f11 HF12
    go_upto_region 4 with fail
    obtain ⟨⟨c0, c1, c2, c3⟩, ⟨c4, c5, c6, c7⟩, c8, c9, c10, c11⟩ := HCE.out _ (HE1.out.nth 0 rfl)
    have ha : ∀ u, w1.grownBy u none → (State.placesA gp f).P u := fun u hu => (HE1.out.on hu).nth 0 rfl
    have hca0 : ∀ o, (w1.alloc o).cell? ⟨gp, 0, none⟩ = _ := fun o => (HCE.out _ (ha _ (World.grownBy_alloc w1 o none))).1.1
    have hca1 : ∀ o, (w1.alloc o).cell? ⟨gp, 1, none⟩ = _ := fun o => (HCE.out _ (ha _ (World.grownBy_alloc w1 o none))).1.2.1
    have hca2 : ∀ o, (w1.alloc o).cell? ⟨gp, 2, none⟩ = _ := fun o => (HCE.out _ (ha _ (World.grownBy_alloc w1 o none))).1.2.2.1
    have hca3 : ∀ o, (w1.alloc o).cell? ⟨gp, 3, none⟩ = _ := fun o => (HCE.out _ (ha _ (World.grownBy_alloc w1 o none))).1.2.2.2
    clear ha
    go_cut [4] from 12 to 24 (fun v wx => ∃ B, v = .pointer (some ⟨B, 0, none⟩) ∧ Hid (Law.Held w wx [State.placesA gp f, Law.boxG B 35 #[.int .i64 a0, .int .i64 a1, .int .i64 a2, .int .i64 a3]]))
    case first =>
      go_region
      all_goals
        go_wp2_with fail
        go_meet
        first
          | exact ⟨_, rfl, Lib.hid ((HE1.out.on (Mesh.gr_drew (Cell.grown_refl _))).box 35 #[.int .i64 a0, .int .i64 a1, .int .i64 a2, .int .i64 a3])⟩
          | exact ⟨_, rfl, Lib.hid ((HE1.out.box 35 #[.int .i64 a0, .int .i64 a1, .int .i64 a2, .int .i64 a3]).on (Mesh.gr_drew (Cell.grown_refl _)))⟩
          | exact ⟨_, rfl, Lib.hid (HE1.out.box 35 #[.int .i64 a0, .int .i64 a1, .int .i64 a2, .int .i64 a3])⟩
    case rest =>
    obtain ⟨B4, rfl, hh⟩ := hcut
    have HE2 := Lib.hid hh.out
    clear hh HE1
    clear c0 c1 c2 c3 c4 c5 c6 c7 c8 c9 c10 c11 hca0 hca1 hca2 hca3
    go_upto_region 5 with fail
    obtain ⟨⟨c0, c1, c2, c3⟩, ⟨c4, c5, c6, c7⟩, c8, c9, c10, c11⟩ := HCE.out _ (HE2.out.nth 0 rfl)
    have ha : ∀ u, wc.grownBy u none → (State.placesA gp f).P u := fun u hu => (HE2.out.on hu).nth 0 rfl
    have hca0 : ∀ o, (wc.alloc o).cell? ⟨gp, 4, none⟩ = _ := fun o => (HCE.out _ (ha _ (World.grownBy_alloc wc o none))).2.1.1
    have hca1 : ∀ o, (wc.alloc o).cell? ⟨gp, 5, none⟩ = _ := fun o => (HCE.out _ (ha _ (World.grownBy_alloc wc o none))).2.1.2.1
    have hca2 : ∀ o, (wc.alloc o).cell? ⟨gp, 6, none⟩ = _ := fun o => (HCE.out _ (ha _ (World.grownBy_alloc wc o none))).2.1.2.2.1
    have hca3 : ∀ o, (wc.alloc o).cell? ⟨gp, 7, none⟩ = _ := fun o => (HCE.out _ (ha _ (World.grownBy_alloc wc o none))).2.1.2.2.2
    clear ha
    go_cut [5] from 25 to 37 (fun v wx => ∃ B, v = .pointer (some ⟨B, 0, none⟩) ∧ Hid (Law.Held w wx [State.placesA gp f, Law.boxG B4 35 #[.int .i64 a0, .int .i64 a1, .int .i64 a2, .int .i64 a3], Law.boxG B 35 #[.int .i64 b0, .int .i64 b1, .int .i64 b2, .int .i64 b3]]))
    case first =>
      go_region
      all_goals
        go_wp2_with fail
        go_meet
        first
          | exact ⟨_, rfl, Lib.hid ((HE2.out.on (Mesh.gr_drew (Cell.grown_refl _))).box 35 #[.int .i64 b0, .int .i64 b1, .int .i64 b2, .int .i64 b3])⟩
          | exact ⟨_, rfl, Lib.hid ((HE2.out.box 35 #[.int .i64 b0, .int .i64 b1, .int .i64 b2, .int .i64 b3]).on (Mesh.gr_drew (Cell.grown_refl _)))⟩
          | exact ⟨_, rfl, Lib.hid (HE2.out.box 35 #[.int .i64 b0, .int .i64 b1, .int .i64 b2, .int .i64 b3])⟩
    case rest =>
    obtain ⟨B5, rfl, hh⟩ := hcut
    have HE3 := Lib.hid hh.out
    clear hh HE2
    clear c0 c1 c2 c3 c4 c5 c6 c7 c8 c9 c10 c11 hca0 hca1 hca2 hca3
    go_upto_region 6 with fail
    obtain ⟨⟨c0, c1, c2, c3⟩, ⟨c4, c5, c6, c7⟩, c8, c9, c10, c11⟩ := HCE.out _ (HE3.out.nth 0 rfl)
    have ha : ∀ u, wc.grownBy u none → (State.placesA gp f).P u := fun u hu => (HE3.out.on hu).nth 0 rfl
    have hca0 : ∀ o, (wc.alloc o).cell? ⟨gp, 8, none⟩ = _ := fun o => (HCE.out _ (ha _ (World.grownBy_alloc wc o none))).2.2.1
    have hca1 : ∀ o, (wc.alloc o).cell? ⟨gp, 9, none⟩ = _ := fun o => (HCE.out _ (ha _ (World.grownBy_alloc wc o none))).2.2.2.1
    have hca2 : ∀ o, (wc.alloc o).cell? ⟨gp, 10, none⟩ = _ := fun o => (HCE.out _ (ha _ (World.grownBy_alloc wc o none))).2.2.2.2.1
    have hca3 : ∀ o, (wc.alloc o).cell? ⟨gp, 11, none⟩ = _ := fun o => (HCE.out _ (ha _ (World.grownBy_alloc wc o none))).2.2.2.2.2
    clear ha
    go_cut [6] from 38 to 50 (fun v wx => ∃ B, v = .pointer (some ⟨B, 0, none⟩) ∧ Hid (Law.Held w wx [State.placesA gp f, Law.boxG B4 35 #[.int .i64 a0, .int .i64 a1, .int .i64 a2, .int .i64 a3], Law.boxG B5 35 #[.int .i64 b0, .int .i64 b1, .int .i64 b2, .int .i64 b3], Law.boxG B 35 #[.int .i64 k0, .int .i64 k1, .int .i64 k2, .int .i64 k3]]))
    case first =>
      go_region
      all_goals
        go_wp2_with fail
        go_meet
        first
          | exact ⟨_, rfl, Lib.hid ((HE3.out.on (Mesh.gr_drew (Cell.grown_refl _))).box 35 #[.int .i64 k0, .int .i64 k1, .int .i64 k2, .int .i64 k3])⟩
          | exact ⟨_, rfl, Lib.hid ((HE3.out.box 35 #[.int .i64 k0, .int .i64 k1, .int .i64 k2, .int .i64 k3]).on (Mesh.gr_drew (Cell.grown_refl _)))⟩
          | exact ⟨_, rfl, Lib.hid (HE3.out.box 35 #[.int .i64 k0, .int .i64 k1, .int .i64 k2, .int .i64 k3])⟩
    case rest =>
    obtain ⟨B6, rfl, hh⟩ := hcut
    have HE4 := Lib.hid hh.out
    clear hh HE3
    clear c0 c1 c2 c3 c4 c5 c6 c7 c8 c9 c10 c11 hca0 hca1 hca2 hca3
    go_upto_region 7 with fail
    rename_i KK hKK
    refine Draws.wp_region_tabG (w := w) rfl (by kernel_rfl) (by kernel_rfl) State.AddGDep (by kernel_rfl) [State.placesA gp f, Law.boxG B4 35 #[.int .i64 a0, .int .i64 a1, .int .i64 a2, .int .i64 a3], Law.boxG B5 35 #[.int .i64 b0, .int .i64 b1, .int .i64 b2, .int .i64 b3], Law.boxG B6 35 #[.int .i64 k0, .int .i64 k1, .int .i64 k2, .int .i64 k3]] [5] (fun _ => Law.emptyG) (State.AddG a0 a1 a2 a3 b0 b1 b2 b3 k0 k1 k2 k3 ab0 ab1 ab2 ab3 kb0 kb1 kb2 kb3 x0 x1 x2 x3 gp cp B4 B5 B6) ?start ?step ?last
    case start => exact (HE4.out.on (Mesh.gr_drew (Cell.grown_refl _))).addE
    case step =>
      clear hKK
      intro L a W val G i o hI ho hL hd
      have hi : i < 7 := by have := (Array.getElem?_eq_some_iff.1 ho).1; simpa using this
      have hloc := State.AddG_local a0 a1 a2 a3 b0 b1 b2 b3 k0 k1 k2 k3 ab0 ab1 ab2 ab3 kb0 kb1 kb2 kb3 x0 x1 x2 x3 gp cp B4 B5 B6
      obtain ⟨y0, y1, y2, y3⟩ := Law.cells4 (hI.hd.nth 1 rfl)
      obtain ⟨z0, z1, z2, z3⟩ := Law.cells4 (hI.hd.nth 2 rfl)
      obtain ⟨u0, u1, u2, u3⟩ := Law.cells4 (hI.hd.nth 3 rfl)
      rcases (show i = 0 ∨ i = 1 ∨ i = 2 ∨ i = 3 ∨ i = 4 ∨ i = 5 ∨ i = 6 by omega) with rfl | rfl | rfl | rfl | rfl | rfl | rfl
      · obtain rfl := Option.some.inj ho
        have p4 := (hI.old 4 (by kernel_rfl) rfl).get
        refine Draws.wpOp_of (by rfl) rfl (State.wp_value (v := .agg #[.int .i64 a0, .int .i64 a1, .int .i64 a2, .int .i64 a3]) (w' := W) ?_ (hI.same hloc hL _ _ (Cell.grown_refl _) (Draws.upd_at _ _ _)))
        simp only [execOp]
        go_simp
      · obtain rfl := Option.some.inj ho
        have p5 := (hI.old 5 (by kernel_rfl) rfl).get
        refine Draws.wpOp_of (by rfl) rfl (State.wp_value (v := .agg #[.int .i64 b0, .int .i64 b1, .int .i64 b2, .int .i64 b3]) (w' := W) ?_ (hI.same hloc hL _ _ (Cell.grown_refl _) (Draws.upd_at _ _ _)))
        simp only [execOp]
        go_simp
      · obtain rfl := Option.some.inj ho
        have l0 := hd 0 (by simp [State.AddGDep])
        have e0 := (hI.at_ 0 51 rfl l0).get
        have l1 := hd 1 (by simp [State.AddGDep])
        have e1 := (hI.at_ 1 52 rfl l1).get
        rw [show val 0 = _ from hI.gd 0 l0] at e0
        rw [show val 1 = _ from hI.gd 1 l1] at e1
        refine Draws.wpOp_of (by rfl) rfl ?_
        unfold Oper.wp
        simp only [execOp]
        go_simp
        refine Calls.mono (P := Try.prog) (HAB.out W) ?_
        rintro e w1 ⟨rfl, hg⟩
        exact hI.same hloc hL _ (.agg #[.int .i64 ab0, .int .i64 ab1, .int .i64 ab2, .int .i64 ab3]) hg (Draws.upd_at _ _ _)
      · obtain rfl := Option.some.inj ho
        have p6 := (hI.old 6 (by kernel_rfl) rfl).get
        refine Draws.wpOp_of (by rfl) rfl (State.wp_value (v := .agg #[.int .i64 k0, .int .i64 k1, .int .i64 k2, .int .i64 k3]) (w' := W) ?_ (hI.same hloc hL _ _ (Cell.grown_refl _) (Draws.upd_at _ _ _)))
        simp only [execOp]
        go_simp
      · obtain rfl := Option.some.inj ho
        have l2 := hd 2 (by simp [State.AddGDep])
        have e2 := (hI.at_ 2 53 rfl l2).get
        have l3 := hd 3 (by simp [State.AddGDep])
        have e3 := (hI.at_ 3 54 rfl l3).get
        rw [show val 2 = _ from hI.gd 2 l2] at e2
        rw [show val 3 = _ from hI.gd 3 l3] at e3
        refine Draws.wpOp_of (by rfl) rfl ?_
        unfold Oper.wp
        simp only [execOp]
        go_simp
        refine Calls.mono (P := Try.prog) (HX1.out W) ?_
        rintro e w1 ⟨rfl, hg⟩
        exact hI.same hloc hL _ (.agg #[.int .i64 x0, .int .i64 x1, .int .i64 x2, .int .i64 x3]) hg (Draws.upd_at _ _ _)
      · obtain rfl := Option.some.inj ho
        refine Draws.wpOp_of (by rfl) rfl (State.wp_value (v := .pointer (some ⟨W.heap.size, 0, none⟩)) (w' := W.alloc (.cells #[.int .i64 0, .int .i64 0, .int .i64 0, .int .i64 0] 35)) ?_ ?_)
        · simp only [execOp]
          go_simp
        exact hI.made hloc hL _ _ (Law.boxG W.heap.size 35 #[.int .i64 0, .int .i64 0, .int .i64 0, .int .i64 0]) (hI.hd.fill 4 (g' := Law.boxG W.heap.size 35 #[.int .i64 0, .int .i64 0, .int .i64 0, .int .i64 0]) (congrArg some (hI.no 5 hL)) (World.grownBy_alloc W _ none) (World.alloc_heap_new W _) (fun b hb => by have : b = W.heap.size := (by simpa [Law.boxG] using hb); subst this; simp)) ⟨W.heap.size, _, _, _, _, Draws.upd_at _ _ _, Draws.upd_at _ _ _⟩
      · obtain rfl := Option.some.inj ho
        have l5 := hd 5 (by simp [State.AddGDep])
        have e5 := (hI.at_ 5 7 rfl l5).get
        have l4 := hd 4 (by simp [State.AddGDep])
        have e4 := (hI.at_ 4 55 rfl l4).get
        obtain ⟨B7, o0, o1, o2, o3, v5, -⟩ := hI.gd 5 l5
        rw [v5] at e5
        rw [show val 4 = _ from hI.gd 4 l4] at e4
        obtain ⟨B7', o0, o1, o2, o3, v5', g5⟩ := hI.gd 5 l5
        rw [v5] at v5'
        cases v5'
        obtain ⟨y0, y1, y2, y3⟩ := Law.cells4 (hI.hd.nth 4 (congrArg some g5))
        obtain ⟨f0, f1, f2, f3⟩ := Law.frees4 (hI.hd.nth 4 (congrArg some g5))
        refine Draws.wpOp_of (by rfl) rfl (State.wp_skip (w' := (((W.setCell ⟨B7, 0, none⟩ (.int .i64 x0)).setCell ⟨B7, 1, none⟩ (.int .i64 x1)).setCell ⟨B7, 2, none⟩ (.int .i64 x2)).setCell ⟨B7, 3, none⟩ (.int .i64 x3)) ?_ ?_)
        · simp only [execOp]
          go_simp
        exact hI.turned (c := 5) hloc hL _ undef (Law.boxG B7 35 #[.int .i64 x0, .int .i64 x1, .int .i64 x2, .int .i64 x3]) (hI.hd.put4 4 (congrArg some g5) (.int .i64 x0) (.int .i64 x1) (.int .i64 x2) (.int .i64 x3)) l5 (by kernel_rfl) ⟨B7, _, _, _, _, v5, Draws.upd_at _ _ _⟩ ⟨B7, v5, (show val 4 = _ from hI.gd 4 l4), Draws.upd_at _ _ _⟩
    case last =>
      intro L a W val G hI hall
      have al : ∀ i, i < 7 → L i = true := fun i hi => hall i (by simpa using hi)
      obtain ⟨B7, v5, -, r5⟩ := hI.gd 6 (al 6 (by decide))
      have hH : Law.Held w W [State.placesA gp f, Law.boxG B4 35 #[.int .i64 a0, .int .i64 a1, .int .i64 a2, .int .i64 a3], Law.boxG B5 35 #[.int .i64 b0, .int .i64 b1, .int .i64 b2, .int .i64 b3], Law.boxG B6 35 #[.int .i64 k0, .int .i64 k1, .int .i64 k2, .int .i64 k3], G 5] := hI.hd
      rw [r5] at hH
      have HE5 := Lib.hid hH
      have ha := hI.frame (by kernel_rfl) hall
      refine hKK _ _ ?_
      clear hKK hI hH r5 hall al HAB HX1 HE4
      simp [Draws.frameOf, Draws.slotOf, Act.put, List.range, List.range.loop] at ha
      subst ha
      rw [v5]
      clear v5
      go_upto_region 8 with fail
      rename_i KK hKK
      refine Draws.wp_region_tabG (w := w) rfl (by kernel_rfl) (by kernel_rfl) State.SumGDep (by kernel_rfl) [State.placesA gp f, Law.boxG B4 35 #[.int .i64 a0, .int .i64 a1, .int .i64 a2, .int .i64 a3], Law.boxG B5 35 #[.int .i64 b0, .int .i64 b1, .int .i64 b2, .int .i64 b3], Law.boxG B6 35 #[.int .i64 k0, .int .i64 k1, .int .i64 k2, .int .i64 k3], Law.boxG B7 35 #[.int .i64 x0, .int .i64 x1, .int .i64 x2, .int .i64 x3]] [] (fun _ => Law.emptyG) (State.SumG a0 a1 a2 a3 b0 b1 b2 b3 k0 k1 k2 k3 ab0 ab1 ab2 ab3 kb0 kb1 kb2 kb3 x0 x1 x2 x3 gp cp B4 B5 B6 B7) ?start ?step ?last
      case start => exact HE5.out.on (Mesh.gr_drew (Cell.grown_refl _))
      case step =>
        clear hKK
        intro L a W val G i o hI ho hL hd
        have hi : i < 31 := by have := (Array.getElem?_eq_some_iff.1 ho).1; simpa using this
        have hloc := State.SumG_local a0 a1 a2 a3 b0 b1 b2 b3 k0 k1 k2 k3 ab0 ab1 ab2 ab3 kb0 kb1 kb2 kb3 x0 x1 x2 x3 gp cp B4 B5 B6 B7
        obtain ⟨y0, y1, y2, y3⟩ := Law.cells4 (hI.hd.nth 1 rfl)
        obtain ⟨z0, z1, z2, z3⟩ := Law.cells4 (hI.hd.nth 2 rfl)
        obtain ⟨u0, u1, u2, u3⟩ := Law.cells4 (hI.hd.nth 3 rfl)
        obtain ⟨t0, t1, t2, t3⟩ := Law.cells4 (hI.hd.nth 4 rfl)
        have q0 := (hI.hd.nth 0 rfl) 0 (by decide)
        have q4 := (hI.hd.nth 0 rfl) 4 (by decide)
        have q8 := (hI.hd.nth 0 rfl) 8 (by decide)
        rw [HF.out.1] at q0
        rw [HF.out.2.1] at q4
        rw [HF.out.2.2] at q8
        rcases (show i = 0 ∨ i = 1 ∨ i = 2 ∨ i = 3 ∨ i = 4 ∨ i = 5 ∨ i = 6 ∨ i = 7 ∨ i = 8 ∨ i = 9 ∨ i = 10 ∨ i = 11 ∨ i = 12 ∨ i = 13 ∨ i = 14 ∨ i = 15 ∨ i = 16 ∨ i = 17 ∨ i = 18 ∨ i = 19 ∨ i = 20 ∨ i = 21 ∨ i = 22 ∨ i = 23 ∨ i = 24 ∨ i = 25 ∨ i = 26 ∨ i = 27 ∨ i = 28 ∨ i = 29 ∨ i = 30 by omega) with rfl | rfl | rfl | rfl | rfl | rfl | rfl | rfl | rfl | rfl | rfl | rfl | rfl | rfl | rfl | rfl | rfl | rfl | rfl | rfl | rfl | rfl | rfl | rfl | rfl | rfl | rfl | rfl | rfl | rfl | rfl
        · obtain rfl := Option.some.inj ho
          have p7 := (hI.old 7 (by kernel_rfl) rfl).get
          refine Draws.wpOp_of (by rfl) rfl (State.wp_value (v := .agg #[.int .i64 x0, .int .i64 x1, .int .i64 x2, .int .i64 x3]) (w' := W) ?_ (hI.same hloc hL _ _ (Cell.grown_refl _) (Draws.upd_at _ _ _)))
          simp only [execOp]
          go_simp
        · obtain rfl := Option.some.inj ho
          have p4 := (hI.old 4 (by kernel_rfl) rfl).get
          refine Draws.wpOp_of (by rfl) rfl (State.wp_value (v := .agg #[.int .i64 a0, .int .i64 a1, .int .i64 a2, .int .i64 a3]) (w' := W) ?_ (hI.same hloc hL _ _ (Cell.grown_refl _) (Draws.upd_at _ _ _)))
          simp only [execOp]
          go_simp
        · obtain rfl := Option.some.inj ho
          have p6 := (hI.old 6 (by kernel_rfl) rfl).get
          refine Draws.wpOp_of (by rfl) rfl (State.wp_value (v := .agg #[.int .i64 k0, .int .i64 k1, .int .i64 k2, .int .i64 k3]) (w' := W) ?_ (hI.same hloc hL _ _ (Cell.grown_refl _) (Draws.upd_at _ _ _)))
          simp only [execOp]
          go_simp
        · obtain rfl := Option.some.inj ho
          have p5 := (hI.old 5 (by kernel_rfl) rfl).get
          refine Draws.wpOp_of (by rfl) rfl (State.wp_value (v := .agg #[.int .i64 b0, .int .i64 b1, .int .i64 b2, .int .i64 b3]) (w' := W) ?_ (hI.same hloc hL _ _ (Cell.grown_refl _) (Draws.upd_at _ _ _)))
          simp only [execOp]
          go_simp
        · obtain rfl := Option.some.inj ho
          have l2 := hd 2 (by simp [State.SumGDep])
          have e2 := (hI.at_ 2 58 rfl l2).get
          have l3 := hd 3 (by simp [State.SumGDep])
          have e3 := (hI.at_ 3 59 rfl l3).get
          rw [show val 2 = _ from hI.gd 2 l2] at e2
          rw [show val 3 = _ from hI.gd 3 l3] at e3
          refine Draws.wpOp_of (by rfl) rfl ?_
          unfold Oper.wp
          simp only [execOp]
          go_simp
          refine Calls.mono (P := Try.prog) (HKB.out W) ?_
          rintro e w1 ⟨rfl, hg⟩
          exact hI.same hloc hL _ (.agg #[.int .i64 kb0, .int .i64 kb1, .int .i64 kb2, .int .i64 kb3]) hg (Draws.upd_at _ _ _)
        · obtain rfl := Option.some.inj ho
          have l1 := hd 1 (by simp [State.SumGDep])
          have e1 := (hI.at_ 1 57 rfl l1).get
          have l4 := hd 4 (by simp [State.SumGDep])
          have e4 := (hI.at_ 4 60 rfl l4).get
          rw [show val 1 = _ from hI.gd 1 l1] at e1
          rw [show val 4 = _ from hI.gd 4 l4] at e4
          refine Draws.wpOp_of (by rfl) rfl ?_
          unfold Oper.wp
          simp only [execOp]
          go_simp
          refine Calls.mono (P := Try.prog) (HX2.out W) ?_
          rintro e w1 ⟨rfl, hg⟩
          exact hI.same hloc hL _ (.agg #[.int .i64 x0, .int .i64 x1, .int .i64 x2, .int .i64 x3]) hg (Draws.upd_at _ _ _)
        · obtain rfl := Option.some.inj ho
          have l0 := hd 0 (by simp [State.SumGDep])
          have e0 := (hI.at_ 0 56 rfl l0).get
          have l5 := hd 5 (by simp [State.SumGDep])
          have e5 := (hI.at_ 5 61 rfl l5).get
          rw [show val 0 = _ from hI.gd 0 l0] at e0
          rw [show val 5 = _ from hI.gd 5 l5] at e5
          refine Draws.wpOp_of (by rfl) rfl (State.wp_value (v := .bool true) (w' := W) ?_ (hI.same hloc hL _ _ (Cell.grown_refl _) (Draws.upd_at _ _ _)))
          simp only [execOp]
          go_simp
        · obtain rfl := Option.some.inj ho
          have l6 := hd 6 (by simp [State.SumGDep])
          have e6 := (hI.at_ 6 62 rfl l6).get
          rw [show val 6 = _ from hI.gd 6 l6] at e6
          refine Draws.wpOp_of (by rfl) rfl (State.wp_value (v := .bool true) (w' := W) ?_ (hI.same hloc hL _ _ (Cell.grown_refl _) (Draws.upd_at _ _ _)))
          simp only [execOp]
          go_simp
        · obtain rfl := Option.some.inj ho
          have l7 := hd 7 (by simp [State.SumGDep])
          have e7 := (hI.at_ 7 63 rfl l7).get
          rw [show val 7 = _ from hI.gd 7 l7] at e7
          have ag := hI.at_ 7 63 rfl l7
          rw [show val 7 = _ from hI.gd 7 l7] at ag
          have p7 := (hI.old 7 (by kernel_rfl) rfl).get
          refine Draws.wpOp_want (by rfl) (Draws.want_at 7 63 rfl rfl ag) (State.wp_value (v := .pointer (some ⟨B7, 0, none⟩)) (w' := W) ?_ (hI.same hloc hL _ _ (Cell.grown_refl _) (Draws.upd_at _ _ _)))
          simp only [execOp]
          go_simp
        · obtain rfl := Option.some.inj ho
          have l8 := hd 8 (by simp [State.SumGDep])
          have e8 := (hI.at_ 8 64 rfl l8).get
          have l7 := hd 7 (by simp [State.SumGDep])
          have e7 := (hI.at_ 7 63 rfl l7).get
          rw [show val 8 = _ from hI.gd 8 l8] at e8
          rw [show val 7 = _ from hI.gd 7 l7] at e7
          have ag := hI.at_ 7 63 rfl l7
          rw [show val 7 = _ from hI.gd 7 l7] at ag
          refine Draws.wpOp_want (by rfl) (Draws.want_at 7 63 rfl rfl ag) (State.wp_value (v := .int .i64 x0) (w' := W) ?_ (hI.same hloc hL _ _ (Cell.grown_refl _) (Draws.upd_at _ _ _)))
          simp only [execOp]
          go_simp
        · obtain rfl := Option.some.inj ho
          have l7 := hd 7 (by simp [State.SumGDep])
          have e7 := (hI.at_ 7 63 rfl l7).get
          rw [show val 7 = _ from hI.gd 7 l7] at e7
          have ag := hI.at_ 7 63 rfl l7
          rw [show val 7 = _ from hI.gd 7 l7] at ag
          have p3 := (hI.old 3 (by kernel_rfl) rfl).get
          refine Draws.wpOp_want (by rfl) (Draws.want_at 7 63 rfl rfl ag) (State.wp_value (v := .slice (some ⟨gp, 0, none⟩) 12 cp) (w' := W) ?_ (hI.same hloc hL _ _ (Cell.grown_refl _) (Draws.upd_at _ _ _)))
          simp only [execOp]
          go_simp
        · obtain rfl := Option.some.inj ho
          have l10 := hd 10 (by simp [State.SumGDep])
          have e10 := (hI.at_ 10 66 rfl l10).get
          have l7 := hd 7 (by simp [State.SumGDep])
          have e7 := (hI.at_ 7 63 rfl l7).get
          rw [show val 10 = _ from hI.gd 10 l10] at e10
          rw [show val 7 = _ from hI.gd 7 l7] at e7
          have ag := hI.at_ 7 63 rfl l7
          rw [show val 7 = _ from hI.gd 7 l7] at ag
          refine Draws.wpOp_want (by rfl) (Draws.want_at 7 63 rfl rfl ag) (State.wp_value (v := .pointer (some ⟨gp, 0, none⟩)) (w' := W) ?_ (hI.same hloc hL _ _ (Cell.grown_refl _) (Draws.upd_at _ _ _)))
          simp only [execOp]
          go_simp
        · obtain rfl := Option.some.inj ho
          have l11 := hd 11 (by simp [State.SumGDep])
          have e11 := (hI.at_ 11 67 rfl l11).get
          have l7 := hd 7 (by simp [State.SumGDep])
          have e7 := (hI.at_ 7 63 rfl l7).get
          rw [show val 11 = _ from hI.gd 11 l11] at e11
          rw [show val 7 = _ from hI.gd 7 l7] at e7
          have ag := hI.at_ 7 63 rfl l7
          rw [show val 7 = _ from hI.gd 7 l7] at ag
          refine Draws.wpOp_want (by rfl) (Draws.want_at 7 63 rfl rfl ag) (State.wp_value (v := .int .i64 a0) (w' := W) ?_ (hI.same hloc hL _ _ (Cell.grown_refl _) (Draws.upd_at _ _ _)))
          simp only [execOp]
          go_simp
        · obtain rfl := Option.some.inj ho
          have l7 := hd 7 (by simp [State.SumGDep])
          have e7 := (hI.at_ 7 63 rfl l7).get
          rw [show val 7 = _ from hI.gd 7 l7] at e7
          have ag := hI.at_ 7 63 rfl l7
          rw [show val 7 = _ from hI.gd 7 l7] at ag
          have p3 := (hI.old 3 (by kernel_rfl) rfl).get
          refine Draws.wpOp_want (by rfl) (Draws.want_at 7 63 rfl rfl ag) (State.wp_value (v := .slice (some ⟨gp, 0, none⟩) 12 cp) (w' := W) ?_ (hI.same hloc hL _ _ (Cell.grown_refl _) (Draws.upd_at _ _ _)))
          simp only [execOp]
          go_simp
        · obtain rfl := Option.some.inj ho
          have l13 := hd 13 (by simp [State.SumGDep])
          have e13 := (hI.at_ 13 69 rfl l13).get
          have l7 := hd 7 (by simp [State.SumGDep])
          have e7 := (hI.at_ 7 63 rfl l7).get
          rw [show val 13 = _ from hI.gd 13 l13] at e13
          rw [show val 7 = _ from hI.gd 7 l7] at e7
          have ag := hI.at_ 7 63 rfl l7
          rw [show val 7 = _ from hI.gd 7 l7] at ag
          refine Draws.wpOp_want (by rfl) (Draws.want_at 7 63 rfl rfl ag) (State.wp_value (v := .pointer (some ⟨gp, 4, none⟩)) (w' := W) ?_ (hI.same hloc hL _ _ (Cell.grown_refl _) (Draws.upd_at _ _ _)))
          simp only [execOp]
          go_simp
        · obtain rfl := Option.some.inj ho
          have l14 := hd 14 (by simp [State.SumGDep])
          have e14 := (hI.at_ 14 70 rfl l14).get
          have l7 := hd 7 (by simp [State.SumGDep])
          have e7 := (hI.at_ 7 63 rfl l7).get
          rw [show val 14 = _ from hI.gd 14 l14] at e14
          rw [show val 7 = _ from hI.gd 7 l7] at e7
          have ag := hI.at_ 7 63 rfl l7
          rw [show val 7 = _ from hI.gd 7 l7] at ag
          refine Draws.wpOp_want (by rfl) (Draws.want_at 7 63 rfl rfl ag) (State.wp_value (v := .int .i64 b0) (w' := W) ?_ (hI.same hloc hL _ _ (Cell.grown_refl _) (Draws.upd_at _ _ _)))
          simp only [execOp]
          go_simp
        · obtain rfl := Option.some.inj ho
          have l12 := hd 12 (by simp [State.SumGDep])
          have e12 := (hI.at_ 12 68 rfl l12).get
          have l15 := hd 15 (by simp [State.SumGDep])
          have e15 := (hI.at_ 15 71 rfl l15).get
          have l7 := hd 7 (by simp [State.SumGDep])
          have e7 := (hI.at_ 7 63 rfl l7).get
          rw [show val 12 = _ from hI.gd 12 l12] at e12
          rw [show val 15 = _ from hI.gd 15 l15] at e15
          rw [show val 7 = _ from hI.gd 7 l7] at e7
          have ag := hI.at_ 7 63 rfl l7
          rw [show val 7 = _ from hI.gd 7 l7] at ag
          refine Draws.wpOp_want (by rfl) (Draws.want_at 7 63 rfl rfl ag) (State.wp_value (v := .int .i64 ab0) (w' := W) ?_ (hI.same hloc hL _ _ (Cell.grown_refl _) (Draws.upd_at _ _ _)))
          simp only [execOp]
          go_simp
        · obtain rfl := Option.some.inj ho
          have l7 := hd 7 (by simp [State.SumGDep])
          have e7 := (hI.at_ 7 63 rfl l7).get
          rw [show val 7 = _ from hI.gd 7 l7] at e7
          have ag := hI.at_ 7 63 rfl l7
          rw [show val 7 = _ from hI.gd 7 l7] at ag
          have p3 := (hI.old 3 (by kernel_rfl) rfl).get
          refine Draws.wpOp_want (by rfl) (Draws.want_at 7 63 rfl rfl ag) (State.wp_value (v := .slice (some ⟨gp, 0, none⟩) 12 cp) (w' := W) ?_ (hI.same hloc hL _ _ (Cell.grown_refl _) (Draws.upd_at _ _ _)))
          simp only [execOp]
          go_simp
        · obtain rfl := Option.some.inj ho
          have l17 := hd 17 (by simp [State.SumGDep])
          have e17 := (hI.at_ 17 73 rfl l17).get
          have l7 := hd 7 (by simp [State.SumGDep])
          have e7 := (hI.at_ 7 63 rfl l7).get
          rw [show val 17 = _ from hI.gd 17 l17] at e17
          rw [show val 7 = _ from hI.gd 7 l7] at e7
          have ag := hI.at_ 7 63 rfl l7
          rw [show val 7 = _ from hI.gd 7 l7] at ag
          refine Draws.wpOp_want (by rfl) (Draws.want_at 7 63 rfl rfl ag) (State.wp_value (v := .pointer (some ⟨gp, 8, none⟩)) (w' := W) ?_ (hI.same hloc hL _ _ (Cell.grown_refl _) (Draws.upd_at _ _ _)))
          simp only [execOp]
          go_simp
        · obtain rfl := Option.some.inj ho
          have l18 := hd 18 (by simp [State.SumGDep])
          have e18 := (hI.at_ 18 74 rfl l18).get
          have l7 := hd 7 (by simp [State.SumGDep])
          have e7 := (hI.at_ 7 63 rfl l7).get
          rw [show val 18 = _ from hI.gd 18 l18] at e18
          rw [show val 7 = _ from hI.gd 7 l7] at e7
          have ag := hI.at_ 7 63 rfl l7
          rw [show val 7 = _ from hI.gd 7 l7] at ag
          refine Draws.wpOp_want (by rfl) (Draws.want_at 7 63 rfl rfl ag) (State.wp_value (v := .int .i64 k0) (w' := W) ?_ (hI.same hloc hL _ _ (Cell.grown_refl _) (Draws.upd_at _ _ _)))
          simp only [execOp]
          go_simp
        · obtain rfl := Option.some.inj ho
          have l16 := hd 16 (by simp [State.SumGDep])
          have e16 := (hI.at_ 16 72 rfl l16).get
          have l19 := hd 19 (by simp [State.SumGDep])
          have e19 := (hI.at_ 19 75 rfl l19).get
          have l7 := hd 7 (by simp [State.SumGDep])
          have e7 := (hI.at_ 7 63 rfl l7).get
          rw [show val 16 = _ from hI.gd 16 l16] at e16
          rw [show val 19 = _ from hI.gd 19 l19] at e19
          rw [show val 7 = _ from hI.gd 7 l7] at e7
          have ag := hI.at_ 7 63 rfl l7
          rw [show val 7 = _ from hI.gd 7 l7] at ag
          refine Draws.wpOp_want (by rfl) (Draws.want_at 7 63 rfl rfl ag) (State.wp_value (v := .int .i64 x0) (w' := W) ?_ (hI.same hloc hL _ _ (Cell.grown_refl _) (Draws.upd_at _ _ _)))
          simp only [execOp]
          go_simp
        · obtain rfl := Option.some.inj ho
          have l9 := hd 9 (by simp [State.SumGDep])
          have e9 := (hI.at_ 9 65 rfl l9).get
          have l20 := hd 20 (by simp [State.SumGDep])
          have e20 := (hI.at_ 20 76 rfl l20).get
          have l7 := hd 7 (by simp [State.SumGDep])
          have e7 := (hI.at_ 7 63 rfl l7).get
          rw [show val 9 = _ from hI.gd 9 l9] at e9
          rw [show val 20 = _ from hI.gd 20 l20] at e20
          rw [show val 7 = _ from hI.gd 7 l7] at e7
          have ag := hI.at_ 7 63 rfl l7
          rw [show val 7 = _ from hI.gd 7 l7] at ag
          refine Draws.wpOp_want (by rfl) (Draws.want_at 7 63 rfl rfl ag) (State.wp_value (v := .bool true) (w' := W) ?_ (hI.same hloc hL _ _ (Cell.grown_refl _) (Draws.upd_at _ _ _)))
          simp only [execOp]
          go_simp
        · obtain rfl := Option.some.inj ho
          have l7 := hd 7 (by simp [State.SumGDep])
          have e7 := (hI.at_ 7 63 rfl l7).get
          have l21 := hd 21 (by simp [State.SumGDep])
          have e21 := (hI.at_ 21 77 rfl l21).get
          rw [show val 7 = _ from hI.gd 7 l7] at e7
          rw [show val 21 = _ from hI.gd 21 l21] at e21
          refine Draws.wpOp_of (by rfl) rfl (State.wp_value (v := .bool true) (w' := W) ?_ (hI.same hloc hL _ _ (Cell.grown_refl _) (Draws.upd_at _ _ _)))
          simp only [execOp]
          go_simp
        · obtain rfl := Option.some.inj ho
          have l22 := hd 22 (by simp [State.SumGDep])
          have e22 := (hI.at_ 22 78 rfl l22).get
          rw [show val 22 = _ from hI.gd 22 l22] at e22
          refine Draws.wpOp_of (by rfl) rfl (State.wp_value (v := .bool true) (w' := W) ?_ (hI.same hloc hL _ _ (Cell.grown_refl _) (Draws.upd_at _ _ _)))
          simp only [execOp]
          go_simp
        · obtain rfl := Option.some.inj ho
          have l23 := hd 23 (by simp [State.SumGDep])
          have e23 := (hI.at_ 23 79 rfl l23).get
          rw [show val 23 = _ from hI.gd 23 l23] at e23
          have ag := hI.at_ 23 79 rfl l23
          rw [show val 23 = _ from hI.gd 23 l23] at ag
          have p4 := (hI.old 4 (by kernel_rfl) rfl).get
          refine Draws.wpOp_want (by rfl) (Draws.want_at 23 79 rfl rfl ag) (State.wp_value (v := .agg #[.int .i64 a0, .int .i64 a1, .int .i64 a2, .int .i64 a3]) (w' := W) ?_ (hI.same hloc hL _ _ (Cell.grown_refl _) (Draws.upd_at _ _ _)))
          simp only [execOp]
          go_simp
        · obtain rfl := Option.some.inj ho
          have l23 := hd 23 (by simp [State.SumGDep])
          have e23 := (hI.at_ 23 79 rfl l23).get
          rw [show val 23 = _ from hI.gd 23 l23] at e23
          have ag := hI.at_ 23 79 rfl l23
          rw [show val 23 = _ from hI.gd 23 l23] at ag
          refine Draws.wpOp_want (by rfl) (Draws.want_at 23 79 rfl rfl ag) (State.wp_value (v := .agg #[.int .i64 0, .int .i64 0, .int .i64 0, .int .i64 0]) (w' := W) ?_ (hI.same hloc hL _ _ (Cell.grown_refl _) (Draws.upd_at _ _ _)))
          simp only [execOp]
          go_simp
        · obtain rfl := Option.some.inj ho
          have l24 := hd 24 (by simp [State.SumGDep])
          have e24 := (hI.at_ 24 80 rfl l24).get
          have l25 := hd 25 (by simp [State.SumGDep])
          have e25 := (hI.at_ 25 81 rfl l25).get
          have l23 := hd 23 (by simp [State.SumGDep])
          have e23 := (hI.at_ 23 79 rfl l23).get
          rw [show val 24 = _ from hI.gd 24 l24] at e24
          rw [show val 25 = _ from hI.gd 25 l25] at e25
          rw [show val 23 = _ from hI.gd 23 l23] at e23
          have ag := hI.at_ 23 79 rfl l23
          rw [show val 23 = _ from hI.gd 23 l23] at ag
          refine Draws.wpOp_want (by rfl) (Draws.want_at 23 79 rfl rfl ag) ?_
          unfold Oper.wp
          simp only [execOp]
          go_simp
          refine Calls.mono (P := Try.prog) (HZ.out W) ?_
          rintro e w1 ⟨rfl, hg⟩
          exact hI.same hloc hL _ (.agg #[.int .i64 a0, .int .i64 a1, .int .i64 a2, .int .i64 a3]) hg (Draws.upd_at _ _ _)
        · obtain rfl := Option.some.inj ho
          have l23 := hd 23 (by simp [State.SumGDep])
          have e23 := (hI.at_ 23 79 rfl l23).get
          rw [show val 23 = _ from hI.gd 23 l23] at e23
          have ag := hI.at_ 23 79 rfl l23
          rw [show val 23 = _ from hI.gd 23 l23] at ag
          have p4 := (hI.old 4 (by kernel_rfl) rfl).get
          refine Draws.wpOp_want (by rfl) (Draws.want_at 23 79 rfl rfl ag) (State.wp_value (v := .agg #[.int .i64 a0, .int .i64 a1, .int .i64 a2, .int .i64 a3]) (w' := W) ?_ (hI.same hloc hL _ _ (Cell.grown_refl _) (Draws.upd_at _ _ _)))
          simp only [execOp]
          go_simp
        · obtain rfl := Option.some.inj ho
          have l26 := hd 26 (by simp [State.SumGDep])
          have e26 := (hI.at_ 26 82 rfl l26).get
          have l27 := hd 27 (by simp [State.SumGDep])
          have e27 := (hI.at_ 27 83 rfl l27).get
          have l23 := hd 23 (by simp [State.SumGDep])
          have e23 := (hI.at_ 23 79 rfl l23).get
          rw [show val 26 = _ from hI.gd 26 l26] at e26
          rw [show val 27 = _ from hI.gd 27 l27] at e27
          rw [show val 23 = _ from hI.gd 23 l23] at e23
          have ag := hI.at_ 23 79 rfl l23
          rw [show val 23 = _ from hI.gd 23 l23] at ag
          refine Draws.wpOp_want (by rfl) (Draws.want_at 23 79 rfl rfl ag) (State.wp_value (v := .bool true) (w' := W) ?_ (hI.same hloc hL _ _ (Cell.grown_refl _) (Draws.upd_at _ _ _)))
          simp only [execOp]
          go_simp
        · obtain rfl := Option.some.inj ho
          have l23 := hd 23 (by simp [State.SumGDep])
          have e23 := (hI.at_ 23 79 rfl l23).get
          have l28 := hd 28 (by simp [State.SumGDep])
          have e28 := (hI.at_ 28 84 rfl l28).get
          rw [show val 23 = _ from hI.gd 23 l23] at e23
          rw [show val 28 = _ from hI.gd 28 l28] at e28
          refine Draws.wpOp_of (by rfl) rfl (State.wp_value (v := .bool true) (w' := W) ?_ (hI.same hloc hL _ _ (Cell.grown_refl _) (Draws.upd_at _ _ _)))
          simp only [execOp]
          go_simp
        · obtain rfl := Option.some.inj ho
          have l29 := hd 29 (by simp [State.SumGDep])
          have e29 := (hI.at_ 29 85 rfl l29).get
          rw [show val 29 = _ from hI.gd 29 l29] at e29
          refine Draws.wpOp_of (by rfl) rfl (State.wp_value (v := .bool true) (w' := W) ?_ (hI.same hloc hL _ _ (Cell.grown_refl _) (Draws.upd_at _ _ _)))
          simp only [execOp]
          go_simp
      case last =>
        intro L a W val G hI hall
        have v30 : val 30 = .bool true := hI.gd 30 (hall 30 (by simp))
        have hgr : w.grownBy W none := hI.hd.gr
        have ha := hI.frame (by kernel_rfl) hall
        refine hKK _ _ ?_
        clear hKK hI hall HKB HX2 HZ HE5 HCE HF
        simp [Draws.frameOf, Draws.slotOf, Act.put, List.range, List.range.loop] at ha
        subst ha
        rw [v30]
        clear v30
        go_wp2_with fail
        go_ret
        exact ⟨rfl, Cell.grown_below hgr (Nat.le_refl _)⟩

set_option maxRecDepth 100000 in
theorem lifted (os : Os) (started : os.Started) (H : Type) (enc : TypeId × Value → H) :
    ReturnsInHanded {} Try.checked os 4 .any (Rows.fnLedgersSpec.pre6 enc Try.prog Try.f4 Rows.fnLedgersRow.domain false) (Rows.fnLedgersSpec.post enc Try.prog Try.f4 false true false false) := by
  refine returnsInHanded_of_change (C := Try.checked) own started (by kernel_rfl) Try.func4
    (ChangeSpec.witness6 (enc := enc) (C := Try.checked) false ⟨#[], #[.slice none 0 0], []⟩ 8 (by kernel_rfl) (by kernel_rfl) (by kernel_rfl) (by kernel_rfl)) ?_
  intro W base args ds gs before hval0 hW hcnd _
  have hval : ∀ (j : Nat) t v, Try.f4.params[j]? = some t → args[j]? = some v → Value.okWide Try.prog W .any base t v := hval0
  have hW' := hW
  obtain ⟨p, q, hA0, hV, rfl, hfz, hnd⟩ := hW
  have hA : DataW.TrodAll enc Try.prog W 0 (fun _ => true) true Try.f4.params.toList args.toList ds p := hA0
  rw [Try.params4] at hA hval
  obtain ⟨v0, vs0, d0, ds0, p0, q0, hargs, rfl, rfl, h0, r0⟩ := trodAll_cons hA
  obtain ⟨rfl, rfl, rfl⟩ := trodAll_nil r0
  obtain rfl : args = #[v0] := by cases args; simp_all
  obtain ⟨rfl, rfl⟩ := trodVars_none hV
  obtain ⟨a0, len0, cap0, rfl⟩ := okWide_slice Try.underlying22 (hval 0 22 v0 rfl rfl)
  have k0 := h0
  have lt0 : ∀ x ∈ p0, x.block < W.heap.size := by obtain ⟨m, hm⟩ := k0; exact DataW.trod_lt m _ _ _ hm
  obtain ⟨z0, w0⟩ : ∃ zs, IsRow .u8 W a0 len0 cap0 zs := by
    obtain ⟨fuel, hf⟩ := h0
    rcases open_ints Try.underlying22 Try.underlying5 (by kernel_rfl) hf with ⟨hcs, _⟩ | ⟨x, l, c, zs, hcs, _, hl, hm, hz, _, hcell, hwz⟩
    · simp [Value.cells] at hcs
      obtain ⟨rfl, rfl, rfl⟩ := hcs
      exact ⟨[], .inl ⟨rfl, rfl, rfl, rfl⟩⟩
    · simp [Value.cells] at hcs
      obtain ⟨rfl, rfl, rfl⟩ := hcs
      exact ⟨zs, .inr ⟨_, rfl, hl, hm, by simpa using hz, hcell, hwz⟩⟩
  clear hA0 hval0
  refine (walk a0 len0 cap0 z0 W w0).mono fun e W' ⟨he, bel⟩ => ?_
  subst he
  exact ⟨_, rfl, _, _, _, [], _, [], hW', trodAll_mk1 (shut_bool Try.underlying4 _), (trodAll_cons_mk (Below.trod laidOut (by kernel_rfl) (of_decide_eq_true (by kernel_rfl)) k0 bel lt0) trodAll_mk0), rfl, bel.frame _, fun h => by cases h⟩

theorem over : Rows.fnLedgersRow.holds Try.pinned (OpenSpec.ofChange Rows.fnLedgersSpec) :=
  OpenClaim.holds_of_wide 4 Try.f4 rfl rfl rfl rfl rfl rfl rfl ⟨rfl, rfl, rfl, rfl, rfl⟩ rfl rfl rfl rfl rfl (by kernel_rfl) Try.func4 (by kernel_rfl)
    (of_decide_eq_true (by kernel_rfl)) (by unfold Func.isWrapper; first | (rw [if_pos (by decide +kernel)]; kernel_rfl) | (rw [if_neg (by decide +kernel)]; exact ⟨rfl, rfl⟩))
    (fun os started H enc _ => lifted os started H enc)

theorem proved : Rows.FnLedgersSaid := over
#print axioms proved
end Go.Proofs.Ytngacnckejnllaa.fnLedgers
