/- Proved: for every slice of bytes the law FnConserved returns true: a tick (a drawn one, from 0 to 63) of a drawn state is a valid state with the same mesh, the same beds and the same totals of mass and tracer.
   Conditions: none besides those that the given row prints. -/
import Derived.Test.YtnaofcbbdlhjpaaRows
import Derived.WalkKit
import Derived.ProofKit
import Derived.OpenShut
import Derived.ShutString
import Derived.Test.YtnaofcbbdlhjpaaStStepL
import Derived.ChangeOld
import Derived.Below
set_option maxRecDepth 100000
namespace Go.Proofs.Ytnaofcbbdlhjpaa.fnConserved
open Go.ChangeShapes Go.WideShapes Go.ChangeAt Go.RowKit
open Go.ChangeMaps (open_string shut_string)
set_option linter.unusedVariables false

theorem own : ownKnob Try.prog.godebug = none := by kernel_rfl
theorem laidOut : laidOutB Try.prog = true := by kernel_rfl

def IsRow (k : IntKind) (w : World) (a : Option Addr) (len cap : Nat) (zs : List Int) : Prop :=
  (a = none ∧ len = 0 ∧ cap = 0 ∧ zs = []) ∨
  ∃ x, a = some x ∧ len ≤ cap ∧ cap ≤ maxLen ∧ zs.length = cap ∧ (∀ i, i < zs.length → w.cell? (x.add i) = some (.int k (zs.getD i 0))) ∧ ∀ n ∈ zs, (Lit.int k n).wf = true

set_option maxHeartbeats 32000000 in
theorem walk (a0 : Option Addr) (len0 cap0 : Nat) (z0 : List Int) (w : World) (w0 : IsRow .u8 w a0 len0 cap0 z0) :
    Calls Try.prog 3 #[.slice a0 len0 cap0] w fun e w' => e = .returned (.bool true) ∧ Below w.heap.size w w' := by
  have hb := Draw.bytes_of w0
  have HB := Lib.hid hb; clear hb
  clear w0
  by_cases hlen : 1048576 < len0
  · have hd : decide (1048576 < (len0 : Int)) = true := by simp; omega
    go_enter Try.func3, Try.ntmps3
    go_wp2_with fail
    refine Draw.big_any.mono ?_; rintro e w1 ⟨rfl, rfl⟩
    rw [hd]
    go_wp2_with fail
    go_ret
    exact ⟨rfl, Below.refl _ _⟩
  · have hd : decide (1048576 < (len0 : Int)) = false := by simp; omega
    have hlen' : len0 ≤ 1048576 := by omega
    have HLen := Lib.hid hlen'; clear hlen'
    go_enter Try.func3, Try.ntmps3
    go_wp2_with fail
    refine Draw.big_any.mono ?_; rintro e w1 ⟨rfl, rfl⟩
    rw [hd]
    clear hd hlen
    go_wp2_with fail
    refine (State.drawState_is HLen.out HB.out (Nat.le_refl _)).mono ?_
    rintro e w1 ⟨R, n1, n2, xs, ms, ts, bs, x1, c1, x2, c2, x3, c3, x4, c4, rfl, hd, ho, hg⟩
    obtain ⟨hn2, hn2', hR⟩ := hd.sizes
    have hn := hd.leaves
    obtain ⟨g1, c1', hv⟩ := Mesh.own_at1 ho.l (by omega)
    cases hv
    obtain ⟨g2, rfl, -, -⟩ := Ints.own_atI ho.m (by omega)
    obtain ⟨g3, rfl, -, -⟩ := Ints.own_atI ho.t (by omega)
    obtain ⟨g4, rfl, -, -⟩ := Ints.own_atI ho.b (by omega)
    have HE1 := Lib.hid ((State.Held.state (Law.Held.nil w) hg ho).box 29 #[.int .i64 R, .slice (some ⟨g1, 0, none⟩) n1 c1, .slice (some ⟨g2, 0, none⟩) n1 c2, .slice (some ⟨g3, 0, none⟩) n1 c3, .slice (some ⟨g4, 0, none⟩) n2 c4])
    have HD := Lib.hid hd
    have H1 := Lib.hid (show n1 ≤ 1048576 by omega); have H2 := Lib.hid (show n2 ≤ 1048576 by omega)
    have HN := Lib.hid hn
    have hn1 : 1 ≤ (n1 : Int) := by omega
    have hn1' : (n1 : Int) ≤ 128 := by omega
    have HBW := Lib.hid (HB.out.kept (fun b hb' => (hg.block b hb' (by simp))))
    have HSZ := Lib.hid hg.size
    clear ho hg hd hn hn2 hn2' hR HB
    go_upto_region 4 with fail
    obtain ⟨B3, hB3⟩ : ∃ B, B = w1.heap.size := ⟨_, rfl⟩
    rw [← hB3] at HE1 ⊢
    clear hB3
    have HBX := Lib.hid (HBW.out.kept (fun b hb' => (World.grownBy_alloc w1 (.cells #[.int .i64 R, .slice (some ⟨g1, 0, none⟩) n1 c1, .slice (some ⟨g2, 0, none⟩) n1 c2, .slice (some ⟨g3, 0, none⟩) n1 c3, .slice (some ⟨g4, 0, none⟩) n2 c4] 29) none).block b (by have := HSZ.out; omega) (by simp)))
    have HSX := Lib.hid (Nat.le_trans HSZ.out (World.grownBy_alloc w1 (.cells #[.int .i64 R, .slice (some ⟨g1, 0, none⟩) n1 c1, .slice (some ⟨g2, 0, none⟩) n1 c2, .slice (some ⟨g3, 0, none⟩) n1 c3, .slice (some ⟨g4, 0, none⟩) n2 c4] 29) none).size)
    clear HBW HSZ
    generalize w1.alloc (.cells #[.int .i64 R, .slice (some ⟨g1, 0, none⟩) n1 c1, .slice (some ⟨g2, 0, none⟩) n1 c2, .slice (some ⟨g3, 0, none⟩) n1 c3, .slice (some ⟨g4, 0, none⟩) n2 c4] 29) = W1 at *
    go_upto_region 5 with (go_at_call 14; ((with_reducible refine (State.places_new HLen.out HBX.out HSX.out).mono ?_); rintro e w2 ⟨gp, cp, p0, p1, p2, rfl, q0, q1, q2, hp, hlo, hg⟩; have HE2 := Lib.hid (HE1.out.add hg hp (fun b hb => by rw [List.mem_singleton.1 hb]; exact hlo)); clear hp hlo hg))
    clear HE1 HBX HSX HLen
    obtain ⟨z0, z1, z2, z3, z4⟩ := Law.box5 (HE2.out.nth 1 rfl)
    obtain ⟨c4', c5, c6⟩ := HE2.out.nth 2 rfl
    have hl2 := HD.out.len
    have hl1 := HD.out.l1
    have hok := HD.out.ok
    obtain ⟨t, ht0⟩ : ∃ t, t = p0 % 64 := ⟨_, rfl⟩
    have ht : (p0 : Int).tmod 64 = t := by rw [Int.tmod_eq_emod_of_nonneg q0.1, ht0]
    have htb : 0 ≤ t ∧ t ≤ 63 := by omega
    have hw : IntKind.i64.wrap t = t := IntWalk.i64_in _ (by omega)
    have hv : State.stOk R xs (State.tickS R xs bs (ms, ts) t).1 (State.tickS R xs bs (ms, ts) t).2 bs = true := (State.tick_valid (p := (ms, ts)) t).trans hok
    obtain ⟨hs1, hs2⟩ := State.tick_sums (R := R) (xs := xs) (bs := bs) (p := (ms, ts)) t
    have hstp := fun u (h : State.ReadsS u (some ⟨g1, 0, none⟩) (some ⟨g2, 0, none⟩) (some ⟨g3, 0, none⟩) (some ⟨g4, 0, none⟩) n1 n1 n1 n2 xs ms ts bs) => State.stepState_is R t _ _ _ _ n1 n1 n1 n2 c1 c2 c3 c4 xs ms ts bs u h H1.out H1.out H1.out H2.out
    obtain ⟨mr, tr, hres⟩ : ∃ mr tr, State.tickS R xs bs (ms, ts) t = (mr, tr) := ⟨_, _, rfl⟩
    simp only [hres] at hv hs1 hs2 hstp
    have HP := Lib.hid hstp
    obtain ⟨M, hM⟩ : ∃ M, M = ms.sum := ⟨_, rfl⟩
    obtain ⟨T, hT⟩ : ∃ T, T = ts.sum := ⟨_, rfl⟩
    have HOKX := Lib.hid (show ∀ u (b1 b2 b3 b4 : Option Addr) (d1 d2 d3 d4 : Nat), State.ReadsS u b1 b2 b3 b4 n1 n1 n1 n2 xs mr tr bs → Calls Try.prog 16 #[.agg #[.int .i64 R, .slice b1 n1 d1, .slice b2 n1 d2, .slice b3 n1 d3, .slice b4 n2 d4]] u fun e w' => e = .returned (.bool true) ∧ u.grownBy w' none from fun u b1 b2 b3 b4 d1 d2 d3 d4 h => by
      have q := State.specStateOk_is R _ _ _ _ n1 n1 n1 n2 d1 d2 d3 d4 xs mr tr bs u h H1.out H1.out H1.out H2.out
      rw [hv] at q
      exact q)
    have HTM := Lib.hid (show ∀ u , State.ReadsS u (some ⟨g1, 0, none⟩) (some ⟨g2, 0, none⟩) (some ⟨g3, 0, none⟩) (some ⟨g4, 0, none⟩) n1 n1 n1 n2 xs ms ts bs → Calls Try.prog 18 #[.agg #[.int .i64 R, .slice (some ⟨g1, 0, none⟩) n1 c1, .slice (some ⟨g2, 0, none⟩) n1 c2, .slice (some ⟨g3, 0, none⟩) n1 c3, .slice (some ⟨g4, 0, none⟩) n2 c4]] u fun e w' => e = .returned (.int .i64 M) ∧ u.grownBy w' none from fun u h => by
      have q := State.specTotalMass_is R _ _ _ _ n1 n1 n1 n2 c1 c2 c3 c4 xs ms ts bs u h H1.out H1.out H1.out H2.out
      rw [if_pos hok, ← hM] at q
      exact q)
    have HTMX := Lib.hid (show ∀ u (b1 b2 b3 b4 : Option Addr) (d1 d2 d3 d4 : Nat), State.ReadsS u b1 b2 b3 b4 n1 n1 n1 n2 xs mr tr bs → Calls Try.prog 18 #[.agg #[.int .i64 R, .slice b1 n1 d1, .slice b2 n1 d2, .slice b3 n1 d3, .slice b4 n2 d4]] u fun e w' => e = .returned (.int .i64 M) ∧ u.grownBy w' none from fun u b1 b2 b3 b4 d1 d2 d3 d4 h => by
      have q := State.specTotalMass_is R _ _ _ _ n1 n1 n1 n2 d1 d2 d3 d4 xs mr tr bs u h H1.out H1.out H1.out H2.out
      rw [if_pos hv, hs1, ← hM] at q
      exact q)
    have HTT := Lib.hid (show ∀ u , State.ReadsS u (some ⟨g1, 0, none⟩) (some ⟨g2, 0, none⟩) (some ⟨g3, 0, none⟩) (some ⟨g4, 0, none⟩) n1 n1 n1 n2 xs ms ts bs → Calls Try.prog 19 #[.agg #[.int .i64 R, .slice (some ⟨g1, 0, none⟩) n1 c1, .slice (some ⟨g2, 0, none⟩) n1 c2, .slice (some ⟨g3, 0, none⟩) n1 c3, .slice (some ⟨g4, 0, none⟩) n2 c4]] u fun e w' => e = .returned (.int .i64 T) ∧ u.grownBy w' none from fun u h => by
      have q := State.specTotalTracer_is R _ _ _ _ n1 n1 n1 n2 c1 c2 c3 c4 xs ms ts bs u h H1.out H1.out H1.out H2.out
      rw [if_pos hok, ← hT] at q
      exact q)
    have HTTX := Lib.hid (show ∀ u (b1 b2 b3 b4 : Option Addr) (d1 d2 d3 d4 : Nat), State.ReadsS u b1 b2 b3 b4 n1 n1 n1 n2 xs mr tr bs → Calls Try.prog 19 #[.agg #[.int .i64 R, .slice b1 n1 d1, .slice b2 n1 d2, .slice b3 n1 d3, .slice b4 n2 d4]] u fun e w' => e = .returned (.int .i64 T) ∧ u.grownBy w' none from fun u b1 b2 b3 b4 d1 d2 d3 d4 h => by
      have q := State.specTotalTracer_is R _ _ _ _ n1 n1 n1 n2 d1 d2 d3 d4 xs mr tr bs u h H1.out H1.out H1.out H2.out
      rw [if_pos hv, hs2, ← hT] at q
      exact q)
    have HSM := Lib.hid (show ∀ u (b1 b2 b3 b4 : Option Addr) (d1 d2 d3 d4 : Nat), State.ReadsS u b1 b2 b3 b4 n1 n1 n1 n2 xs mr tr bs → State.ReadsS u (some ⟨g1, 0, none⟩) (some ⟨g2, 0, none⟩) (some ⟨g3, 0, none⟩) (some ⟨g4, 0, none⟩) n1 n1 n1 n2 xs ms ts bs → Calls Try.prog 17 #[.agg #[.int .i64 R, .slice b1 n1 d1], .agg #[.int .i64 R, .slice (some ⟨g1, 0, none⟩) n1 c1]] u fun e w' => e = .returned (.bool true) ∧ u.grownBy w' none from fun u b1 b2 b3 b4 d1 d2 d3 d4 h h' => Mesh.same_is R _ _ n1 d1 c1 xs u h.l h'.l H1.out)
    have HSI := Lib.hid (show ∀ u (b1 b2 b3 b4 : Option Addr) (d1 d2 d3 d4 : Nat), State.ReadsS u b1 b2 b3 b4 n1 n1 n1 n2 xs mr tr bs → State.ReadsS u (some ⟨g1, 0, none⟩) (some ⟨g2, 0, none⟩) (some ⟨g3, 0, none⟩) (some ⟨g4, 0, none⟩) n1 n1 n1 n2 xs ms ts bs → Calls Try.prog 20 #[.slice b4 n2 d4, .slice (some ⟨g4, 0, none⟩) n2 c4] u fun e w' => e = .returned (.bool true) ∧ u.grownBy w' none from fun u b1 b2 b3 b4 d1 d2 d3 d4 h h' => State.sameInts_is _ _ n2 d4 c4 bs u h.b h'.b H2.out)
    clear hM hT hl1 hl2 hok hv hs1 hs2 hstp hres HD HN z0 z1 z2 z3 z4 c4' c5 c6 q1 q2 ht0 hn1 hn1'
    rename_i K hK
    refine Draws.wp_region_tabG (w := w) rfl (by kernel_rfl) (by kernel_rfl) State.Cons5Dep (by kernel_rfl) [State.stateG (.slice (some ⟨g1, 0, none⟩) n1 c1) (.slice (some ⟨g2, 0, none⟩) n1 c2) (.slice (some ⟨g3, 0, none⟩) n1 c3) (.slice (some ⟨g4, 0, none⟩) n2 c4) n1 n1 n1 n2 xs ms ts bs, Law.boxG B3 29 #[.int .i64 R, .slice (some ⟨g1, 0, none⟩) n1 c1, .slice (some ⟨g2, 0, none⟩) n1 c2, .slice (some ⟨g3, 0, none⟩) n1 c3, .slice (some ⟨g4, 0, none⟩) n2 c4], State.placesG gp p0 p1 p2] [5, 6] (fun _ => Law.emptyG) (State.Cons5 R g1 g2 g3 g4 n1 n2 c1 c2 c3 c4 gp cp B3 t p0 xs mr tr bs) ?start ?step ?last
    case start => exact ((HE2.out.on (Mesh.gr_drew (Cell.grown_refl _))).addE).addE
    case step =>
      clear hK
      intro L a W val G i o hI ho hL hd
      have hi : i < 8 := by have := (Array.getElem?_eq_some_iff.1 ho).1; simpa using this
      have hloc := State.Cons5_local R g1 g2 g3 g4 n1 n2 c1 c2 c3 c4 gp cp B3 t p0 xs mr tr bs
      obtain ⟨z0, z1, z2, z3, z4⟩ := Law.box5 (hI.hd.nth 1 rfl)
      obtain ⟨c4', c5, c6⟩ := hI.hd.nth 2 rfl
      rcases (show i = 0 ∨ i = 1 ∨ i = 2 ∨ i = 3 ∨ i = 4 ∨ i = 5 ∨ i = 6 ∨ i = 7 by omega) with rfl | rfl | rfl | rfl | rfl | rfl | rfl | rfl
      · obtain rfl := Option.some.inj ho
        have p3 := (hI.old 3 (by kernel_rfl) rfl).get
        refine Draws.wpOp_of (by rfl) rfl (State.wp_value (v := .agg #[.int .i64 R, .slice (some ⟨g1, 0, none⟩) n1 c1, .slice (some ⟨g2, 0, none⟩) n1 c2, .slice (some ⟨g3, 0, none⟩) n1 c3, .slice (some ⟨g4, 0, none⟩) n2 c4]) (w' := W) ?_ (hI.same hloc hL _ _ (Cell.grown_refl _) (Draws.upd_at _ _ _)))
        simp only [execOp]
        go_simp
      · obtain rfl := Option.some.inj ho
        have p4 := (hI.old 4 (by kernel_rfl) rfl).get
        refine Draws.wpOp_of (by rfl) rfl (State.wp_value (v := .slice (some ⟨gp, 0, none⟩) 12 cp) (w' := W) ?_ (hI.same hloc hL _ _ (Cell.grown_refl _) (Draws.upd_at _ _ _)))
        simp only [execOp]
        go_simp
      · obtain rfl := Option.some.inj ho
        have l1 := hd 1 (by simp [State.Cons5Dep])
        have e1 := (hI.at_ 1 13 rfl l1).get
        rw [show val 1 = _ from hI.gd 1 l1] at e1
        refine Draws.wpOp_of (by rfl) rfl (State.wp_value (v := .pointer (some ⟨gp, 0, none⟩)) (w' := W) ?_ (hI.same hloc hL _ _ (Cell.grown_refl _) (Draws.upd_at _ _ _)))
        simp only [execOp]
        go_simp
      · obtain rfl := Option.some.inj ho
        have l2 := hd 2 (by simp [State.Cons5Dep])
        have e2 := (hI.at_ 2 14 rfl l2).get
        rw [show val 2 = _ from hI.gd 2 l2] at e2
        refine Draws.wpOp_of (by rfl) rfl (State.wp_value (v := .int .i64 p0) (w' := W) ?_ (hI.same hloc hL _ _ (Cell.grown_refl _) (Draws.upd_at _ _ _)))
        simp only [execOp]
        go_simp
      · obtain rfl := Option.some.inj ho
        have l3 := hd 3 (by simp [State.Cons5Dep])
        have e3 := (hI.at_ 3 15 rfl l3).get
        rw [show val 3 = _ from hI.gd 3 l3] at e3
        refine Draws.wpOp_of (by rfl) rfl (State.wp_value (v := .int .i64 t) (w' := W) ?_ (hI.same hloc hL _ _ (Cell.grown_refl _) (Draws.upd_at _ _ _)))
        simp only [execOp]
        go_simp
        all_goals first | omega | exact ht
      · obtain rfl := Option.some.inj ho
        have l0 := hd 0 (by simp [State.Cons5Dep])
        have e0 := (hI.at_ 0 12 rfl l0).get
        have l4 := hd 4 (by simp [State.Cons5Dep])
        have e4 := (hI.at_ 4 16 rfl l4).get
        rw [show val 0 = _ from hI.gd 0 l0] at e0
        rw [show val 4 = _ from hI.gd 4 l4] at e4
        refine Draws.wpOp_of (by rfl) rfl ?_
        unfold Oper.wp
        simp only [execOp]
        go_simp
        refine Calls.mono (P := Try.prog) (HP.out W (State.OwnS.reads (hI.hd.nth 0 rfl))) ?_
        rintro e w1 ⟨b1, d1, b2, d2, b3, d3, b4, d4, rfl, ho, hg⟩
        exact hI.made hloc hL _ (.agg #[.int .i64 R, .slice b1 n1 d1, .slice b2 n1 d2, .slice b3 n1 d3, .slice b4 n2 d4]) (State.stateG (.slice b1 n1 d1) (.slice b2 n1 d2) (.slice b3 n1 d3) (.slice b4 n2 d4) n1 n1 n1 n2 xs mr tr bs) (hI.hd.fill 3 (g' := State.stateG (.slice b1 n1 d1) (.slice b2 n1 d2) (.slice b3 n1 d3) (.slice b4 n2 d4) n1 n1 n1 n2 xs mr tr bs) (congrArg some (hI.no 5 hL)) hg (ho.from (Nat.zero_le _)) ho.blocks) ⟨b1, d1, b2, d2, b3, d3, b4, d4, Draws.upd_at _ _ _, Draws.upd_at _ _ _⟩
      · obtain rfl := Option.some.inj ho
        refine Draws.wpOp_of (by rfl) rfl (State.wp_value (v := .pointer (some ⟨W.heap.size, 0, none⟩)) (w' := W.alloc (.cells #[.int .i64 0, .slice none 0 0, .slice none 0 0, .slice none 0 0, .slice none 0 0] 29)) ?_ ?_)
        · simp only [execOp]
          go_simp
        exact hI.made hloc hL _ _ (Law.boxG W.heap.size 29 #[.int .i64 0, .slice none 0 0, .slice none 0 0, .slice none 0 0, .slice none 0 0]) (hI.hd.fill 4 (g' := Law.boxG W.heap.size 29 #[.int .i64 0, .slice none 0 0, .slice none 0 0, .slice none 0 0, .slice none 0 0]) (congrArg some (hI.no 6 hL)) (World.grownBy_alloc W _ none) (World.alloc_heap_new W _) (fun b hb => by have : b = W.heap.size := (by simpa [Law.boxG] using hb); subst this; simp)) ⟨W.heap.size, _, _, _, _, _, Draws.upd_at _ _ _, Draws.upd_at _ _ _⟩
      · obtain rfl := Option.some.inj ho
        have l6 := hd 6 (by simp [State.Cons5Dep])
        have e6 := (hI.at_ 6 5 rfl l6).get
        have l5 := hd 5 (by simp [State.Cons5Dep])
        have e5 := (hI.at_ 5 17 rfl l5).get
        obtain ⟨B6, o0, o1, o2, o3, o4, v6, -⟩ := hI.gd 6 l6
        rw [v6] at e6
        obtain ⟨b1, d1, b2, d2, b3, d3, b4, d4, v5, -⟩ := hI.gd 5 l5
        rw [v5] at e5
        obtain ⟨B6', o0, o1, o2, o3, o4, v6', g6⟩ := hI.gd 6 l6
        rw [v6] at v6'
        cases v6'
        obtain ⟨y0, y1, y2, y3, y4⟩ := Law.box5 (hI.hd.nth 4 (congrArg some g6))
        obtain ⟨f0, f1, f2, f3, f4⟩ := Law.free5 (hI.hd.nth 4 (congrArg some g6))
        refine Draws.wpOp_of (by rfl) rfl (State.wp_skip (w' := ((((W.setCell ⟨B6, 0, none⟩ (.int .i64 R)).setCell ⟨B6, 1, none⟩ (.slice b1 n1 d1)).setCell ⟨B6, 2, none⟩ (.slice b2 n1 d2)).setCell ⟨B6, 3, none⟩ (.slice b3 n1 d3)).setCell ⟨B6, 4, none⟩ (.slice b4 n2 d4)) ?_ ?_)
        · simp only [execOp]
          go_simp
        exact hI.turned (c := 6) hloc hL _ undef (Law.boxG B6 29 #[.int .i64 R, .slice b1 n1 d1, .slice b2 n1 d2, .slice b3 n1 d3, .slice b4 n2 d4]) (hI.hd.put5 4 (congrArg some g6) (.int .i64 R) (.slice b1 n1 d1) (.slice b2 n1 d2) (.slice b3 n1 d3) (.slice b4 n2 d4)) l6 (by kernel_rfl) ⟨B6, _, _, _, _, _, v6, Draws.upd_at _ _ _⟩ ⟨B6, b1, d1, b2, d2, b3, d3, b4, d4, v6, v5, Draws.upd_at _ _ _⟩
    case last =>
      intro L a W val G hI hall
      have al : ∀ i, i < 8 → L i = true := fun i hi => hall i (by simpa using hi)
      obtain ⟨b1, d1, b2, d2, b3, d3, b4, d4, v5, r5⟩ := hI.gd 5 (al 5 (by decide))
      obtain ⟨B6, b1', d1', b2', d2', b3', d3', b4', d4', v6, u, r6⟩ := hI.gd 7 (al 7 (by decide))
      rw [v5] at u
      cases u
      have hH : Law.Held w W [State.stateG (.slice (some ⟨g1, 0, none⟩) n1 c1) (.slice (some ⟨g2, 0, none⟩) n1 c2) (.slice (some ⟨g3, 0, none⟩) n1 c3) (.slice (some ⟨g4, 0, none⟩) n2 c4) n1 n1 n1 n2 xs ms ts bs, Law.boxG B3 29 #[.int .i64 R, .slice (some ⟨g1, 0, none⟩) n1 c1, .slice (some ⟨g2, 0, none⟩) n1 c2, .slice (some ⟨g3, 0, none⟩) n1 c3, .slice (some ⟨g4, 0, none⟩) n2 c4], State.placesG gp p0 p1 p2, G 5, G 6] := hI.hd
      rw [r5, r6] at hH
      have HE3 := Lib.hid hH
      have ha := hI.frame (by kernel_rfl) hall
      refine hK _ _ ?_
      clear hK hI hH r5 r6 hall al HP HE2 ht hw htb q0
      simp [Draws.frameOf, Draws.slotOf, Act.put, List.range, List.range.loop] at ha
      subst ha
      rw [v6]
      clear v5 v6
      have HOKX := Lib.hid fun u => HOKX.out u b1 b2 b3 b4 d1 d2 d3 d4
      have HTMX := Lib.hid fun u => HTMX.out u b1 b2 b3 b4 d1 d2 d3 d4
      have HTTX := Lib.hid fun u => HTTX.out u b1 b2 b3 b4 d1 d2 d3 d4
      have HSM := Lib.hid fun u => HSM.out u b1 b2 b3 b4 d1 d2 d3 d4
      have HSI := Lib.hid fun u => HSI.out u b1 b2 b3 b4 d1 d2 d3 d4
      go_upto_region 6 with fail
      rename_i K hK
      refine Draws.wp_region_tabG (w := w) rfl (by kernel_rfl) (by kernel_rfl) State.Cons6Dep (by kernel_rfl) [State.stateG (.slice (some ⟨g1, 0, none⟩) n1 c1) (.slice (some ⟨g2, 0, none⟩) n1 c2) (.slice (some ⟨g3, 0, none⟩) n1 c3) (.slice (some ⟨g4, 0, none⟩) n2 c4) n1 n1 n1 n2 xs ms ts bs, Law.boxG B3 29 #[.int .i64 R, .slice (some ⟨g1, 0, none⟩) n1 c1, .slice (some ⟨g2, 0, none⟩) n1 c2, .slice (some ⟨g3, 0, none⟩) n1 c3, .slice (some ⟨g4, 0, none⟩) n2 c4], State.placesG gp p0 p1 p2, State.stateG (.slice b1 n1 d1) (.slice b2 n1 d2) (.slice b3 n1 d3) (.slice b4 n2 d4) n1 n1 n1 n2 xs mr tr bs, Law.boxG B6 29 #[.int .i64 R, .slice b1 n1 d1, .slice b2 n1 d2, .slice b3 n1 d3, .slice b4 n2 d4]] [] (fun _ => Law.emptyG) (State.Cons6 R g1 g2 g3 g4 n1 n2 c1 c2 c3 c4 B3 B6 b1 d1 b2 d2 b3 d3 b4 d4 M T) ?start ?step ?last
      case start => exact HE3.out.on (Mesh.gr_drew (Cell.grown_refl _))
      case step =>
        clear hK
        intro L a W val G i o hI ho hL hd
        have hi : i < 31 := by have := (Array.getElem?_eq_some_iff.1 ho).1; simpa using this
        have hloc := State.Cons6_local R g1 g2 g3 g4 n1 n2 c1 c2 c3 c4 B3 B6 b1 d1 b2 d2 b3 d3 b4 d4 M T
        obtain ⟨z0, z1, z2, z3, z4⟩ := Law.box5 (hI.hd.nth 1 rfl)
        obtain ⟨y0, y1, y2, y3, y4⟩ := Law.box5 (hI.hd.nth 4 rfl)
        rcases (show i = 0 ∨ i = 1 ∨ i = 2 ∨ i = 3 ∨ i = 4 ∨ i = 5 ∨ i = 6 ∨ i = 7 ∨ i = 8 ∨ i = 9 ∨ i = 10 ∨ i = 11 ∨ i = 12 ∨ i = 13 ∨ i = 14 ∨ i = 15 ∨ i = 16 ∨ i = 17 ∨ i = 18 ∨ i = 19 ∨ i = 20 ∨ i = 21 ∨ i = 22 ∨ i = 23 ∨ i = 24 ∨ i = 25 ∨ i = 26 ∨ i = 27 ∨ i = 28 ∨ i = 29 ∨ i = 30 by omega) with rfl | rfl | rfl | rfl | rfl | rfl | rfl | rfl | rfl | rfl | rfl | rfl | rfl | rfl | rfl | rfl | rfl | rfl | rfl | rfl | rfl | rfl | rfl | rfl | rfl | rfl | rfl | rfl | rfl | rfl | rfl
        · obtain rfl := Option.some.inj ho
          have p5 := (hI.old 5 (by kernel_rfl) rfl).get
          refine Draws.wpOp_of (by rfl) rfl (State.wp_value (v := .agg #[.int .i64 R, .slice b1 n1 d1, .slice b2 n1 d2, .slice b3 n1 d3, .slice b4 n2 d4]) (w' := W) ?_ (hI.same hloc hL _ _ (Cell.grown_refl _) (Draws.upd_at _ _ _)))
          simp only [execOp]
          go_simp
        · obtain rfl := Option.some.inj ho
          have l0 := hd 0 (by simp [State.Cons6Dep])
          have e0 := (hI.at_ 0 18 rfl l0).get
          rw [show val 0 = _ from hI.gd 0 l0] at e0
          refine Draws.wpOp_of (by rfl) rfl ?_
          unfold Oper.wp
          simp only [execOp]
          go_simp
          refine Calls.mono (P := Try.prog) (HOKX.out W (State.OwnS.reads (hI.hd.nth 3 rfl))) ?_
          rintro e w1 ⟨rfl, hg⟩
          exact hI.same hloc hL _ (.bool true) hg (Draws.upd_at _ _ _)
        · obtain rfl := Option.some.inj ho
          have l1 := hd 1 (by simp [State.Cons6Dep])
          have e1 := (hI.at_ 1 19 rfl l1).get
          rw [show val 1 = _ from hI.gd 1 l1] at e1
          refine Draws.wpOp_of (by rfl) rfl (State.wp_value (v := .bool true) (w' := W) ?_ (hI.same hloc hL _ _ (Cell.grown_refl _) (Draws.upd_at _ _ _)))
          simp only [execOp]
          go_simp
        · obtain rfl := Option.some.inj ho
          have l2 := hd 2 (by simp [State.Cons6Dep])
          have e2 := (hI.at_ 2 20 rfl l2).get
          rw [show val 2 = _ from hI.gd 2 l2] at e2
          have ag := hI.at_ 2 20 rfl l2
          rw [show val 2 = _ from hI.gd 2 l2] at ag
          have p5 := (hI.old 5 (by kernel_rfl) rfl).get
          refine Draws.wpOp_want (by rfl) (Draws.want_at 2 20 rfl rfl ag) (State.wp_value (v := .pointer (some ⟨B6, 0, none⟩)) (w' := W) ?_ (hI.same hloc hL _ _ (Cell.grown_refl _) (Draws.upd_at _ _ _)))
          simp only [execOp]
          go_simp
        · obtain rfl := Option.some.inj ho
          have l3 := hd 3 (by simp [State.Cons6Dep])
          have e3 := (hI.at_ 3 21 rfl l3).get
          have l2 := hd 2 (by simp [State.Cons6Dep])
          have e2 := (hI.at_ 2 20 rfl l2).get
          rw [show val 3 = _ from hI.gd 3 l3] at e3
          rw [show val 2 = _ from hI.gd 2 l2] at e2
          have ag := hI.at_ 2 20 rfl l2
          rw [show val 2 = _ from hI.gd 2 l2] at ag
          refine Draws.wpOp_want (by rfl) (Draws.want_at 2 20 rfl rfl ag) (State.wp_value (v := .agg #[.int .i64 R, .slice b1 n1 d1]) (w' := W) ?_ (hI.same hloc hL _ _ (Cell.grown_refl _) (Draws.upd_at _ _ _)))
          simp only [execOp]
          go_simp
        · obtain rfl := Option.some.inj ho
          have l2 := hd 2 (by simp [State.Cons6Dep])
          have e2 := (hI.at_ 2 20 rfl l2).get
          rw [show val 2 = _ from hI.gd 2 l2] at e2
          have ag := hI.at_ 2 20 rfl l2
          rw [show val 2 = _ from hI.gd 2 l2] at ag
          have p3 := (hI.old 3 (by kernel_rfl) rfl).get
          refine Draws.wpOp_want (by rfl) (Draws.want_at 2 20 rfl rfl ag) (State.wp_value (v := .pointer (some ⟨B3, 0, none⟩)) (w' := W) ?_ (hI.same hloc hL _ _ (Cell.grown_refl _) (Draws.upd_at _ _ _)))
          simp only [execOp]
          go_simp
        · obtain rfl := Option.some.inj ho
          have l5 := hd 5 (by simp [State.Cons6Dep])
          have e5 := (hI.at_ 5 23 rfl l5).get
          have l2 := hd 2 (by simp [State.Cons6Dep])
          have e2 := (hI.at_ 2 20 rfl l2).get
          rw [show val 5 = _ from hI.gd 5 l5] at e5
          rw [show val 2 = _ from hI.gd 2 l2] at e2
          have ag := hI.at_ 2 20 rfl l2
          rw [show val 2 = _ from hI.gd 2 l2] at ag
          refine Draws.wpOp_want (by rfl) (Draws.want_at 2 20 rfl rfl ag) (State.wp_value (v := .agg #[.int .i64 R, .slice (some ⟨g1, 0, none⟩) n1 c1]) (w' := W) ?_ (hI.same hloc hL _ _ (Cell.grown_refl _) (Draws.upd_at _ _ _)))
          simp only [execOp]
          go_simp
        · obtain rfl := Option.some.inj ho
          have l4 := hd 4 (by simp [State.Cons6Dep])
          have e4 := (hI.at_ 4 22 rfl l4).get
          have l6 := hd 6 (by simp [State.Cons6Dep])
          have e6 := (hI.at_ 6 24 rfl l6).get
          have l2 := hd 2 (by simp [State.Cons6Dep])
          have e2 := (hI.at_ 2 20 rfl l2).get
          rw [show val 4 = _ from hI.gd 4 l4] at e4
          rw [show val 6 = _ from hI.gd 6 l6] at e6
          rw [show val 2 = _ from hI.gd 2 l2] at e2
          have ag := hI.at_ 2 20 rfl l2
          rw [show val 2 = _ from hI.gd 2 l2] at ag
          refine Draws.wpOp_want (by rfl) (Draws.want_at 2 20 rfl rfl ag) ?_
          unfold Oper.wp
          simp only [execOp]
          go_simp
          refine Calls.mono (P := Try.prog) (HSM.out W (State.OwnS.reads (hI.hd.nth 3 rfl)) (State.OwnS.reads (hI.hd.nth 0 rfl))) ?_
          rintro e w1 ⟨rfl, hg⟩
          exact hI.same hloc hL _ (.bool true) hg (Draws.upd_at _ _ _)
        · obtain rfl := Option.some.inj ho
          have l2 := hd 2 (by simp [State.Cons6Dep])
          have e2 := (hI.at_ 2 20 rfl l2).get
          have l7 := hd 7 (by simp [State.Cons6Dep])
          have e7 := (hI.at_ 7 25 rfl l7).get
          rw [show val 2 = _ from hI.gd 2 l2] at e2
          rw [show val 7 = _ from hI.gd 7 l7] at e7
          refine Draws.wpOp_of (by rfl) rfl (State.wp_value (v := .bool true) (w' := W) ?_ (hI.same hloc hL _ _ (Cell.grown_refl _) (Draws.upd_at _ _ _)))
          simp only [execOp]
          go_simp
        · obtain rfl := Option.some.inj ho
          have l8 := hd 8 (by simp [State.Cons6Dep])
          have e8 := (hI.at_ 8 26 rfl l8).get
          rw [show val 8 = _ from hI.gd 8 l8] at e8
          refine Draws.wpOp_of (by rfl) rfl (State.wp_value (v := .bool true) (w' := W) ?_ (hI.same hloc hL _ _ (Cell.grown_refl _) (Draws.upd_at _ _ _)))
          simp only [execOp]
          go_simp
        · obtain rfl := Option.some.inj ho
          have l9 := hd 9 (by simp [State.Cons6Dep])
          have e9 := (hI.at_ 9 27 rfl l9).get
          rw [show val 9 = _ from hI.gd 9 l9] at e9
          have ag := hI.at_ 9 27 rfl l9
          rw [show val 9 = _ from hI.gd 9 l9] at ag
          have p5 := (hI.old 5 (by kernel_rfl) rfl).get
          refine Draws.wpOp_want (by rfl) (Draws.want_at 9 27 rfl rfl ag) (State.wp_value (v := .agg #[.int .i64 R, .slice b1 n1 d1, .slice b2 n1 d2, .slice b3 n1 d3, .slice b4 n2 d4]) (w' := W) ?_ (hI.same hloc hL _ _ (Cell.grown_refl _) (Draws.upd_at _ _ _)))
          simp only [execOp]
          go_simp
        · obtain rfl := Option.some.inj ho
          have l10 := hd 10 (by simp [State.Cons6Dep])
          have e10 := (hI.at_ 10 28 rfl l10).get
          have l9 := hd 9 (by simp [State.Cons6Dep])
          have e9 := (hI.at_ 9 27 rfl l9).get
          rw [show val 10 = _ from hI.gd 10 l10] at e10
          rw [show val 9 = _ from hI.gd 9 l9] at e9
          have ag := hI.at_ 9 27 rfl l9
          rw [show val 9 = _ from hI.gd 9 l9] at ag
          refine Draws.wpOp_want (by rfl) (Draws.want_at 9 27 rfl rfl ag) ?_
          unfold Oper.wp
          simp only [execOp]
          go_simp
          refine Calls.mono (P := Try.prog) (HTMX.out W (State.OwnS.reads (hI.hd.nth 3 rfl))) ?_
          rintro e w1 ⟨rfl, hg⟩
          exact hI.same hloc hL _ (.int .i64 M) hg (Draws.upd_at _ _ _)
        · obtain rfl := Option.some.inj ho
          have l9 := hd 9 (by simp [State.Cons6Dep])
          have e9 := (hI.at_ 9 27 rfl l9).get
          rw [show val 9 = _ from hI.gd 9 l9] at e9
          have ag := hI.at_ 9 27 rfl l9
          rw [show val 9 = _ from hI.gd 9 l9] at ag
          have p3 := (hI.old 3 (by kernel_rfl) rfl).get
          refine Draws.wpOp_want (by rfl) (Draws.want_at 9 27 rfl rfl ag) (State.wp_value (v := .agg #[.int .i64 R, .slice (some ⟨g1, 0, none⟩) n1 c1, .slice (some ⟨g2, 0, none⟩) n1 c2, .slice (some ⟨g3, 0, none⟩) n1 c3, .slice (some ⟨g4, 0, none⟩) n2 c4]) (w' := W) ?_ (hI.same hloc hL _ _ (Cell.grown_refl _) (Draws.upd_at _ _ _)))
          simp only [execOp]
          go_simp
        · obtain rfl := Option.some.inj ho
          have l12 := hd 12 (by simp [State.Cons6Dep])
          have e12 := (hI.at_ 12 30 rfl l12).get
          have l9 := hd 9 (by simp [State.Cons6Dep])
          have e9 := (hI.at_ 9 27 rfl l9).get
          rw [show val 12 = _ from hI.gd 12 l12] at e12
          rw [show val 9 = _ from hI.gd 9 l9] at e9
          have ag := hI.at_ 9 27 rfl l9
          rw [show val 9 = _ from hI.gd 9 l9] at ag
          refine Draws.wpOp_want (by rfl) (Draws.want_at 9 27 rfl rfl ag) ?_
          unfold Oper.wp
          simp only [execOp]
          go_simp
          refine Calls.mono (P := Try.prog) (HTM.out W (State.OwnS.reads (hI.hd.nth 0 rfl))) ?_
          rintro e w1 ⟨rfl, hg⟩
          exact hI.same hloc hL _ (.int .i64 M) hg (Draws.upd_at _ _ _)
        · obtain rfl := Option.some.inj ho
          have l11 := hd 11 (by simp [State.Cons6Dep])
          have e11 := (hI.at_ 11 29 rfl l11).get
          have l13 := hd 13 (by simp [State.Cons6Dep])
          have e13 := (hI.at_ 13 31 rfl l13).get
          have l9 := hd 9 (by simp [State.Cons6Dep])
          have e9 := (hI.at_ 9 27 rfl l9).get
          rw [show val 11 = _ from hI.gd 11 l11] at e11
          rw [show val 13 = _ from hI.gd 13 l13] at e13
          rw [show val 9 = _ from hI.gd 9 l9] at e9
          have ag := hI.at_ 9 27 rfl l9
          rw [show val 9 = _ from hI.gd 9 l9] at ag
          refine Draws.wpOp_want (by rfl) (Draws.want_at 9 27 rfl rfl ag) (State.wp_value (v := .bool true) (w' := W) ?_ (hI.same hloc hL _ _ (Cell.grown_refl _) (Draws.upd_at _ _ _)))
          simp only [execOp]
          go_simp
        · obtain rfl := Option.some.inj ho
          have l9 := hd 9 (by simp [State.Cons6Dep])
          have e9 := (hI.at_ 9 27 rfl l9).get
          have l14 := hd 14 (by simp [State.Cons6Dep])
          have e14 := (hI.at_ 14 32 rfl l14).get
          rw [show val 9 = _ from hI.gd 9 l9] at e9
          rw [show val 14 = _ from hI.gd 14 l14] at e14
          refine Draws.wpOp_of (by rfl) rfl (State.wp_value (v := .bool true) (w' := W) ?_ (hI.same hloc hL _ _ (Cell.grown_refl _) (Draws.upd_at _ _ _)))
          simp only [execOp]
          go_simp
        · obtain rfl := Option.some.inj ho
          have l15 := hd 15 (by simp [State.Cons6Dep])
          have e15 := (hI.at_ 15 33 rfl l15).get
          rw [show val 15 = _ from hI.gd 15 l15] at e15
          refine Draws.wpOp_of (by rfl) rfl (State.wp_value (v := .bool true) (w' := W) ?_ (hI.same hloc hL _ _ (Cell.grown_refl _) (Draws.upd_at _ _ _)))
          simp only [execOp]
          go_simp
        · obtain rfl := Option.some.inj ho
          have l16 := hd 16 (by simp [State.Cons6Dep])
          have e16 := (hI.at_ 16 34 rfl l16).get
          rw [show val 16 = _ from hI.gd 16 l16] at e16
          have ag := hI.at_ 16 34 rfl l16
          rw [show val 16 = _ from hI.gd 16 l16] at ag
          have p5 := (hI.old 5 (by kernel_rfl) rfl).get
          refine Draws.wpOp_want (by rfl) (Draws.want_at 16 34 rfl rfl ag) (State.wp_value (v := .agg #[.int .i64 R, .slice b1 n1 d1, .slice b2 n1 d2, .slice b3 n1 d3, .slice b4 n2 d4]) (w' := W) ?_ (hI.same hloc hL _ _ (Cell.grown_refl _) (Draws.upd_at _ _ _)))
          simp only [execOp]
          go_simp
        · obtain rfl := Option.some.inj ho
          have l17 := hd 17 (by simp [State.Cons6Dep])
          have e17 := (hI.at_ 17 35 rfl l17).get
          have l16 := hd 16 (by simp [State.Cons6Dep])
          have e16 := (hI.at_ 16 34 rfl l16).get
          rw [show val 17 = _ from hI.gd 17 l17] at e17
          rw [show val 16 = _ from hI.gd 16 l16] at e16
          have ag := hI.at_ 16 34 rfl l16
          rw [show val 16 = _ from hI.gd 16 l16] at ag
          refine Draws.wpOp_want (by rfl) (Draws.want_at 16 34 rfl rfl ag) ?_
          unfold Oper.wp
          simp only [execOp]
          go_simp
          refine Calls.mono (P := Try.prog) (HTTX.out W (State.OwnS.reads (hI.hd.nth 3 rfl))) ?_
          rintro e w1 ⟨rfl, hg⟩
          exact hI.same hloc hL _ (.int .i64 T) hg (Draws.upd_at _ _ _)
        · obtain rfl := Option.some.inj ho
          have l16 := hd 16 (by simp [State.Cons6Dep])
          have e16 := (hI.at_ 16 34 rfl l16).get
          rw [show val 16 = _ from hI.gd 16 l16] at e16
          have ag := hI.at_ 16 34 rfl l16
          rw [show val 16 = _ from hI.gd 16 l16] at ag
          have p3 := (hI.old 3 (by kernel_rfl) rfl).get
          refine Draws.wpOp_want (by rfl) (Draws.want_at 16 34 rfl rfl ag) (State.wp_value (v := .agg #[.int .i64 R, .slice (some ⟨g1, 0, none⟩) n1 c1, .slice (some ⟨g2, 0, none⟩) n1 c2, .slice (some ⟨g3, 0, none⟩) n1 c3, .slice (some ⟨g4, 0, none⟩) n2 c4]) (w' := W) ?_ (hI.same hloc hL _ _ (Cell.grown_refl _) (Draws.upd_at _ _ _)))
          simp only [execOp]
          go_simp
        · obtain rfl := Option.some.inj ho
          have l19 := hd 19 (by simp [State.Cons6Dep])
          have e19 := (hI.at_ 19 37 rfl l19).get
          have l16 := hd 16 (by simp [State.Cons6Dep])
          have e16 := (hI.at_ 16 34 rfl l16).get
          rw [show val 19 = _ from hI.gd 19 l19] at e19
          rw [show val 16 = _ from hI.gd 16 l16] at e16
          have ag := hI.at_ 16 34 rfl l16
          rw [show val 16 = _ from hI.gd 16 l16] at ag
          refine Draws.wpOp_want (by rfl) (Draws.want_at 16 34 rfl rfl ag) ?_
          unfold Oper.wp
          simp only [execOp]
          go_simp
          refine Calls.mono (P := Try.prog) (HTT.out W (State.OwnS.reads (hI.hd.nth 0 rfl))) ?_
          rintro e w1 ⟨rfl, hg⟩
          exact hI.same hloc hL _ (.int .i64 T) hg (Draws.upd_at _ _ _)
        · obtain rfl := Option.some.inj ho
          have l18 := hd 18 (by simp [State.Cons6Dep])
          have e18 := (hI.at_ 18 36 rfl l18).get
          have l20 := hd 20 (by simp [State.Cons6Dep])
          have e20 := (hI.at_ 20 38 rfl l20).get
          have l16 := hd 16 (by simp [State.Cons6Dep])
          have e16 := (hI.at_ 16 34 rfl l16).get
          rw [show val 18 = _ from hI.gd 18 l18] at e18
          rw [show val 20 = _ from hI.gd 20 l20] at e20
          rw [show val 16 = _ from hI.gd 16 l16] at e16
          have ag := hI.at_ 16 34 rfl l16
          rw [show val 16 = _ from hI.gd 16 l16] at ag
          refine Draws.wpOp_want (by rfl) (Draws.want_at 16 34 rfl rfl ag) (State.wp_value (v := .bool true) (w' := W) ?_ (hI.same hloc hL _ _ (Cell.grown_refl _) (Draws.upd_at _ _ _)))
          simp only [execOp]
          go_simp
        · obtain rfl := Option.some.inj ho
          have l16 := hd 16 (by simp [State.Cons6Dep])
          have e16 := (hI.at_ 16 34 rfl l16).get
          have l21 := hd 21 (by simp [State.Cons6Dep])
          have e21 := (hI.at_ 21 39 rfl l21).get
          rw [show val 16 = _ from hI.gd 16 l16] at e16
          rw [show val 21 = _ from hI.gd 21 l21] at e21
          refine Draws.wpOp_of (by rfl) rfl (State.wp_value (v := .bool true) (w' := W) ?_ (hI.same hloc hL _ _ (Cell.grown_refl _) (Draws.upd_at _ _ _)))
          simp only [execOp]
          go_simp
        · obtain rfl := Option.some.inj ho
          have l22 := hd 22 (by simp [State.Cons6Dep])
          have e22 := (hI.at_ 22 40 rfl l22).get
          rw [show val 22 = _ from hI.gd 22 l22] at e22
          refine Draws.wpOp_of (by rfl) rfl (State.wp_value (v := .bool true) (w' := W) ?_ (hI.same hloc hL _ _ (Cell.grown_refl _) (Draws.upd_at _ _ _)))
          simp only [execOp]
          go_simp
        · obtain rfl := Option.some.inj ho
          have l23 := hd 23 (by simp [State.Cons6Dep])
          have e23 := (hI.at_ 23 41 rfl l23).get
          rw [show val 23 = _ from hI.gd 23 l23] at e23
          have ag := hI.at_ 23 41 rfl l23
          rw [show val 23 = _ from hI.gd 23 l23] at ag
          have p5 := (hI.old 5 (by kernel_rfl) rfl).get
          refine Draws.wpOp_want (by rfl) (Draws.want_at 23 41 rfl rfl ag) (State.wp_value (v := .pointer (some ⟨B6, 4, none⟩)) (w' := W) ?_ (hI.same hloc hL _ _ (Cell.grown_refl _) (Draws.upd_at _ _ _)))
          simp only [execOp]
          go_simp
        · obtain rfl := Option.some.inj ho
          have l24 := hd 24 (by simp [State.Cons6Dep])
          have e24 := (hI.at_ 24 42 rfl l24).get
          have l23 := hd 23 (by simp [State.Cons6Dep])
          have e23 := (hI.at_ 23 41 rfl l23).get
          rw [show val 24 = _ from hI.gd 24 l24] at e24
          rw [show val 23 = _ from hI.gd 23 l23] at e23
          have ag := hI.at_ 23 41 rfl l23
          rw [show val 23 = _ from hI.gd 23 l23] at ag
          refine Draws.wpOp_want (by rfl) (Draws.want_at 23 41 rfl rfl ag) (State.wp_value (v := .slice b4 n2 d4) (w' := W) ?_ (hI.same hloc hL _ _ (Cell.grown_refl _) (Draws.upd_at _ _ _)))
          simp only [execOp]
          go_simp
        · obtain rfl := Option.some.inj ho
          have l23 := hd 23 (by simp [State.Cons6Dep])
          have e23 := (hI.at_ 23 41 rfl l23).get
          rw [show val 23 = _ from hI.gd 23 l23] at e23
          have ag := hI.at_ 23 41 rfl l23
          rw [show val 23 = _ from hI.gd 23 l23] at ag
          have p3 := (hI.old 3 (by kernel_rfl) rfl).get
          refine Draws.wpOp_want (by rfl) (Draws.want_at 23 41 rfl rfl ag) (State.wp_value (v := .pointer (some ⟨B3, 4, none⟩)) (w' := W) ?_ (hI.same hloc hL _ _ (Cell.grown_refl _) (Draws.upd_at _ _ _)))
          simp only [execOp]
          go_simp
        · obtain rfl := Option.some.inj ho
          have l26 := hd 26 (by simp [State.Cons6Dep])
          have e26 := (hI.at_ 26 44 rfl l26).get
          have l23 := hd 23 (by simp [State.Cons6Dep])
          have e23 := (hI.at_ 23 41 rfl l23).get
          rw [show val 26 = _ from hI.gd 26 l26] at e26
          rw [show val 23 = _ from hI.gd 23 l23] at e23
          have ag := hI.at_ 23 41 rfl l23
          rw [show val 23 = _ from hI.gd 23 l23] at ag
          refine Draws.wpOp_want (by rfl) (Draws.want_at 23 41 rfl rfl ag) (State.wp_value (v := .slice (some ⟨g4, 0, none⟩) n2 c4) (w' := W) ?_ (hI.same hloc hL _ _ (Cell.grown_refl _) (Draws.upd_at _ _ _)))
          simp only [execOp]
          go_simp
        · obtain rfl := Option.some.inj ho
          have l25 := hd 25 (by simp [State.Cons6Dep])
          have e25 := (hI.at_ 25 43 rfl l25).get
          have l27 := hd 27 (by simp [State.Cons6Dep])
          have e27 := (hI.at_ 27 45 rfl l27).get
          have l23 := hd 23 (by simp [State.Cons6Dep])
          have e23 := (hI.at_ 23 41 rfl l23).get
          rw [show val 25 = _ from hI.gd 25 l25] at e25
          rw [show val 27 = _ from hI.gd 27 l27] at e27
          rw [show val 23 = _ from hI.gd 23 l23] at e23
          have ag := hI.at_ 23 41 rfl l23
          rw [show val 23 = _ from hI.gd 23 l23] at ag
          refine Draws.wpOp_want (by rfl) (Draws.want_at 23 41 rfl rfl ag) ?_
          unfold Oper.wp
          simp only [execOp]
          go_simp
          refine Calls.mono (P := Try.prog) (HSI.out W (State.OwnS.reads (hI.hd.nth 3 rfl)) (State.OwnS.reads (hI.hd.nth 0 rfl))) ?_
          rintro e w1 ⟨rfl, hg⟩
          exact hI.same hloc hL _ (.bool true) hg (Draws.upd_at _ _ _)
        · obtain rfl := Option.some.inj ho
          have l23 := hd 23 (by simp [State.Cons6Dep])
          have e23 := (hI.at_ 23 41 rfl l23).get
          have l28 := hd 28 (by simp [State.Cons6Dep])
          have e28 := (hI.at_ 28 46 rfl l28).get
          rw [show val 23 = _ from hI.gd 23 l23] at e23
          rw [show val 28 = _ from hI.gd 28 l28] at e28
          refine Draws.wpOp_of (by rfl) rfl (State.wp_value (v := .bool true) (w' := W) ?_ (hI.same hloc hL _ _ (Cell.grown_refl _) (Draws.upd_at _ _ _)))
          simp only [execOp]
          go_simp
        · obtain rfl := Option.some.inj ho
          have l29 := hd 29 (by simp [State.Cons6Dep])
          have e29 := (hI.at_ 29 47 rfl l29).get
          rw [show val 29 = _ from hI.gd 29 l29] at e29
          refine Draws.wpOp_of (by rfl) rfl (State.wp_value (v := .bool true) (w' := W) ?_ (hI.same hloc hL _ _ (Cell.grown_refl _) (Draws.upd_at _ _ _)))
          simp only [execOp]
          go_simp
      case last =>
        intro L a W val G hI hall
        have vz : val 30 = .bool true := hI.gd 30 (hall 30 (by simp))
        have HG := Lib.hid hI.hd.gr
        have ha := hI.frame (by kernel_rfl) hall
        refine hK _ _ ?_
        clear hK hI hall HE3 HOKX HTM HTMX HTT HTTX HSM HSI
        simp [Draws.frameOf, Draws.slotOf, Act.put, List.range, List.range.loop] at ha
        subst ha
        rw [vz]
        clear vz
        go_wp2_with fail
        go_ret
        exact ⟨rfl, Cell.grown_below HG.out (Nat.le_refl _)⟩

set_option maxRecDepth 100000 in
theorem lifted (os : Os) (started : os.Started) (H : Type) (enc : TypeId × Value → H) :
    ReturnsInHanded {} Try.checked os 3 .any (Rows.fnConservedSpec.pre6 enc Try.prog Try.f3 Rows.fnConservedRow.domain false) (Rows.fnConservedSpec.post enc Try.prog Try.f3 false true false false) := by
  refine returnsInHanded_of_change (C := Try.checked) own started (by kernel_rfl) Try.func3
    (ChangeSpec.witness6 (enc := enc) (C := Try.checked) false ⟨#[], #[.slice none 0 0], []⟩ 8 (by kernel_rfl) (by kernel_rfl) (by kernel_rfl) (by kernel_rfl)) ?_
  intro W base args ds gs before hval0 hW hcnd _
  have hval : ∀ (j : Nat) t v, Try.f3.params[j]? = some t → args[j]? = some v → Value.okWide Try.prog W .any base t v := hval0
  have hW' := hW
  obtain ⟨p, q, hA0, hV, rfl, hfz, hnd⟩ := hW
  have hA : DataW.TrodAll enc Try.prog W 0 (fun _ => true) true Try.f3.params.toList args.toList ds p := hA0
  rw [Try.params3] at hA hval
  obtain ⟨v0, vs0, d0, ds0, p0, q0, hargs, rfl, rfl, h0, r0⟩ := trodAll_cons hA
  obtain ⟨rfl, rfl, rfl⟩ := trodAll_nil r0
  obtain rfl : args = #[v0] := by cases args; simp_all
  obtain ⟨rfl, rfl⟩ := trodVars_none hV
  obtain ⟨a0, len0, cap0, rfl⟩ := okWide_slice Try.underlying22 (hval 0 22 v0 rfl rfl)
  have k0 := h0
  have lt0 : ∀ x ∈ p0, x.block < W.heap.size := by obtain ⟨m, hm⟩ := k0; exact DataW.trod_lt m _ _ _ hm
  obtain ⟨z0, w0⟩ : ∃ zs, IsRow .u8 W a0 len0 cap0 zs := by
    obtain ⟨fuel, hf⟩ := h0
    rcases open_ints Try.underlying22 Try.underlying5 (by kernel_rfl) hf with ⟨hcs, _⟩ | ⟨x, l, c, zs, hcs, _, hl, hm, hz, _, hcell, hwz⟩
    · simp [Value.cells] at hcs
      obtain ⟨rfl, rfl, rfl⟩ := hcs
      exact ⟨[], .inl ⟨rfl, rfl, rfl, rfl⟩⟩
    · simp [Value.cells] at hcs
      obtain ⟨rfl, rfl, rfl⟩ := hcs
      exact ⟨zs, .inr ⟨_, rfl, hl, hm, by simpa using hz, hcell, hwz⟩⟩
  clear hA0 hval0
  refine (walk a0 len0 cap0 z0 W w0).mono fun e W' ⟨he, bel⟩ => ?_
  subst he
  exact ⟨_, rfl, _, _, _, [], _, [], hW', trodAll_mk1 (shut_bool Try.underlying4 _), (trodAll_cons_mk (Below.trod laidOut (by kernel_rfl) (of_decide_eq_true (by kernel_rfl)) k0 bel lt0) trodAll_mk0), rfl, bel.frame _, fun h => by cases h⟩

theorem over : Rows.fnConservedRow.holds Try.pinned (OpenSpec.ofChange Rows.fnConservedSpec) :=
  OpenClaim.holds_of_wide 3 Try.f3 rfl rfl rfl rfl rfl rfl rfl ⟨rfl, rfl, rfl, rfl, rfl⟩ rfl rfl rfl rfl rfl (by kernel_rfl) Try.func3 (by kernel_rfl)
    (of_decide_eq_true (by kernel_rfl)) (by unfold Func.isWrapper; first | (rw [if_pos (by decide +kernel)]; kernel_rfl) | (rw [if_neg (by decide +kernel)]; exact ⟨rfl, rfl⟩))
    (fun os started H enc _ => lifted os started H enc)

theorem proved : Rows.FnConservedSaid := over
#print axioms proved
end Go.Proofs.Ytnaofcbbdlhjpaa.fnConserved
