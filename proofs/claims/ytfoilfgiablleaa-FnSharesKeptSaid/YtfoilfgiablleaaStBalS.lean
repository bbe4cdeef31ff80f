/- States: l08Level and BalanceRefine of the reference model, as contracts: the refined and balanced state or the state itself, in memory of its own (l08Level: or the very memory that it was handed); nothing that was there is written (written by wip/tools/stbal.py).
   Conditions: at most 2^20 leaves and numbers. -/
import Derived.Test.YtfoilfgiablleaaStRefS
import Derived.Test.YtfoilfgiablleaaPkBal
import Derived.Deep.LoopGhost
import Derived.WalkMore
set_option maxRecDepth 100000
namespace Go.Proofs.Ytfoilfgiablleaa.State
open Go.ChangeShapes Go.WideShapes Go.ChangeAt Go.RowKit Go.Joins Go.Proofs.Ytfoilfgiablleaa.Cell Go.Proofs.Ytfoilfgiablleaa.Mesh Go.Proofs.Ytfoilfgiablleaa.Law Go.Proofs.Ytfoilfgiablleaa.Ints Go.Proofs.Ytfoilfgiablleaa.Draws Go.Deep
set_option linter.unusedVariables false

/-- What l08Level leaves: a state of the call's own, or the very one that it was handed. -/
def LevelPost (R : Int) (g1 g2 g3 g4 n n4 c1 c2 c3 c4 : Nat) (xs : List C3) (ms ts bs : List Int) (res : Tr) (w : World) (e : Ending) (w' : World) : Prop :=
  ∃ (ys : List C3) (mr tr : List Int) (m a1 a2 a3 a4 e1 e2 e3 e4 : Nat), res = (ys, mr, tr) ∧ e = .returned (.agg #[.int .i64 R, .slice (some ⟨a1, 0, none⟩) m e1, .slice (some ⟨a2, 0, none⟩) m e2, .slice (some ⟨a3, 0, none⟩) m e3, .slice (some ⟨a4, 0, none⟩) n4 e4]) ∧ w.grownBy w' none ∧ ys.length = m ∧ PreS R ys mr tr bs
    ∧ (OwnS w' w.heap.size (.slice (some ⟨a1, 0, none⟩) m e1) (.slice (some ⟨a2, 0, none⟩) m e2) (.slice (some ⟨a3, 0, none⟩) m e3) (.slice (some ⟨a4, 0, none⟩) n4 e4) m m m n4 ys mr tr bs ∨ (ys = xs ∧ mr = ms ∧ tr = ts ∧ m = n ∧ a1 = g1 ∧ a2 = g2 ∧ a3 = g3 ∧ a4 = g4 ∧ e1 = c1 ∧ e2 = c2 ∧ e3 = c3 ∧ e4 = c4))

set_option maxHeartbeats 16000000 in
theorem specLevel_is (R : Int) (g1 g2 g3 g4 n n4 c1 c2 c3 c4 : Nat) (xs : List C3) (ms ts bs : List Int) (w : World) (h : RoomS w (some ⟨g1, 0, none⟩) (some ⟨g2, 0, none⟩) (some ⟨g3, 0, none⟩) (some ⟨g4, 0, none⟩) n n n n4 c1 c2 c3 c4 xs ms ts bs) (hp : PreS R xs ms ts bs) (hn4 : 1 ≤ n4) :
    Calls Try.prog 66 #[.agg #[.int .i64 R, .slice (some ⟨g1, 0, none⟩) n c1, .slice (some ⟨g2, 0, none⟩) n c2, .slice (some ⟨g3, 0, none⟩) n c3, .slice (some ⟨g4, 0, none⟩) n4 c4]] w (LevelPost R g1 g2 g3 g4 n n4 c1 c2 c3 c4 xs ms ts bs (balS 128 (xs, ms, ts)) w) := by
  have L1 := h.r.l.len
  obtain ⟨res, hres⟩ : ∃ q, q = balS 128 (xs, ms, ts) := ⟨_, rfl⟩
  rw [← hres]
  have HRES := Lib.hid hres; have HQ := Lib.hid hp; have HL1 := Lib.hid L1; have HN4 := Lib.hid hn4; have HRM := Lib.hid h
  have HFU := Lib.hid (show ∀ (u : World) (ys : List C3) (a1 : Option Addr) (m d1 : Nat), Reads u a1 m ys → meshOk R ys = true → Calls Try.prog 74 #[.agg #[.int .i64 R, .slice a1 m d1]] u fun e w' => e = .returned (.int .i64 (firstGap ys)) ∧ u.grownBy w' none from fun u ys a1 m d1 hu hmo => specFirst_is R a1 m d1 ys u hu (by have := (mesh_parts hmo).2.2; have := hu.len; omega) hmo)
  have he := ((Held.nil w).box 29 #[.int .i64 R, .slice (some ⟨g1, 0, none⟩) n c1, .slice (some ⟨g2, 0, none⟩) n c2, .slice (some ⟨g3, 0, none⟩) n c3, .slice (some ⟨g4, 0, none⟩) n4 c4]).box 29 #[.int .i64 0, .slice none 0 0, .slice none 0 0, .slice none 0 0, .slice none 0 0]
  simp only [World.size_alloc] at he
  have HE := Lib.hid he; clear he
  clear h hp hn4 L1 hres
  go_enter Try.func66, Try.ntmps66
  go_upto_region 1 with fail
  generalize (w.alloc (.cells #[.int .i64 R, .slice (some ⟨g1, 0, none⟩) n c1, .slice (some ⟨g2, 0, none⟩) n c2, .slice (some ⟨g3, 0, none⟩) n c3, .slice (some ⟨g4, 0, none⟩) n4 c4] 29)).alloc (.cells #[.int .i64 0, .slice none 0 0, .slice none 0 0, .slice none 0 0, .slice none 0 0] 29) = W0 at *
  obtain ⟨o0, o1, o2, o3, o4⟩ := box5 (HE.out.nth 0 rfl)
  go_wp2_with (go_at_call 74; ((with_reducible refine (HFU.out _ xs _ _ _ (HRM.out.on HE.out.gr).r.l HQ.out.mesh).mono ?_); rintro e w4 ⟨rfl, hg⟩; have HE5 := Lib.hid (HE.out.on hg); clear hg))
  go_loopg [3] 128 (fun kf iv wr => ∃ (qv : Int) (ys : List C3) (mr tr : List Int) (m a1 a2 a3 a4 e1 e2 e3 e4 : Nat) (G : Grp), iv = .int .i64 qv ∧ Hid (qv = firstGap ys) ∧ Hid (ys.length = m) ∧ Hid (Held w wr [Law.boxG w.heap.size 29 #[.int .i64 R, .slice (some ⟨a1, 0, none⟩) m e1, .slice (some ⟨a2, 0, none⟩) m e2, .slice (some ⟨a3, 0, none⟩) m e3, .slice (some ⟨a4, 0, none⟩) n4 e4], Law.boxG (w.heap.size + 1) 29 #[.int .i64 0, .slice none 0 0, .slice none 0 0, .slice none 0 0, .slice none 0 0], G]) ∧ Hid (PreS R ys mr tr bs ∧ 128 ≤ kf + ys.length ∧ balS kf (ys, mr, tr) = res) ∧ Hid (RoomS wr (some ⟨a1, 0, none⟩) (some ⟨a2, 0, none⟩) (some ⟨a3, 0, none⟩) (some ⟨a4, 0, none⟩) m m m n4 e1 e2 e3 e4 ys mr tr bs ∧ (G = stateG (.slice (some ⟨a1, 0, none⟩) m e1) (.slice (some ⟨a2, 0, none⟩) m e2) (.slice (some ⟨a3, 0, none⟩) m e3) (.slice (some ⟨a4, 0, none⟩) n4 e4) m m m n4 ys mr tr bs ∨ (ys = xs ∧ mr = ms ∧ tr = ts ∧ m = n ∧ a1 = g1 ∧ a2 = g2 ∧ a3 = g3 ∧ a4 = g4 ∧ e1 = c1 ∧ e2 = c2 ∧ e3 = c3 ∧ e4 = c4))))
  case atStart => exact ⟨_, xs, ms, ts, n, g1, g2, g3, g4, c1, c2, c3, c4, emptyG, rfl, Lib.hid rfl, HL1, Lib.hid HE5.out.addE, Lib.hid ⟨HQ.out, by omega, HRES.out.symm⟩, Lib.hid ⟨HRM.out.on HE5.out.gr, .inr ⟨rfl, rfl, rfl, rfl, rfl, rfl, rfl, rfl, rfl, rfl, rfl, rfl⟩⟩⟩
  case round =>
    clear HE5 HE HQ HL1 HRES HRM o0 o1 o2 o3 o4
    obtain ⟨qv, ys, mr, tr, m, a1, a2, a3, a4, e1, e2, e3, e4, G, rfl, HI, HLM, HB, HP, HG⟩ := hrel
    obtain ⟨o0, o1, o2, o3, o4⟩ := box5 (HB.out.nth 0 rfl)
    obtain ⟨f0, f1, f2, f3, f4⟩ := free5 (HB.out.nth 0 rfl)
    rcases first_cases ys with ⟨eg, -⟩ | ⟨j, eg, hgp, -⟩
    · obtain rfl : qv = -1 := HI.out.trans eg
      obtain rfl : (ys, mr, tr) = res := by rw [← HP.out.2.2]; exact (balS_done (by dsimp only; omega) _).symm
      clear eg
      obtain ⟨r0, r1, r2, r3, r4⟩ := box5 (HB.out.nth 1 rfl)
      obtain ⟨u0, u1, u2, u3, u4⟩ := free5 (HB.out.nth 1 rfl)
      go_wp2_with fail
      have he := HB.out.put5 1 rfl (.int .i64 R) (.slice (some ⟨a1, 0, none⟩) m e1) (.slice (some ⟨a2, 0, none⟩) m e2) (.slice (some ⟨a3, 0, none⟩) m e3) (.slice (some ⟨a4, 0, none⟩) n4 e4)
      refine bodyPost_ret_by (results_cell_row (fn := Try.f66) rfl _ _ (w.heap.size + 1) _ _ (0, 0) _ rfl (he.nth 1 rfl) Try.underlying29 rfl (by kernel_rfl)) rfl ⟨ys, mr, tr, m, a1, a2, a3, a4, e1, e2, e3, e4, rfl, rfl, he.gr, HLM.out, HP.out.1, ?_⟩
      rcases HG.out.2 with hG | hG
      · left
        rw [hG] at he
        exact Held.stateOwn he 2 rfl
      · exact .inr hG
    · obtain rfl : qv = j := HI.out.trans eg
      obtain ⟨ho, hy1, hy2⟩ := mesh_parts HP.out.1.mesh
      obtain ⟨x, y, hx, hy, hgap⟩ := gapAt_in hgp
      obtain ⟨xq, hxq, hl3⟩ := coarser_ok hgp ho
      obtain ⟨f', hf', s1, s2, s3⟩ := bal_moreS (s := (ys, mr, tr)) HP.out.1 HP.out.2.1 (by dsimp only; omega)
      rw [stepS_at (s := (ys, mr, tr)) eg] at s1 s2 s3
      dsimp only at s1 s2 s3
      obtain ⟨cj, hcj⟩ : ∃ q, q = coarser ys j := ⟨_, rfl⟩
      rw [← hcj] at s1 s2 s3 hxq
      have HQ := Lib.hid (show PreS R (split2 ys cj) (splitM mr cj) (splitT mr tr cj) bs ∧ 128 ≤ f' + (split2 ys cj).length ∧ balS f' (split2 ys cj, splitM mr cj, splitT mr tr cj) = res from ⟨s1, by have := HP.out.2.1; omega, by have h1 := HP.out.2.2; rw [s3] at h1; exact h1⟩)
      have HL := Lib.hid (show (split2 ys cj).length = m + 1 by rw [s2, HLM.out])
      have HCO := Lib.hid (show ∀ u : World, Reads u (some ⟨a1, 0, none⟩) m ys → Calls Try.prog 108 #[.agg #[.int .i64 R, .slice (some ⟨a1, 0, none⟩) m e1], .int .i64 (j : Int)] u fun e w' => e = .returned (.int .i64 (cj : Int)) ∧ u.grownBy w' none from fun u hu => by
        rw [hcj]
        exact specCoarser_is R j (some ⟨a1, 0, none⟩) m e1 ys x y u hu (by have := hu.len; omega) hx hy)
      have HS2 := Lib.hid (fun u (hu : RoomS u (some ⟨a1, 0, none⟩) (some ⟨a2, 0, none⟩) (some ⟨a3, 0, none⟩) (some ⟨a4, 0, none⟩) m m m n4 e1 e2 e3 e4 ys mr tr bs) => specStSplit_is R a1 a2 a3 a4 m m m n4 e1 e2 e3 e4 cj ys mr tr bs xq u hu HP.out.1 hxq (by omega))
      have HF := Lib.hid hf'
      have hj0 : (0 : Int) ≤ (j : Int) := by omega
      have HRM := Lib.hid HG.out.1
      clear ho hy1 hy2 hx hy hgap hgp hxq hl3 hf' s1 s2 s3 hcj eg
      go_upto_region 4 with fail
      go_region_with (first
        | (go_at_call 108; ((with_reducible refine (HCO.out _ (HRM.out.on (gr_drew (grown_refl _))).r.l).mono ?_); rintro e w4 ⟨rfl, hg⟩; have hg4 := grown_trans (gr_drew (grown_refl wr)) hg; have hb4 := HB.out.on hg4; obtain ⟨o5, o6, o7, o8, o9⟩ := box5 (hb4.nth 0 rfl); have HR4 := Lib.hid (HRM.out.on hg4); have HB4 := Lib.hid hb4; clear hg hb4 hg4))
        | (go_at_call 67; ((with_reducible refine (HS2.out _ HR4.out).mono ?_); rintro e w5 ⟨q1, d1, q2, d2, q3, d3, q4, d4, rfl, ho, hg⟩; have hown := State.Held.state HB4.out hg ho; obtain ⟨v1, v2, v3, v4, rfl, rfl, rfl, rfl⟩ := State.OwnS.addr (hown.nth 3 rfl) (by omega) (by omega) (by omega) HN4.out; obtain ⟨t0, t1, t2, t3, t4⟩ := box5 (hown.nth 0 rfl); obtain ⟨x0, x1, x2, x3, x4⟩ := free5 (hown.nth 0 rfl); have hS := State.Held.pick (gs' := [Law.boxG w.heap.size 29 #[.int .i64 R, .slice (some ⟨v1, 0, none⟩) (m + 1) d1, .slice (some ⟨v2, 0, none⟩) (m + 1) d2, .slice (some ⟨v3, 0, none⟩) (m + 1) d3, .slice (some ⟨v4, 0, none⟩) n4 d4], Law.boxG (w.heap.size + 1) 29 #[.int .i64 0, .slice none 0 0, .slice none 0 0, .slice none 0 0, .slice none 0 0], stateG (.slice (some ⟨v1, 0, none⟩) (m + 1) d1) (.slice (some ⟨v2, 0, none⟩) (m + 1) d2) (.slice (some ⟨v3, 0, none⟩) (m + 1) d3) (.slice (some ⟨v4, 0, none⟩) n4 d4) (m + 1) (m + 1) (m + 1) n4 (split2 ys cj) (splitM mr cj) (splitT mr tr cj) bs]) (hown.put5 0 rfl (.int .i64 R) (.slice (some ⟨v1, 0, none⟩) (m + 1) d1) (.slice (some ⟨v2, 0, none⟩) (m + 1) d2) (.slice (some ⟨v3, 0, none⟩) (m + 1) d3) (.slice (some ⟨v4, 0, none⟩) n4 d4)) (by exact .cons_cons _ (.cons_cons _ (.cons _ (.cons_cons _ .slnil)))); obtain ⟨y5, y6, y7, y8, y9⟩ := box5 (hS.nth 0 rfl); have HS := Lib.hid hS; clear ho hg hown hS)))
      all_goals go_wp2_with (go_at_call 74; ((with_reducible refine (HFU.out _ (split2 ys cj) _ _ _ (OwnS.reads (HS.out.nth 2 rfl)).l HQ.out.1.mesh).mono ?_); rintro e w6 ⟨rfl, hg⟩; have HB6 := Lib.hid (HS.out.on hg); clear hg))
      all_goals go_roundg f'
      all_goals first
        | exact ⟨_, split2 ys cj, splitM mr cj, splitT mr tr cj, m + 1, v1, v2, v3, v4, d1, d2, d3, d4, _, rfl, Lib.hid rfl, HL, HB6, HQ, Lib.hid ⟨OwnS.room (HB6.out.nth 2 rfl), .inl rfl⟩⟩
        | (have := HF.out; omega)

theorem level_held {w w3 w5 : World} {b1 b2 : Grp} {g1 g2 g3 g4 n n4 c1 c2 c3 c4 m a1 a2 a3 a4 e1 e2 e3 e4 : Nat} {xs ys : List C3} {ms ts bs mr tr : List Int} (h : Held w w3 [b1, b2, stateG (.slice (some ⟨g1, 0, none⟩) n c1) (.slice (some ⟨g2, 0, none⟩) n c2) (.slice (some ⟨g3, 0, none⟩) n c3) (.slice (some ⟨g4, 0, none⟩) n4 c4) n n n n4 xs ms ts bs]) (hg : w3.grownBy w5 none)
    (hor : OwnS w5 w3.heap.size (.slice (some ⟨a1, 0, none⟩) m e1) (.slice (some ⟨a2, 0, none⟩) m e2) (.slice (some ⟨a3, 0, none⟩) m e3) (.slice (some ⟨a4, 0, none⟩) n4 e4) m m m n4 ys mr tr bs ∨ (ys = xs ∧ mr = ms ∧ tr = ts ∧ m = n ∧ a1 = g1 ∧ a2 = g2 ∧ a3 = g3 ∧ a4 = g4 ∧ e1 = c1 ∧ e2 = c2 ∧ e3 = c3 ∧ e4 = c4)) : Held w w5 [b1, b2, stateG (.slice (some ⟨a1, 0, none⟩) m e1) (.slice (some ⟨a2, 0, none⟩) m e2) (.slice (some ⟨a3, 0, none⟩) m e3) (.slice (some ⟨a4, 0, none⟩) n4 e4) m m m n4 ys mr tr bs] := by
  rcases hor with ho | ⟨rfl, rfl, rfl, rfl, rfl, rfl, rfl, rfl, rfl, rfl, rfl, rfl⟩
  · exact State.Held.pick (State.Held.state h hg ho) (by exact .cons_cons _ (.cons_cons _ (.cons _ (.cons_cons _ .slnil))))
  · exact h.on hg

set_option maxHeartbeats 16000000 in
theorem specBalRef_is (R : Int) (g1 g2 g3 g4 n1 n2 n3 n4 c1 c2 c3 c4 : Nat) (xs : List C3) (ms ts bs : List Int) (i : Int) (w : World) (h : RoomS w (some ⟨g1, 0, none⟩) (some ⟨g2, 0, none⟩) (some ⟨g3, 0, none⟩) (some ⟨g4, 0, none⟩) n1 n2 n3 n4 c1 c2 c3 c4 xs ms ts bs) (h1 : n1 ≤ 1048576) (h2 : n2 ≤ 1048576) (h3 : n3 ≤ 1048576) (h4 : n4 ≤ 1048576) :
    Calls Try.prog 26 #[.agg #[.int .i64 R, .slice (some ⟨g1, 0, none⟩) n1 c1, .slice (some ⟨g2, 0, none⟩) n2 c2, .slice (some ⟨g3, 0, none⟩) n3 c3, .slice (some ⟨g4, 0, none⟩) n4 c4], .int .i64 i] w (GivesSB (brB R xs ms ts bs i) R (brS R xs ms ts bs i).1.length (brS R xs ms ts bs i).2.1.length (brS R xs ms ts bs i).2.2.length n4 (brS R xs ms ts bs i).1 (brS R xs ms ts bs i).2.1 (brS R xs ms ts bs i).2.2 bs w) := by
  have hok : ∀ u, w.grownBy u none → Calls Try.prog 19 #[.agg #[.int .i64 R, .slice (some ⟨g1, 0, none⟩) n1 c1, .slice (some ⟨g2, 0, none⟩) n2 c2, .slice (some ⟨g3, 0, none⟩) n3 c3, .slice (some ⟨g4, 0, none⟩) n4 c4]] u fun e w' => e = .returned (.bool (stOk R xs ms ts bs)) ∧ u.grownBy w' none := fun u hu => specStateOk_is R _ _ _ _ n1 n2 n3 n4 c1 c2 c3 c4 xs ms ts bs u (h.r.on hu) h1 h2 h3 h4
  have HCP := Lib.hid (show ∀ u, w.grownBy u none → Calls Try.prog 65 #[.agg #[.int .i64 R, .slice (some ⟨g1, 0, none⟩) n1 c1, .slice (some ⟨g2, 0, none⟩) n2 c2, .slice (some ⟨g3, 0, none⟩) n3 c3, .slice (some ⟨g4, 0, none⟩) n4 c4]] u (GivesS R n1 n2 n3 n4 xs ms ts bs u) from fun u hu => specStCopy_is R _ _ _ _ n1 n2 n3 n4 c1 c2 c3 c4 xs ms ts bs u (h.r.on hu) h1 h2 h3 h4)
  have hmr : ∀ u, w.grownBy u none → Calls Try.prog 64 #[.agg #[.int .i64 R, .slice (some ⟨g1, 0, none⟩) n1 c1], .int .i64 i] u fun e w' => e = .returned (.bool (mayRef R xs i)) ∧ u.grownBy w' none := fun u hu => specMayRef_is R i _ n1 c1 xs u (h.r.l.on hu) h1
  have he := ((Held.nil w).box 29 #[.int .i64 R, .slice (some ⟨g1, 0, none⟩) n1 c1, .slice (some ⟨g2, 0, none⟩) n2 c2, .slice (some ⟨g3, 0, none⟩) n3 c3, .slice (some ⟨g4, 0, none⟩) n4 c4]).box 29 #[.int .i64 0, .slice none 0 0, .slice none 0 0, .slice none 0 0, .slice none 0 0]
  simp only [World.size_alloc] at he
  have HE := Lib.hid he; clear he
  have L1 := h.r.l.len; have L2 := h.r.m.len; have L3 := h.r.t.len; have L4 := h.r.b.len
  cases hs : stOk R xs ms ts bs with
  | false =>
    have hp : brB R xs ms ts bs i = false := by simp [brB, hs]
    have e1 := br_no hp
    rw [hp, e1]
    dsimp only
    rw [L1, L2, L3]
    rw [hs] at hok
    have HOK := Lib.hid hok
    clear hok hmr h h1 h2 h3 h4 L1 L2 L3 L4 hs hp e1
    go_enter Try.func26, Try.ntmps26
    go_upto_region 1 with fail
    generalize (w.alloc (.cells #[.int .i64 R, .slice (some ⟨g1, 0, none⟩) n1 c1, .slice (some ⟨g2, 0, none⟩) n2 c2, .slice (some ⟨g3, 0, none⟩) n3 c3, .slice (some ⟨g4, 0, none⟩) n4 c4] 29)).alloc (.cells #[.int .i64 0, .slice none 0 0, .slice none 0 0, .slice none 0 0, .slice none 0 0] 29) = W0 at *
    obtain ⟨p0, p1, p2, p3, p4⟩ := box5 (HE.out.nth 0 rfl)
    go_wp2_with (first | (go_at_call 19; ((with_reducible refine (HOK.out _ HE.out.gr).mono ?_); rintro e w1 ⟨rfl, hg⟩; have HE1 := Lib.hid (HE.out.on hg); obtain ⟨z0, z1, z2, z3, z4⟩ := box5 (HE1.out.nth 0 rfl); clear hg)) | (go_at_call 65; ((with_reducible refine (HCP.out _ HE1.out.gr).mono ?_); rintro e w3 ⟨q1, d1, q2, d2, q3, d3, q4, d4, rfl, ho, hg⟩; have HE2 := Lib.hid (State.Held.state HE1.out hg ho); obtain ⟨r0, r1, r2, r3, r4⟩ := box5 (HE2.out.nth 1 rfl); obtain ⟨f0, f1, f2, f3, f4⟩ := free5 (HE2.out.nth 1 rfl); clear ho hg)))
    have he := HE2.out.put5 1 rfl (.int .i64 R) (.slice q1 n1 d1) (.slice q2 n2 d2) (.slice q3 n3 d3) (.slice q4 n4 d4)
    exact bodyPost_ret_by (results_row_tmp rfl _ _ (w.heap.size + 1) _ _ (0, 0) _ rfl (he.nth 1 rfl) Try.underlying29 rfl (by kernel_rfl)) rfl ⟨q1, d1, q2, d2, q3, d3, q4, d4, rfl, Held.stateOwn he 2 rfl, he.gr⟩
  | true =>
    rw [hs] at hok
    have HOK := Lib.hid hok
    cases hm : mayRef R xs i with
    | false =>
      have hp : brB R xs ms ts bs i = false := by simp [brB, hm]
      have e1 := br_no hp
      rw [hp, e1]
      dsimp only
      rw [L1, L2, L3]
      rw [hm] at hmr
      have HMR := Lib.hid hmr
      clear hok hmr h h1 h2 h3 h4 L1 L2 L3 L4 hs hm hp e1
      go_enter Try.func26, Try.ntmps26
      go_upto_region 1 with fail
      generalize (w.alloc (.cells #[.int .i64 R, .slice (some ⟨g1, 0, none⟩) n1 c1, .slice (some ⟨g2, 0, none⟩) n2 c2, .slice (some ⟨g3, 0, none⟩) n3 c3, .slice (some ⟨g4, 0, none⟩) n4 c4] 29)).alloc (.cells #[.int .i64 0, .slice none 0 0, .slice none 0 0, .slice none 0 0, .slice none 0 0] 29) = W0 at *
      obtain ⟨p0, p1, p2, p3, p4⟩ := box5 (HE.out.nth 0 rfl)
      go_wp2_with (first | (go_at_call 19; ((with_reducible refine (HOK.out _ HE.out.gr).mono ?_); rintro e w1 ⟨rfl, hg⟩; have HE1 := Lib.hid (HE.out.on hg); obtain ⟨z0, z1, z2, z3, z4⟩ := box5 (HE1.out.nth 0 rfl); clear hg)) | (go_at_call 64; ((with_reducible refine (HMR.out _ HE1.out.gr).mono ?_); rintro e w2 ⟨rfl, hg⟩; have HE2 := Lib.hid (HE1.out.on hg); obtain ⟨y0, y1, y2, y3, y4⟩ := box5 (HE2.out.nth 0 rfl); clear hg)) | (go_at_call 65; ((with_reducible refine (HCP.out _ HE2.out.gr).mono ?_); rintro e w3 ⟨q1, d1, q2, d2, q3, d3, q4, d4, rfl, ho, hg⟩; have HE3 := Lib.hid (State.Held.state HE2.out hg ho); obtain ⟨r0, r1, r2, r3, r4⟩ := box5 (HE3.out.nth 1 rfl); obtain ⟨f0, f1, f2, f3, f4⟩ := free5 (HE3.out.nth 1 rfl); clear ho hg)))
      have he := HE3.out.put5 1 rfl (.int .i64 R) (.slice q1 n1 d1) (.slice q2 n2 d2) (.slice q3 n3 d3) (.slice q4 n4 d4)
      exact bodyPost_ret_by (results_row_tmp rfl _ _ (w.heap.size + 1) _ _ (0, 0) _ rfl (he.nth 1 rfl) Try.underlying29 rfl (by kernel_rfl)) rfl ⟨q1, d1, q2, d2, q3, d3, q4, d4, rfl, Held.stateOwn he 2 rfl, he.gr⟩
    | true =>
      rw [hm] at hmr
      have HMR := Lib.hid hmr
      have hp : brB R xs ms ts bs i = true := by simp [brB, hs, hm]
      obtain ⟨hpre, -, k, x, rfl, hx, -, hl, hq, e1⟩ := brB_parts hp
      obtain rfl : n1 = n2 := by have := hpre.lm; omega
      obtain rfl : n1 = n3 := by have := hpre.lt; omega
      obtain ⟨-, m1, m2⟩ := mesh_parts hq.mesh
      obtain ⟨r1, r2, -⟩ : 1 ≤ R ∧ R ≤ 8 ∧ run xs = some (R * 16) := of_decide_eq_true hpre.mesh
      have l1 : (split2 xs k).length = n1 + 1 := by rw [split2_len hx, L1]
      have hn4 : 1 ≤ n4 := by have := hpre.lb; omega
      have HSP := Lib.hid (fun u hu => specStSplit_is R g1 g2 g3 g4 n1 n1 n1 n4 c1 c2 c3 c4 k xs ms ts bs x u (h.on hu) hpre hx hl)
      rw [hp, e1]
      obtain ⟨res, hres⟩ : ∃ q, q = balS 128 (split2 xs k, splitM ms k, splitT ms ts k) := ⟨_, rfl⟩
      rw [← hres]
      have HQ := Lib.hid hq; have HN4 := Lib.hid hn4
      have HLV := Lib.hid (fun (u : World) (v1 v2 v3 v4 d1 d2 d3 d4 : Nat) (hu : RoomS u (some ⟨v1, 0, none⟩) (some ⟨v2, 0, none⟩) (some ⟨v3, 0, none⟩) (some ⟨v4, 0, none⟩) (n1 + 1) (n1 + 1) (n1 + 1) n4 d1 d2 d3 d4 (split2 xs k) (splitM ms k) (splitT ms ts k) bs) => by
        have h1 := specLevel_is R v1 v2 v3 v4 (n1 + 1) n4 d1 d2 d3 d4 (split2 xs k) (splitM ms k) (splitT ms ts k) bs u hu hq hn4
        rw [← hres] at h1
        exact h1)
      clear hok hmr h h1 h2 h3 h4 L1 L2 L3 L4 hs hm hp e1 hpre hx hl hq m1 m2 r1 r2 l1 hres hn4
      go_enter Try.func26, Try.ntmps26
      go_upto_region 1 with fail
      generalize (w.alloc (.cells #[.int .i64 R, .slice (some ⟨g1, 0, none⟩) n1 c1, .slice (some ⟨g2, 0, none⟩) n1 c2, .slice (some ⟨g3, 0, none⟩) n1 c3, .slice (some ⟨g4, 0, none⟩) n4 c4] 29)).alloc (.cells #[.int .i64 0, .slice none 0 0, .slice none 0 0, .slice none 0 0, .slice none 0 0] 29) = W0 at *
      obtain ⟨p0, p1, p2, p3, p4⟩ := box5 (HE.out.nth 0 rfl)
      go_wp2_with (first
        | (go_at_call 19; ((with_reducible refine (HOK.out _ HE.out.gr).mono ?_); rintro e w1 ⟨rfl, hg⟩; have HE1 := Lib.hid (HE.out.on hg); obtain ⟨z0, z1, z2, z3, z4⟩ := box5 (HE1.out.nth 0 rfl); clear hg))
        | (go_at_call 64; ((with_reducible refine (HMR.out _ HE1.out.gr).mono ?_); rintro e w2 ⟨rfl, hg⟩; have HE2 := Lib.hid (HE1.out.on hg); obtain ⟨y0, y1, y2, y3, y4⟩ := box5 (HE2.out.nth 0 rfl); clear hg))
        | (go_at_call 67; ((with_reducible refine (HSP.out _ HE2.out.gr).mono ?_); rintro e w3 ⟨q1, d1, q2, d2, q3, d3, q4, d4, rfl, ho, hg⟩; have hown := State.Held.state HE2.out hg ho; obtain ⟨v1, v2, v3, v4, rfl, rfl, rfl, rfl⟩ := State.OwnS.addr (hown.nth 2 rfl) (by omega) (by omega) (by omega) HN4.out; have HE3 := Lib.hid hown; clear ho hg hown))
        | (go_at_call 66; ((with_reducible refine (HLV.out _ _ _ _ _ _ _ _ _ (OwnS.room (HE3.out.nth 2 rfl))).mono ?_); rintro e w5 ⟨ys, mr, tr, m, a1, a2, a3, a4, e1, e2, e3, e4, rfl, rfl, hg, hym, hpr, hor⟩; have HE5 := Lib.hid (State.level_held HE3.out hg hor); obtain ⟨t0, t1, t2, t3, t4⟩ := box5 (HE5.out.nth 1 rfl); obtain ⟨x0, x1, x2, x3, x4⟩ := free5 (HE5.out.nth 1 rfl); have HYM := Lib.hid hym; have HPR := Lib.hid hpr; clear hg hor hym hpr)))
      have he := HE5.out.put5 1 rfl (.int .i64 R) (.slice (some ⟨a1, 0, none⟩) m e1) (.slice (some ⟨a2, 0, none⟩) m e2) (.slice (some ⟨a3, 0, none⟩) m e3) (.slice (some ⟨a4, 0, none⟩) n4 e4)
      refine bodyPost_ret_by (results_row_tmp rfl _ _ (w.heap.size + 1) _ _ (0, 0) _ rfl (he.nth 1 rfl) Try.underlying29 rfl (by kernel_rfl)) rfl ?_
      show GivesSB true R ys.length mr.length tr.length n4 ys mr tr bs w _ _
      rw [HPR.out.lm, HPR.out.lt, HYM.out]
      exact ⟨some ⟨a1, 0, none⟩, e1, some ⟨a2, 0, none⟩, e2, some ⟨a3, 0, none⟩, e3, some ⟨a4, 0, none⟩, e4, rfl, Held.stateOwn he 2 rfl, he.gr⟩
end Go.Proofs.Ytfoilfgiablleaa.State
