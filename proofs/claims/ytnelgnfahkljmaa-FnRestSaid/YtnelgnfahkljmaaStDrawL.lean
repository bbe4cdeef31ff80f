/- States: the reference model's DrawState and DrawLake, as contracts: a valid state; a balanced mesh, its beds and a surface; in memory of the call's own.
   Conditions: at most 2^20 bytes; none of them lies in the call's own memory. -/
import Derived.Test.YtnelgnfahkljmaaStDraw
import Derived.Test.YtnelgnfahkljmaaStPutI
import Derived.Deep.RegionWith
set_option maxRecDepth 100000
namespace Go.Proofs.Ytnelgnfahkljmaa.State
open Go.ChangeShapes Go.WideShapes Go.ChangeAt Go.RowKit Go.Joins Go.Proofs.Ytnelgnfahkljmaa.Cell Go.Proofs.Ytnelgnfahkljmaa.Mesh Go.Proofs.Ytnelgnfahkljmaa.Law Go.Proofs.Ytnelgnfahkljmaa.Ints Go.Deep

theorem results_row_tmps {P : Program} {fn : Func} {p u v : Tmp} {ty : TypeId} (h : fn.results = #[.cell p ty, .tmp u, .tmp v]) (tmps : Array Value) (w : World) (g : Nat) (t : TypeId) (cs : Array Value) (fr : Nat × Nat) (d : TypeDesc)
    (hp : tmps.getD p undef = .pointer (some ⟨g, 0, none⟩)) (hg : w.heap[g]? = some (.cells cs t fr))
    (hu : P.underlying ty = some d) (hd : (match d with | .struct _ | .array _ _ => true | _ => false) = true) (hi : (P.info? ty).map (·.size) = some cs.size) :
    (results fn tmps).run P w = .ok (.tuple #[.agg cs, tmps.getD u undef, tmps.getD v undef]) w := by
  have hp' : tmps[p]?.getD undef = .pointer (some ⟨g, 0, none⟩) := by simpa using hp
  simp [results, h, hp', asAddr, run_loadVar_row w g t ty cs fr d hg hu hd hi]
/-- A cursor that l01New has made, as a group. -/
theorem Held.newCur {w W W' : World} {gs : List Grp} {B : Nat} {a : Option Addr} {len cap : Nat} (h : Held w W gs) (hg : W.grownBy W' none) (hC : Draw.Cur B W' W.heap.size a len cap) (hl : W.heap.size < W'.heap.size) : Held w W' (gs ++ [curG W.heap.size a len cap]) :=
  h.add hg hC.blk (fun b hb => by rw [List.mem_singleton.1 hb]; exact ⟨Nat.le_refl _, hl⟩)
theorem grown_past {a b c : World} {N : Nat} (h : a.grownBy b none) (k : b.grownBy c (some N)) (hN : a.heap.size ≤ N) : a.grownBy c none :=
  ⟨k.os.trans h.os, k.tape.trans h.tape, k.output.trans h.output, Nat.le_trans h.size k.size, fun i hi _ => (k.block i (Nat.lt_of_lt_of_le hi h.size) (fun e => by cases e; omega)).trans (h.block i hi (by simp))⟩

/-- What DrawState leaves. -/
def StNew (w : World) (e : Ending) (w' : World) : Prop :=
  ∃ (R : Int) (n1 n2 : Nat) (xs : List C3) (ms ts bs : List Int) (x1 : Option Addr) (c1 : Nat) (x2 : Option Addr) (c2 : Nat) (x3 : Option Addr) (c3 : Nat) (x4 : Option Addr) (c4 : Nat),
    e = .returned (.agg #[.int .i64 R, .slice x1 n1 c1, .slice x2 n1 c2, .slice x3 n1 c3, .slice x4 n2 c4]) ∧ DrawnS R n1 n2 xs ms ts bs ∧ OwnS w' w.heap.size (.slice x1 n1 c1) (.slice x2 n1 c2) (.slice x3 n1 c3) (.slice x4 n2 c4) n1 n1 n1 n2 xs ms ts bs ∧ w.grownBy w' none

set_option maxHeartbeats 2000000 in
theorem drawState_is {B : Nat} {w : World} {a : Option Addr} {len cap : Nat} (hlen : len ≤ 1048576) (hy : Draw.Bytes B w a len) (hB : B ≤ w.heap.size) :
    Calls Try.prog 16 #[.slice a len cap] w (StNew w) := by
  have HY := Lib.hid hy; clear hy
  have HE := Lib.hid ((Held.nil w).box 31 #[.int .i64 0, .slice none 0 0, .slice none 0 0, .slice none 0 0, .slice none 0 0])
  go_enter Try.func16, Try.ntmps16
  go_upto_region 1 with fail
  have HS0 := Lib.hid (show (w.alloc (.cells #[.int .i64 0, .slice none 0 0, .slice none 0 0, .slice none 0 0, .slice none 0 0] 31)).heap.size = w.heap.size + 1 by simp)
  have HY0 := Lib.hid (HY.out.kept fun k hk => Below.heap_alloc w (.cells #[.int .i64 0, .slice none 0 0, .slice none 0 0, .slice none 0 0, .slice none 0 0] 31) k (Nat.lt_of_lt_of_le hk hB))
  generalize w.alloc (.cells #[.int .i64 0, .slice none 0 0, .slice none 0 0, .slice none 0 0, .slice none 0 0] 31) = W0 at *
  go_wp2_with fail
  refine (Draw.new_any hlen HY0.out (by have := HS0.out; omega)).mono ?_; rintro e w1 ⟨rfl, hC1, hg1, hlt1⟩
  have HG1 := Lib.hid hg1; have HC1 := Lib.hid hC1
  clear hg1 hC1 hlt1
  go_wp2_with fail
  refine (stDraw_is HC1.out).mono ?_
  rintro e w2 ⟨R, n1, n2, xs, ms, ts, bs, x1, c1, x2, c2, x3, c3, x4, c4, rfl, hd, ho, -, hg⟩
  have HE2 := Lib.hid (State.Held.state HE.out (grown_past HG1.out hg (Nat.le_refl _)) (OwnS.from ho HG1.out.size))
  have HD := Lib.hid hd
  clear ho hg hd
  obtain ⟨r0, r1, r2, r3, r4⟩ := box5 (HE2.out.nth 0 rfl)
  obtain ⟨f0, f1, f2, f3, f4⟩ := free5 (HE2.out.nth 0 rfl)
  go_wp2_with fail
  have he := HE2.out.put5 0 rfl (.int .i64 R) (.slice x1 n1 c1) (.slice x2 n1 c2) (.slice x3 n1 c3) (.slice x4 n2 c4)
  exact bodyPost_ret_by (results_cell_row (fn := Try.f16) rfl _ _ w.heap.size _ _ (0, 0) _ rfl (he.nth 0 rfl) Try.underlying31 rfl (by kernel_rfl)) rfl
    ⟨R, n1, n2, xs, ms, ts, bs, x1, c1, x2, c2, x3, c3, x4, c4, rfl, HD.out, Held.stateOwn he 1 rfl, he.gr⟩

/-- What DrawLake leaves. -/
def LakeNew (w : World) (e : Ending) (w' : World) : Prop :=
  ∃ (R : Int) (n1 n2 : Nat) (xs : List C3) (bs : List Int) (h : Int) (x1 : Option Addr) (c1 : Nat) (x4 : Option Addr) (c4 : Nat),
    e = .returned (.tuple #[.agg #[.int .i64 R, .slice x1 n1 c1], .slice x4 n2 c4, .int .i64 h]) ∧ meshOk R xs = true ∧ firstGap xs < 0 ∧ xs.length = n1 ∧ (n2 : Int) = R ∧ bs.length = n2 ∧ (∀ b ∈ bs, 0 ≤ b ∧ b ≤ 8999) ∧ 0 ≤ h ∧ h ≤ 11999
    ∧ w'.ownsRow w.heap.size 63 3 (.slice x1 n1 c1) n1 (flatC xs) ∧ w'.ownsRow w.heap.size 3 1 (.slice x4 n2 c4) n2 (vals bs) ∧ Apart (.slice x1 n1 c1) (.slice x4 n2 c4) ∧ w.grownBy w' none

set_option maxHeartbeats 8000000 in
theorem drawLake_is {B : Nat} {w : World} {a : Option Addr} {len cap : Nat} (hlen : len ≤ 1048576) (hy : Draw.Bytes B w a len) (hB : B ≤ w.heap.size) :
    Calls Try.prog 10 #[.slice a len cap] w (LakeNew w) := by
  have HY := Lib.hid hy; have HBW := Lib.hid hB; have HL := Lib.hid hlen
  obtain ⟨i0, hi0, hz0, hz1, hz2⟩ := info_parts infoInt
  have HE := Lib.hid ((Held.nil w).box 26 #[.int .i64 0, .slice none 0 0])
  go_enter Try.func10, Try.ntmps10
  go_upto_region 1 with fail
  have HS0 := Lib.hid (show (w.alloc (.cells #[.int .i64 0, .slice none 0 0] 26)).heap.size = w.heap.size + 1 by simp)
  have HY0 := Lib.hid (HY.out.kept fun k hk => Below.heap_alloc w (.cells #[.int .i64 0, .slice none 0 0] 26) k (Nat.lt_of_lt_of_le hk hB))
  clear hy hB hlen
  generalize w.alloc (.cells #[.int .i64 0, .slice none 0 0] 26) = W0 at *
  go_wp2_with fail
  refine (Draw.new_any HL.out HY0.out (by have := HS0.out; have := HBW.out; omega)).mono ?_; rintro e w1 ⟨rfl, hC1, hg1, hlt1⟩
  have HE1 := Lib.hid (Held.newCur HE.out hg1 hC1 hlt1)
  obtain ⟨C, hC⟩ : ∃ C, C = W0.heap.size := ⟨_, rfl⟩
  rw [← hC] at HE1 ⊢
  have HCS := Lib.hid hC
  clear hC1 hg1 hlt1 HY0 hC
  go_wp2_with fail
  refine (meshB_cur (HE1.out.cur 1 rfl HBW.out HL.out HY.out) (by have := HE1.out.gr.size; have := HBW.out; omega)).mono ?_
  rintro e w2 ⟨R, xs, x, c, rfl, hm, hgp, ho, hcu, hgr⟩
  have HE2 := Lib.hid (HE1.out.drawRow 1 rfl hgr hcu ho); have HM := Lib.hid (And.intro hm hgp)
  clear ho hcu hgr hm hgp HE1 HE
  obtain ⟨n1, hn1⟩ : ∃ n, n = xs.length := ⟨_, rfl⟩
  rw [← hn1] at HE2 ⊢
  have HN1 := Lib.hid hn1.symm; clear hn1
  go_upto_region 3 with fail
  have HE3 := Lib.hid (HE2.out.box 26 #[.int .i64 R, .slice x n1 c]); clear HE2
  obtain ⟨B3, hB3⟩ : ∃ B, B = w2.heap.size := ⟨_, rfl⟩
  rw [← hB3] at HE3 ⊢
  clear hB3
  generalize w2.alloc (.cells #[.int .i64 R, .slice x n1 c] 26) = W2 at *
  have HE4 := Lib.hid (HE3.out.row (World.grownBy_alloc W2 (.cells #[] 3) none) (own_emptyI W2 W2.heap.size (Nat.le_refl _))); clear HE3
  have hR0 : 1 ≤ R ∧ R ≤ 8 := by have := of_decide_eq_true HM.out.1; omega
  obtain ⟨Rn, rfl⟩ := Int.eq_ofNat_of_zero_le (show 0 ≤ R by omega)
  have hRn : (Rn : Int) ≤ 8 := by omega
  clear hR0
  go_wp2_with fail
  go_loopw [7, 8] (fun v i wr => ∃ (k : Nat) (aB : Option Addr) (cB : Nat), (k : Int) ≤ Rn ∧ i = .int .i64 k ∧ v = .slice aB k cB ∧ Hid (∃ bs : List Int, bs.length = k ∧ (∀ b ∈ bs, 0 ≤ b ∧ b ≤ 8999) ∧ Held w wr [boxG w.heap.size 26 #[.int .i64 0, .slice none 0 0], curG C a len cap, rowG 63 3 (.slice x n1 c) n1 (flatC xs), boxG B3 26 #[.int .i64 (Rn : Int), .slice x n1 c], rowG 3 1 (.slice aB k cB) k (vals bs)])) (fun _ i _ => Rn - (intOf i).toNat)
  case atStart => exact ⟨0, _, _, by omega, rfl, rfl, Lib.hid ⟨[], rfl, by simp, HE4.out⟩⟩
  case round =>
    clear HE4
    obtain ⟨k, aB, cB, hk, rfl, rfl, HF⟩ := hrel
    obtain ⟨bs, hbl, hbo, hH⟩ := HF.out
    have HH := Lib.hid hH; have HBL := Lib.hid hbl; have HBO := Lib.hid hbo
    obtain ⟨p0, p1⟩ := box2 (hH.nth 3 rfl)
    clear hH hbl hbo HF
    by_cases hlt : (k : Int) < Rn
    · have HK := Lib.hid (show k + 1 ≤ 8 by omega)
      go_wp2_with fail
      refine (Draw.below_any 9000 (by decide) (HH.out.cur 1 rfl HBW.out HL.out HY.out)).mono ?_
      rintro e wa ⟨y, hy0, hy1, rfl, hcu, hgr⟩
      have hy2 : y ≤ 8999 := by omega
      have HA := Lib.hid (HH.out.draw 1 rfl hgr hcu)
      clear hcu hgr hy1 p0 p1 HH
      go_wp2_with (at_builtin; refine wpList_append_own_at _ rfl _ _ 27 rfl 0 3 i0 (.int .i64 0) 1 8 Try.underlying27 hi0 hz0 hz1 hz2 rfl (by decide) _ k (vals bs) rfl (own_on (HA.out.nth 4 rfl) (World.grownBy_alloc wa _ none)) ⟨wa.heap.size, 0, none⟩ 1 1 [.int .i64 y] rfl rfl (cell_one_new _ _ _) (fun x hx => by simp at hx; subst hx; rfl) (by have := HK.out; unfold maxLen; omega) (by have := HK.out; omega) (Nat.zero_le _) ?_; intro v' w6 hown hg _ hat; rw [vals_snoc] at hown; obtain ⟨aB', cB', rfl⟩ := own_shapeAny hown; have HE3 := Lib.hid ((HA.out.on (World.grownBy_alloc wa _ none)).appended 4 rfl hown hg hat); clear hown hg hat)
      exact ⟨⟨k + 1, aB', cB', by omega, by go_num, rfl, Lib.hid ⟨bs ++ [y], by rw [List.length_append, HBL.out]; rfl, (fun m hm => by rcases List.mem_append.1 hm with h | h; exact HBO.out m h; rw [List.mem_singleton.1 h]; omega), HE3.out⟩⟩, by simp [intOf]; omega⟩
    · obtain rfl : Rn = k := by omega
      clear hk hlt
      obtain ⟨r0, r1⟩ := box2 (HH.out.nth 0 rfl)
      obtain ⟨f0, f1⟩ := free2 (HH.out.nth 0 rfl)
      go_upto_region 8 with fail
      go_region_with (go_at_call 34; ((with_reducible refine (Draw.below_any 12000 (by decide) ((HH.out.on (gr_drew (grown_refl wr))).cur 1 rfl HBW.out HL.out HY.out)).mono ?_); rintro e wb ⟨h, hh0, hh1, rfl, hcu, hgr⟩; have hA := (HH.out.on (gr_drew (grown_refl wr))).draw 1 rfl hgr hcu; obtain ⟨q0, q1⟩ := box2 (hA.nth 3 rfl); obtain ⟨s0, s1⟩ := box2 (hA.nth 0 rfl); obtain ⟨t0, t1⟩ := free2 (hA.nth 0 rfl); have HA := Lib.hid hA; have hh2 : h ≤ 11999 := (by omega); clear hcu hgr hA hh1))
      all_goals
        go_wp2_with fail
        have he := (HA.out.put 0 rfl 0 (.int .i64 (Rn : Int))).put 0 rfl 1 (.slice x n1 c)
        exact bodyPost_ret_by (results_row_tmps (fn := Try.f10) rfl _ _ w.heap.size _ _ (0, 0) _ rfl (he.nth 0 rfl) Try.underlying26 rfl (by kernel_rfl)) rfl
          ⟨_, n1, Rn, xs, bs, h, x, c, aB, cB, rfl, HM.out.1, HM.out.2, HN1.out, rfl, HBL.out, HBO.out, hh0, hh2, he.own 2 rfl, he.own 4 rfl, he.apart 2 4 (by decide) rfl rfl, he.gr⟩
end Go.Proofs.Ytnelgnfahkljmaa.State
