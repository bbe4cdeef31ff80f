/- States: FillState of the program, as a contract.
   Conditions: at most 2^20 leaves and numbers. -/
import Derived.Test.YtcdkhapepabpkaaStPutI
import Derived.Test.YtcdkhapepabpkaaDivs
import Derived.Deep.OwnRows
import Derived.Deep.RegionWith
set_option maxRecDepth 100000
namespace Go.Proofs.Ytcdkhapepabpkaa.State
open Go.ChangeShapes Go.WideShapes Go.ChangeAt Go.RowKit Go.Joins Go.Proofs.Ytcdkhapepabpkaa.Cell Go.Proofs.Ytcdkhapepabpkaa.Mesh Go.Proofs.Ytcdkhapepabpkaa.Law Go.Proofs.Ytcdkhapepabpkaa.Ints Go.Proofs.Ytcdkhapepabpkaa.Draws Go.Deep

theorem makeZ_is (w : World) (n : Nat) (hn : n ≤ 1048576) : (Instr.makeSlice 27 (.int .i64 (n : Int)) (.int .i64 (n : Int))).run Try.prog w = .ok (.slice (some ⟨w.heap.size, 0, none⟩) n n) (w.alloc (.cells (madeCells #[.int .i64 0] n) 3)) := by
  obtain ⟨i0, hi, hz0, hz1, hz2⟩ := info_parts infoInt
  have h := run_make (P := Try.prog) (w := w) 27 3 i0 _ Try.underlying27 hi hz0 .i64 .i64 (n : Int) (n : Int) (by omega) (by omega) (by rw [hz2]; omega) (by omega)
  simpa [hz1, Value.cells] using h
theorem ownZ (w : World) (n : Nat) (hn : n ≤ 1048576) (base : Nat) (hb : base ≤ w.heap.size) : (w.alloc (.cells (madeCells #[.int .i64 0] n) 3)).ownsRow base 3 1 (.slice (some ⟨w.heap.size, 0, none⟩) n n) n (vals (List.replicate n 0)) := by
  refine ⟨by rw [vals_len, List.length_replicate, Nat.mul_one], .inr ⟨w.heap.size, n, _, rfl, hb, heap_alloc_new w _, Nat.le_refl _, by unfold maxLen; omega, by rw [size_madeCells, Nat.mul_one], ?_⟩⟩
  rw [Nat.mul_one, List.take_of_length_le (by simp [size_madeCells])]
  refine List.ext_getElem? fun j => ?_
  by_cases hj : j < n
  · rw [vals_at (List.getElem?_replicate_of_lt hj)]
    simp [madeCells, hj, Nat.mod_one]
  · rw [List.getElem?_eq_none (by simp [size_madeCells]; omega), List.getElem?_eq_none (by rw [vals_len, List.length_replicate]; omega)]
/-- A number stored into a row of the call's own. -/
theorem Held.setRow {w W : World} {gs : List Grp} {g n c : Nat} {xs : List Int} (h : Held w W gs) (k : Nat) (hk : gs[k]? = some (rowG 3 1 (.slice (some ⟨g, 0, none⟩) n c) n (vals xs))) (j : Nat) (x : Int) :
    Held w (W.setCell ⟨g, j, none⟩ (.int .i64 x)) (gs.set k (rowG 3 1 (.slice (some ⟨g, 0, none⟩) n c) n (vals (xs.set j x)))) := by
  have ho : W.ownsRow 0 3 1 (.slice (some ⟨g, 0, none⟩) n c) n (vals xs) := h.nth k hk
  have hs := ho.stored j (.int .i64 x)
  rw [← vals_set] at hs
  exact h.turn k hk (Turned.of hs.2) rfl hs.1
theorem Held.front {w W : World} {gs : List Grp} (h : Held w W gs) (n : Nat) : Held w W (gs.take n) :=
  ⟨fun g hg => h.p g (List.mem_of_mem_take hg), fun g hg => h.lo g (List.mem_of_mem_take hg), h.dis.sublist (List.take_sublist _ _), h.gr⟩
/-- The first k of xs, and zeros. -/
def zerosFrom (xs : List Int) (n k : Nat) : List Int := xs.take k ++ List.replicate (n - k) 0
theorem zerosFrom_zero (xs : List Int) (n : Nat) : zerosFrom xs n 0 = List.replicate n 0 := by simp [zerosFrom]
theorem zerosFrom_all {xs : List Int} {n : Nat} (h : xs.length = n) : zerosFrom xs n n = xs := by simp [zerosFrom, take_all h]
theorem zerosFrom_set {xs : List Int} {n k : Nat} {x : Int} (hl : xs.length = n) (hx : xs[k]? = some x) : (zerosFrom xs n k).set k x = zerosFrom xs n (k + 1) := by
  have hk : k < n := by have := (List.getElem?_eq_some_iff.1 hx).1; omega
  unfold zerosFrom
  have e : List.replicate (n - k) (0 : Int) = 0 :: List.replicate (n - (k + 1)) 0 := by rw [show n - k = (n - (k + 1)) + 1 by omega, List.replicate_succ]
  rw [take_snocI hx, e, List.set_append_right _ _ (by simp; omega), List.append_assoc]
  simp [show k - min k xs.length = 0 by omega]
theorem zeros_set (n k : Nat) : (List.replicate n (0 : Int)).set k 0 = List.replicate n 0 := by
  refine List.ext_getElem? fun j => ?_
  rw [List.getElem?_set]
  split
  · rename_i e; subst e; split
    · rename_i hl; rw [List.getElem?_replicate_of_lt (by simpa using hl)]
    · rename_i hl; rw [List.getElem?_eq_none (by simpa using hl)]
  · rfl
/-- What stood stands on, but for one group. -/
theorem TabI.keepBut {ops : Array Oper} {dep : Nat → List Nat} {a0 a : Act} {w W : World} {gs0 : List Grp} {mk : List Nat} {G0 G : Nat → Grp} {Good : (Nat → Value) → (Nat → Grp) → Nat → Prop} {L : Nat → Bool} {val : Nat → Value}
    (hI : TabI ops dep a0 w gs0 mk G0 Good L a W val G) (hloc : Local dep Good) {i : Nat} (hL : L i = false) (v : Value) (t : Nat) {G' : Nat → Grp} (hG : ∀ j, j ≠ t → G' j = G j) (j : Nat) (hl : L j = true) (hjt : j ≠ t) (hdt : t ∉ dep j) : Good (upd val i v) G' j := by
  refine hloc val _ G _ j (fun k hk => ?_) (hI.gd j hl)
  have hlk : L k = true := by
    rcases hk with rfl | hk
    · exact hl
    · exact hI.cl j k hl hk
  have hki : k ≠ i := fun e => by rw [e, hL] at hlk; cases hlk
  exact ⟨upd_off _ _ hki, hG k (by rcases hk with rfl | hk; exact hjt; exact fun e => hdt (e ▸ hk))⟩

/-- What each operation of the making leaves. -/
def MakeG (R : Int) (g1 g2 n1 n2 c1 c2 : Nat) (xs : List C3) (bs : List Int) (val : Nat → Value) (G : Nat → Grp) : Nat → Prop
  | 0 => val 0 = .agg #[.int .i64 R, .slice (some ⟨g1, 0, none⟩) n1 c1]
  | 1 => ∃ (b : Option Addr) (d : Nat), val 1 = .agg #[.int .i64 R, .slice b n1 d] ∧ G 1 = rowG 36 3 (.slice b n1 d) n1 (flatC xs)
  | 2 => val 2 = .int .i64 (n1 : Int)
  | 3 => ∃ g : Nat, val 3 = .slice (some ⟨g, 0, none⟩) n1 n1 ∧ G 3 = rowG 3 1 (.slice (some ⟨g, 0, none⟩) n1 n1) n1 (vals (List.replicate n1 0))
  | 4 => val 4 = .int .i64 (n1 : Int)
  | 5 => ∃ g : Nat, val 5 = .slice (some ⟨g, 0, none⟩) n1 n1 ∧ G 5 = rowG 3 1 (.slice (some ⟨g, 0, none⟩) n1 n1) n1 (vals (List.replicate n1 0))
  | 6 => val 6 = .slice (some ⟨g2, 0, none⟩) n2 c2
  | 7 => ∃ (b : Option Addr) (d : Nat), val 7 = .slice b n2 d ∧ G 7 = rowG 3 1 (.slice b n2 d) n2 (vals bs)
  | 8 => ∃ (b1 : Option Addr) (d1 k2 k3 : Nat) (b4 : Option Addr) (d4 : Nat), val 8 = .agg #[.int .i64 R, .slice b1 n1 d1, .slice (some ⟨k2, 0, none⟩) n1 n1, .slice (some ⟨k3, 0, none⟩) n1 n1, .slice b4 n2 d4] ∧ val 1 = .agg #[.int .i64 R, .slice b1 n1 d1] ∧ val 3 = .slice (some ⟨k2, 0, none⟩) n1 n1 ∧ val 5 = .slice (some ⟨k3, 0, none⟩) n1 n1 ∧ val 7 = .slice b4 n2 d4
  | 9 => ∃ (B : Nat) (x0 x1 x2 x3 x4 : Value), val 9 = .pointer (some ⟨B, 0, none⟩) ∧ G 9 = boxG B 31 #[x0, x1, x2, x3, x4]
  | 10 => ∃ (B : Nat) (b1 : Option Addr) (d1 k2 k3 : Nat) (b4 : Option Addr) (d4 : Nat), val 9 = .pointer (some ⟨B, 0, none⟩) ∧ val 8 = .agg #[.int .i64 R, .slice b1 n1 d1, .slice (some ⟨k2, 0, none⟩) n1 n1, .slice (some ⟨k3, 0, none⟩) n1 n1, .slice b4 n2 d4] ∧ G 9 = boxG B 31 #[.int .i64 R, .slice b1 n1 d1, .slice (some ⟨k2, 0, none⟩) n1 n1, .slice (some ⟨k3, 0, none⟩) n1 n1, .slice b4 n2 d4]
  | _ => True
def makeDep : Nat → List Nat
  | 1 => [0] | 3 => [2] | 5 => [4] | 7 => [6] | 8 => [1, 3, 5, 7] | 10 => [8, 9] | _ => []
theorem make_local (R : Int) (g1 g2 n1 n2 c1 c2 : Nat) (xs : List C3) (bs : List Int) : Local makeDep (MakeG R g1 g2 n1 n2 c1 c2 xs bs) := by
  intro val val' G G' j hk h
  match j with
  | 0 => exact (hk 0 (.inl rfl)).1.trans h
  | 2 => exact (hk 2 (.inl rfl)).1.trans h
  | 4 => exact (hk 4 (.inl rfl)).1.trans h
  | 6 => exact (hk 6 (.inl rfl)).1.trans h
  | 1 => obtain ⟨b, d, h1, h2⟩ := h; exact ⟨b, d, (hk 1 (.inl rfl)).1.trans h1, (hk 1 (.inl rfl)).2.trans h2⟩
  | 7 => obtain ⟨b, d, h1, h2⟩ := h; exact ⟨b, d, (hk 7 (.inl rfl)).1.trans h1, (hk 7 (.inl rfl)).2.trans h2⟩
  | 3 => obtain ⟨g, h1, h2⟩ := h; exact ⟨g, (hk 3 (.inl rfl)).1.trans h1, (hk 3 (.inl rfl)).2.trans h2⟩
  | 5 => obtain ⟨g, h1, h2⟩ := h; exact ⟨g, (hk 5 (.inl rfl)).1.trans h1, (hk 5 (.inl rfl)).2.trans h2⟩
  | 8 => obtain ⟨b1, d1, k2, k3, b4, d4, h1, h2, h3, h4, h5⟩ := h; exact ⟨b1, d1, k2, k3, b4, d4, (hk 8 (.inl rfl)).1.trans h1, (hk 1 (.inr (by simp [makeDep]))).1.trans h2, (hk 3 (.inr (by simp [makeDep]))).1.trans h3, (hk 5 (.inr (by simp [makeDep]))).1.trans h4, (hk 7 (.inr (by simp [makeDep]))).1.trans h5⟩
  | 9 => obtain ⟨B, x0, x1, x2, x3, x4, h1, h2⟩ := h; exact ⟨B, x0, x1, x2, x3, x4, (hk 9 (.inl rfl)).1.trans h1, (hk 9 (.inl rfl)).2.trans h2⟩
  | 10 => obtain ⟨B, b1, d1, k2, k3, b4, d4, h1, h2, h3⟩ := h; exact ⟨B, b1, d1, k2, k3, b4, d4, (hk 9 (.inr (by simp [makeDep]))).1.trans h1, (hk 8 (.inr (by simp [makeDep]))).1.trans h2, (hk 9 (.inr (by simp [makeDep]))).2.trans h3⟩
  | _ + 11 => trivial

/-- What each operation of a round leaves. -/
def StepG (R : Int) (n1 n2 : Nat) (b1 b4 : Option Addr) (d1 d4 k2 k3 Bf k : Nat) (ms : List Int) (D l P : Int) (val : Nat → Value) (G : Nat → Grp) : Nat → Prop
  | 0 => val 0 = .agg #[.int .i64 R, .slice b1 n1 d1, .slice (some ⟨k2, 0, none⟩) n1 n1, .slice (some ⟨k3, 0, none⟩) n1 n1, .slice b4 n2 d4]
  | 1 => val 1 = .int .i64 (k : Int)
  | 2 => val 2 = .agg #[.pointer (some ⟨k2, k, none⟩), .pointer (some ⟨k3, k, none⟩)]
  | 3 => val 3 = .int .i64 D
  | 4 => val 4 = .pointer (some ⟨Bf, 1, none⟩)
  | 5 => val 5 = .int .i64 l
  | 6 => val 6 = .int .i64 P
  | 7 => val 7 = .int .i64 (D / P)
  | 8 => G 8 = rowG 3 1 (.slice (some ⟨k2, 0, none⟩) n1 n1) n1 (vals ((zerosFrom ms n1 k).set k (D / P)))
  | _ => True
def stepDep : Nat → List Nat
  | 2 => [0, 1] | 5 => [4] | 6 => [5] | 7 => [3, 6] | 8 => [2, 7] | _ => []
theorem step_local (R : Int) (n1 n2 : Nat) (b1 b4 : Option Addr) (d1 d4 k2 k3 Bf k : Nat) (ms : List Int) (D l P : Int) : Local stepDep (StepG R n1 n2 b1 b4 d1 d4 k2 k3 Bf k ms D l P) := by
  intro val val' G G' j hk h
  match j with
  | 0 | 1 | 2 | 3 | 4 | 5 | 6 | 7 => exact (hk _ (.inl rfl)).1.trans h
  | 8 => exact (hk 8 (.inl rfl)).2.trans h
  | _ + 9 => trivial

set_option maxHeartbeats 16000000 in
theorem fill_early (R : Int) (g1 g2 n1 n2 c1 c2 : Nat) (xs : List C3) (bs : List Int) (h : Int) (w : World) (hr : Reads w (some ⟨g1, 0, none⟩) n1 xs) (hb : ReadsI w (some ⟨g2, 0, none⟩) n2 bs) (h1 : n1 ≤ 1048576) (h2 : n2 ≤ 1048576) (hno : ¬ (balanced R xs = true ∧ (bedsOk bs && decide ((n2 : Int) = R)) = true ∧ 0 ≤ h ∧ h ≤ 2000000)) :
    Calls Try.prog 12 #[.agg #[.int .i64 R, .slice (some ⟨g1, 0, none⟩) n1 c1], .slice (some ⟨g2, 0, none⟩) n2 c2, .int .i64 h] w (GivesSB false 0 0 0 0 0 [] [] [] [] w) := by
  have hbal : ∀ u, w.grownBy u none → Calls Try.prog 39 #[.agg #[.int .i64 R, .slice (some ⟨g1, 0, none⟩) n1 c1]] u fun e w' => e = .returned (.bool (balanced R xs)) ∧ u.grownBy w' none := fun u hu => isBalanced_is R _ n1 c1 xs u (hr.on hu) h1
  have hbed : ∀ u, w.grownBy u none → Calls Try.prog 40 #[.agg #[.int .i64 R, .slice (some ⟨g1, 0, none⟩) n1 c1], .slice (some ⟨g2, 0, none⟩) n2 c2] u fun e w' => e = .returned (.bool (bedsOk bs && decide ((n2 : Int) = R))) ∧ u.grownBy w' none := fun u hu => bedsFit_is R _ _ n1 n2 c1 c2 bs u (hb.on hu) h2
  have he := ((Held.nil w).box 26 #[.int .i64 R, .slice (some ⟨g1, 0, none⟩) n1 c1]).box 31 #[.int .i64 0, .slice none 0 0, .slice none 0 0, .slice none 0 0, .slice none 0 0]
  simp only [World.size_alloc] at he
  have HE := Lib.hid he; have HBAL := Lib.hid hbal; have HBED := Lib.hid hbed
  have i1 : (n1 : Int) ≤ 1048576 := by omega
  have i2 : (n2 : Int) ≤ 1048576 := by omega
  have H1 := Lib.hid h1; have H2 := Lib.hid h2; have HR := Lib.hid hr; have HB := Lib.hid hb
  clear he hbal hbed h1 h2 hr hb
  generalize balanced R xs = q1 at HBAL hno
  generalize (bedsOk bs && decide ((n2 : Int) = R)) = q2 at HBED hno
  cases q1 with
  | false =>
    clear hno
    go_enter Try.func12, Try.ntmps12
    go_upto_region 1 with fail
    generalize (w.alloc (.cells #[.int .i64 R, .slice (some ⟨g1, 0, none⟩) n1 c1] 26)).alloc (.cells #[.int .i64 0, .slice none 0 0, .slice none 0 0, .slice none 0 0, .slice none 0 0] 31) = W0 at *
    obtain ⟨p0, p1⟩ := box2 (HE.out.nth 0 rfl)
    obtain ⟨r0, r1, r2, r3, r4⟩ := box5 (HE.out.nth 1 rfl)
    obtain ⟨f0, f1, f2, f3, f4⟩ := free5 (HE.out.nth 1 rfl)
    go_wp2_with (go_at_call 39; ((with_reducible refine (HBAL.out _ HE.out.gr).mono ?_); rintro e w1 ⟨rfl, hg⟩; have HE1 := Lib.hid (HE.out.on hg); obtain ⟨s0, s1⟩ := box2 (HE1.out.nth 0 rfl); obtain ⟨t0, t1, t2, t3, t4⟩ := box5 (HE1.out.nth 1 rfl); obtain ⟨z0, z1, z2, z3, z4⟩ := free5 (HE1.out.nth 1 rfl); clear hg))
    have he := HE1.out.put5 1 rfl (.int .i64 0) (.slice none 0 0) (.slice none 0 0) (.slice none 0 0) (.slice none 0 0)
    exact bodyPost_ret_by (results_row_tmp rfl _ _ (w.heap.size + 1) _ _ (0, 0) _ rfl (he.nth 1 rfl) Try.underlying31 rfl (by kernel_rfl)) rfl ⟨none, 0, none, 0, none, 0, none, 0, rfl, nilS _ _, he.gr⟩
  | true =>
    cases q2 with
    | false =>
      clear hno
      go_enter Try.func12, Try.ntmps12
      go_upto_region 1 with fail
      generalize (w.alloc (.cells #[.int .i64 R, .slice (some ⟨g1, 0, none⟩) n1 c1] 26)).alloc (.cells #[.int .i64 0, .slice none 0 0, .slice none 0 0, .slice none 0 0, .slice none 0 0] 31) = W0 at *
      obtain ⟨p0, p1⟩ := box2 (HE.out.nth 0 rfl)
      obtain ⟨r0, r1, r2, r3, r4⟩ := box5 (HE.out.nth 1 rfl)
      obtain ⟨f0, f1, f2, f3, f4⟩ := free5 (HE.out.nth 1 rfl)
      go_wp2_with (first | (go_at_call 39; ((with_reducible refine (HBAL.out _ HE.out.gr).mono ?_); rintro e w1 ⟨rfl, hg⟩; have HE1 := Lib.hid (HE.out.on hg); obtain ⟨s0, s1⟩ := box2 (HE1.out.nth 0 rfl); obtain ⟨t0, t1, t2, t3, t4⟩ := box5 (HE1.out.nth 1 rfl); obtain ⟨z0, z1, z2, z3, z4⟩ := free5 (HE1.out.nth 1 rfl); clear hg)) | (go_at_call 40; ((with_reducible refine (HBED.out _ HE1.out.gr).mono ?_); rintro e w2 ⟨rfl, hg⟩; have HE2 := Lib.hid (HE1.out.on hg); obtain ⟨v0, v1⟩ := box2 (HE2.out.nth 0 rfl); obtain ⟨x0, x1, x2, x3, x4⟩ := box5 (HE2.out.nth 1 rfl); obtain ⟨y0, y1, y2, y3, y4⟩ := free5 (HE2.out.nth 1 rfl); clear hg)))
      have he := HE2.out.put5 1 rfl (.int .i64 0) (.slice none 0 0) (.slice none 0 0) (.slice none 0 0) (.slice none 0 0)
      exact bodyPost_ret_by (results_row_tmp rfl _ _ (w.heap.size + 1) _ _ (0, 0) _ rfl (he.nth 1 rfl) Try.underlying31 rfl (by kernel_rfl)) rfl ⟨none, 0, none, 0, none, 0, none, 0, rfl, nilS _ _, he.gr⟩
    | true =>
      by_cases hh : h < 0
      · clear hno
        go_enter Try.func12, Try.ntmps12
        go_upto_region 1 with fail
        generalize (w.alloc (.cells #[.int .i64 R, .slice (some ⟨g1, 0, none⟩) n1 c1] 26)).alloc (.cells #[.int .i64 0, .slice none 0 0, .slice none 0 0, .slice none 0 0, .slice none 0 0] 31) = W0 at *
        obtain ⟨p0, p1⟩ := box2 (HE.out.nth 0 rfl)
        obtain ⟨r0, r1, r2, r3, r4⟩ := box5 (HE.out.nth 1 rfl)
        obtain ⟨f0, f1, f2, f3, f4⟩ := free5 (HE.out.nth 1 rfl)
        go_wp2_with (first | (go_at_call 39; ((with_reducible refine (HBAL.out _ HE.out.gr).mono ?_); rintro e w1 ⟨rfl, hg⟩; have HE1 := Lib.hid (HE.out.on hg); obtain ⟨s0, s1⟩ := box2 (HE1.out.nth 0 rfl); obtain ⟨t0, t1, t2, t3, t4⟩ := box5 (HE1.out.nth 1 rfl); obtain ⟨z0, z1, z2, z3, z4⟩ := free5 (HE1.out.nth 1 rfl); clear hg)) | (go_at_call 40; ((with_reducible refine (HBED.out _ HE1.out.gr).mono ?_); rintro e w2 ⟨rfl, hg⟩; have HE2 := Lib.hid (HE1.out.on hg); obtain ⟨v0, v1⟩ := box2 (HE2.out.nth 0 rfl); obtain ⟨x0, x1, x2, x3, x4⟩ := box5 (HE2.out.nth 1 rfl); obtain ⟨y0, y1, y2, y3, y4⟩ := free5 (HE2.out.nth 1 rfl); clear hg)))
        have he := HE2.out.put5 1 rfl (.int .i64 0) (.slice none 0 0) (.slice none 0 0) (.slice none 0 0) (.slice none 0 0)
        exact bodyPost_ret_by (results_row_tmp rfl _ _ (w.heap.size + 1) _ _ (0, 0) _ rfl (he.nth 1 rfl) Try.underlying31 rfl (by kernel_rfl)) rfl ⟨none, 0, none, 0, none, 0, none, 0, rfl, nilS _ _, he.gr⟩
      · have hh2 : 2000000 < h := by
          rcases Int.lt_or_le 2000000 h with hx | hx
          · exact hx
          · exact absurd ⟨rfl, rfl, by omega, hx⟩ hno
        clear hno
        go_enter Try.func12, Try.ntmps12
        go_upto_region 1 with fail
        generalize (w.alloc (.cells #[.int .i64 R, .slice (some ⟨g1, 0, none⟩) n1 c1] 26)).alloc (.cells #[.int .i64 0, .slice none 0 0, .slice none 0 0, .slice none 0 0, .slice none 0 0] 31) = W0 at *
        obtain ⟨p0, p1⟩ := box2 (HE.out.nth 0 rfl)
        obtain ⟨r0, r1, r2, r3, r4⟩ := box5 (HE.out.nth 1 rfl)
        obtain ⟨f0, f1, f2, f3, f4⟩ := free5 (HE.out.nth 1 rfl)
        go_wp2_with (first | (go_at_call 39; ((with_reducible refine (HBAL.out _ HE.out.gr).mono ?_); rintro e w1 ⟨rfl, hg⟩; have HE1 := Lib.hid (HE.out.on hg); obtain ⟨s0, s1⟩ := box2 (HE1.out.nth 0 rfl); obtain ⟨t0, t1, t2, t3, t4⟩ := box5 (HE1.out.nth 1 rfl); obtain ⟨z0, z1, z2, z3, z4⟩ := free5 (HE1.out.nth 1 rfl); clear hg)) | (go_at_call 40; ((with_reducible refine (HBED.out _ HE1.out.gr).mono ?_); rintro e w2 ⟨rfl, hg⟩; have HE2 := Lib.hid (HE1.out.on hg); obtain ⟨v0, v1⟩ := box2 (HE2.out.nth 0 rfl); obtain ⟨x0, x1, x2, x3, x4⟩ := box5 (HE2.out.nth 1 rfl); obtain ⟨y0, y1, y2, y3, y4⟩ := free5 (HE2.out.nth 1 rfl); clear hg)))
        have he := HE2.out.put5 1 rfl (.int .i64 0) (.slice none 0 0) (.slice none 0 0) (.slice none 0 0) (.slice none 0 0)
        exact bodyPost_ret_by (results_row_tmp rfl _ _ (w.heap.size + 1) _ _ (0, 0) _ rfl (he.nth 1 rfl) Try.underlying31 rfl (by kernel_rfl)) rfl ⟨none, 0, none, 0, none, 0, none, 0, rfl, nilS _ _, he.gr⟩

/-- The block of Bs that the region makes, before and after. -/
def FillP (w : World) (R : Int) (g1 n1 n2 c1 : Nat) (xs : List C3) (bs : List Int) (h : Int) (b1 b4 : Option Addr) (d1 d4 k2 k3 B9 k : Nat) (wr : World) : Prop :=
  Held w wr [boxG w.heap.size 26 #[.int .i64 R, .slice (some ⟨g1, 0, none⟩) n1 c1], boxG (w.heap.size + 1) 31 #[.int .i64 0, .slice none 0 0, .slice none 0 0, .slice none 0 0, .slice none 0 0], boxG B9 31 #[.int .i64 R, .slice b1 n1 d1, .slice (some ⟨k2, 0, none⟩) n1 n1, .slice (some ⟨k3, 0, none⟩) n1 n1, .slice b4 n2 d4], rowG 36 3 (.slice b1 n1 d1) n1 (flatC xs), rowG 3 1 (.slice (some ⟨k2, 0, none⟩) n1 n1) n1 (vals (zerosFrom (fillMs bs h xs) n1 k)), rowG 3 1 (.slice (some ⟨k3, 0, none⟩) n1 n1) n1 (vals (List.replicate n1 0)), rowG 3 1 (.slice b4 n2 d4) n2 (vals bs)]
theorem fillMass_max {bs : List Int} {h b : Int} {x : C3} (hb : bs[x.1.toNat]? = some b) (hb0 : 0 ≤ b) : fillMass bs h x = (if h - b < 0 then 0 else h - b) / 2 ^ x.2.1.toNat := by
  have e2 : bs.getD x.1.toNat 0 = b := by rw [List.getD_eq_getElem?_getD, hb]; rfl
  unfold fillMass
  rw [e2]
  congr 1
  split <;> split <;> omega

set_option maxHeartbeats 16000000 in
theorem fill_main (R : Int) (g1 g2 n1 n2 c1 c2 : Nat) (xs : List C3) (bs : List Int) (h : Int) (w : World) (hr : Reads w (some ⟨g1, 0, none⟩) n1 xs) (hb : ReadsI w (some ⟨g2, 0, none⟩) n2 bs) (h1 : n1 ≤ 1048576) (h2 : n2 ≤ 1048576) (hbt : balanced R xs = true) (hbo : bedsOk bs = true) (hz : (n2 : Int) = R) (hh0 : 0 ≤ h) (hh1 : h ≤ 2000000) (b : Bool) (hst : stOk R xs (fillMs bs h xs) (List.replicate n1 0) bs = b) :
    Calls Try.prog 12 #[.agg #[.int .i64 R, .slice (some ⟨g1, 0, none⟩) n1 c1], .slice (some ⟨g2, 0, none⟩) n2 c2, .int .i64 h] w (FillGives b R n1 n2 xs bs h w) := by
  have hm : meshOk R xs = true := by unfold balanced at hbt; simp only [Bool.and_eq_true] at hbt; exact hbt.1
  have hbal : ∀ u, w.grownBy u none → Calls Try.prog 39 #[.agg #[.int .i64 R, .slice (some ⟨g1, 0, none⟩) n1 c1]] u fun e w' => e = .returned (.bool (balanced R xs)) ∧ u.grownBy w' none := fun u hu => isBalanced_is R _ n1 c1 xs u (hr.on hu) h1
  have hbed : ∀ u, w.grownBy u none → Calls Try.prog 40 #[.agg #[.int .i64 R, .slice (some ⟨g1, 0, none⟩) n1 c1], .slice (some ⟨g2, 0, none⟩) n2 c2] u fun e w' => e = .returned (.bool (bedsOk bs && decide ((n2 : Int) = R))) ∧ u.grownBy w' none := fun u hu => bedsFit_is R _ _ n1 n2 c1 c2 bs u (hb.on hu) h2
  have he := ((Held.nil w).box 26 #[.int .i64 R, .slice (some ⟨g1, 0, none⟩) n1 c1]).box 31 #[.int .i64 0, .slice none 0 0, .slice none 0 0, .slice none 0 0, .slice none 0 0]
  simp only [World.size_alloc] at he
  have HE := Lib.hid he; have HBAL := Lib.hid hbal; have HBED := Lib.hid hbed
  have i1 : (n1 : Int) ≤ 1048576 := by omega
  have i2 : (n2 : Int) ≤ 1048576 := by omega
  have H1 := Lib.hid h1; have H2 := Lib.hid h2; have HR := Lib.hid hr; have HB := Lib.hid hb
  clear he hbal hbed h1 h2 hr hb
  have HM := Lib.hid hm; have HST := Lib.hid hst; have HBO := Lib.hid hbo
  clear hm hst
  rw [hbt] at HBAL
  rw [hbo, decide_eq_true hz] at HBED
  have HZ := Lib.hid hz
  clear hbt hbo hz
  have hloc := make_local R g1 g2 n1 n2 c1 c2 xs bs
  go_enter Try.func12, Try.ntmps12
  go_upto_region 1 with fail
  generalize (w.alloc (.cells #[.int .i64 R, .slice (some ⟨g1, 0, none⟩) n1 c1] 26)).alloc (.cells #[.int .i64 0, .slice none 0 0, .slice none 0 0, .slice none 0 0, .slice none 0 0] 31) = W0 at *
  obtain ⟨p0, p1⟩ := box2 (HE.out.nth 0 rfl)
  obtain ⟨r0, r1, r2, r3, r4⟩ := box5 (HE.out.nth 1 rfl)
  obtain ⟨f0, f1, f2, f3, f4⟩ := free5 (HE.out.nth 1 rfl)
  clear r0 r1 r2 r3 r4 f0 f1 f2 f3 f4
  go_upto_region 3 with (first | (go_at_call 39; ((with_reducible refine (HBAL.out _ HE.out.gr).mono ?_); rintro e w1 ⟨rfl, hg⟩; have HE1 := Lib.hid (HE.out.on hg); obtain ⟨s0, s1⟩ := box2 (HE1.out.nth 0 rfl); obtain ⟨t0, t1, t2, t3, t4⟩ := box5 (HE1.out.nth 1 rfl); obtain ⟨z0, z1, z2, z3, z4⟩ := free5 (HE1.out.nth 1 rfl); clear hg)) | (go_at_call 40; ((with_reducible refine (HBED.out _ HE1.out.gr).mono ?_); rintro e w2 ⟨rfl, hg⟩; have HE2 := Lib.hid (HE1.out.on hg); obtain ⟨v0, v1⟩ := box2 (HE2.out.nth 0 rfl); obtain ⟨x0, x1, x2, x3, x4⟩ := box5 (HE2.out.nth 1 rfl); obtain ⟨y0, y1, y2, y3, y4⟩ := free5 (HE2.out.nth 1 rfl); clear hg)))
  clear p0 p1 s0 s1 t0 t1 t2 t3 t4 z0 z1 z2 z3 z4 x0 x1 x2 x3 x4 y0 y1 y2 y3 y4 HE HE1 HBAL HBED
  go_upto_region 4 with fail
  rename_i K hK
  refine wp_region_tab (w := w) rfl (by kernel_rfl) (by kernel_rfl) makeDep (by kernel_rfl) [boxG w.heap.size 26 #[.int .i64 R, .slice (some ⟨g1, 0, none⟩) n1 c1], boxG (w.heap.size + 1) 31 #[.int .i64 0, .slice none 0 0, .slice none 0 0, .slice none 0 0, .slice none 0 0]] [9, 1, 3, 5, 7] (fun _ => emptyG) (MakeG R g1 g2 n1 n2 c1 c2 xs bs) ?start ?step ?last
  case start => exact (((((HE2.out.on (gr_drew (grown_refl _))).addE).addE).addE).addE).addE
  case step =>
    clear hK v0 v1
    intro L a W val G i o hI ho hL hd
    have hi : i < 11 := by have := (Array.getElem?_eq_some_iff.1 ho).1; simpa using this
    have p3 := (hI.old 3 (by kernel_rfl) rfl).get
    have p1 := (hI.old 1 (by kernel_rfl) rfl).get
    have p8 := (hI.old 8 (by kernel_rfl) rfl).get
    obtain ⟨z0, z1⟩ := box2 (hI.hd.nth 0 rfl)
    rcases (show i = 0 ∨ i = 1 ∨ i = 2 ∨ i = 3 ∨ i = 4 ∨ i = 5 ∨ i = 6 ∨ i = 7 ∨ i = 8 ∨ i = 9 ∨ i = 10 by omega) with rfl | rfl | rfl | rfl | rfl | rfl | rfl | rfl | rfl | rfl | rfl
    · obtain rfl := Option.some.inj ho
      refine wpOp_of (by rfl) rfl (wp_value (v := .agg #[.int .i64 R, .slice (some ⟨g1, 0, none⟩) n1 c1]) (w' := W) ?_ (hI.same hloc hL _ _ (grown_refl _) (upd_at _ _ _)))
      simp only [execOp]
      go_simp
    · obtain rfl := Option.some.inj ho
      have l0 := hd 0 (by simp [makeDep])
      have e1 := (hI.at_ 0 34 rfl l0).get
      rw [show val 0 = _ from hI.gd 0 l0] at e1
      refine wpOp_of (by rfl) rfl ?_
      unfold Oper.wp
      simp only [execOp]
      go_simp
      refine Calls.mono (P := Try.prog) (mcloneA_is R _ n1 c1 xs W (HR.out.on hI.hd.gr) H1.out) ?_
      rintro e w1 ⟨v, rfl, ho, hg⟩
      obtain ⟨b, d, rfl⟩ := own_shapeAny ho
      exact hI.made hloc hL _ (.agg #[.int .i64 R, .slice b n1 d]) (rowG 36 3 (.slice b n1 d) n1 (flatC xs)) (hI.hd.fill 3 (g' := rowG 36 3 (.slice b n1 d) n1 (flatC xs)) (congrArg some (hI.no 1 hL)) hg (own_zero ho) (fun b hb => ho.lt b (by simpa [rowG] using hb))) ⟨b, d, upd_at _ _ _, upd_at _ _ _⟩
    · obtain rfl := Option.some.inj ho
      refine wpOp_of (by rfl) rfl (wp_value (v := .int .i64 (n1 : Int)) (w' := W) ?_ (hI.same hloc hL _ _ (grown_refl _) (upd_at _ _ _)))
      simp only [execOp]
      go_simp
    · obtain rfl := Option.some.inj ho
      have l0 := hd 2 (by simp [makeDep])
      have e1 := (hI.at_ 2 36 rfl l0).get
      rw [show val 2 = _ from hI.gd 2 l0] at e1
      have hmk := makeZ_is W n1 H1.out
      refine wpOp_of (by rfl) rfl (wp_value (v := .slice (some ⟨W.heap.size, 0, none⟩) n1 n1) (w' := W.alloc (.cells (madeCells #[.int .i64 0] n1) 3)) ?_ ?_)
      · simp only [execOp]
        go_simp
      have ho := ownZ W n1 H1.out W.heap.size (Nat.le_refl _)
      exact hI.made hloc hL _ _ (rowG 3 1 (.slice (some ⟨W.heap.size, 0, none⟩) n1 n1) n1 (vals (List.replicate n1 0))) (hI.hd.fill 4 (g' := rowG 3 1 (.slice (some ⟨W.heap.size, 0, none⟩) n1 n1) n1 (vals (List.replicate n1 0))) (congrArg some (hI.no 3 hL)) (World.grownBy_alloc W _ none) (own_zero ho) (fun b hb => ho.lt b (by simpa [rowG] using hb))) ⟨W.heap.size, upd_at _ _ _, upd_at _ _ _⟩
    · obtain rfl := Option.some.inj ho
      refine wpOp_of (by rfl) rfl (wp_value (v := .int .i64 (n1 : Int)) (w' := W) ?_ (hI.same hloc hL _ _ (grown_refl _) (upd_at _ _ _)))
      simp only [execOp]
      go_simp
    · obtain rfl := Option.some.inj ho
      have l0 := hd 4 (by simp [makeDep])
      have e1 := (hI.at_ 4 38 rfl l0).get
      rw [show val 4 = _ from hI.gd 4 l0] at e1
      have hmk := makeZ_is W n1 H1.out
      refine wpOp_of (by rfl) rfl (wp_value (v := .slice (some ⟨W.heap.size, 0, none⟩) n1 n1) (w' := W.alloc (.cells (madeCells #[.int .i64 0] n1) 3)) ?_ ?_)
      · simp only [execOp]
        go_simp
      have ho := ownZ W n1 H1.out W.heap.size (Nat.le_refl _)
      exact hI.made hloc hL _ _ (rowG 3 1 (.slice (some ⟨W.heap.size, 0, none⟩) n1 n1) n1 (vals (List.replicate n1 0))) (hI.hd.fill 5 (g' := rowG 3 1 (.slice (some ⟨W.heap.size, 0, none⟩) n1 n1) n1 (vals (List.replicate n1 0))) (congrArg some (hI.no 5 hL)) (World.grownBy_alloc W _ none) (own_zero ho) (fun b hb => ho.lt b (by simpa [rowG] using hb))) ⟨W.heap.size, upd_at _ _ _, upd_at _ _ _⟩
    · obtain rfl := Option.some.inj ho
      refine wpOp_of (by rfl) rfl (wp_value (v := .slice (some ⟨g2, 0, none⟩) n2 c2) (w' := W) ?_ (hI.same hloc hL _ _ (grown_refl _) (upd_at _ _ _)))
      simp only [execOp]
      go_simp
    · obtain rfl := Option.some.inj ho
      have l0 := hd 6 (by simp [makeDep])
      have e1 := (hI.at_ 6 40 rfl l0).get
      rw [show val 6 = _ from hI.gd 6 l0] at e1
      refine wpOp_of (by rfl) rfl ?_
      unfold Oper.wp
      simp only [execOp]
      go_simp
      refine Calls.mono (P := Try.prog) (cloneI_is W.heap.size _ n2 c2 bs W (HB.out.on hI.hd.gr) H2.out (Nat.le_refl _)) ?_
      rintro e w1 ⟨v, rfl, ho, hg⟩
      obtain ⟨b, d, rfl⟩ := own_shapeAny ho
      exact hI.made hloc hL _ (.slice b n2 d) (rowG 3 1 (.slice b n2 d) n2 (vals bs)) (hI.hd.fill 6 (g' := rowG 3 1 (.slice b n2 d) n2 (vals bs)) (congrArg some (hI.no 7 hL)) hg (own_zero ho) (fun b hb => ho.lt b (by simpa [rowG] using hb))) ⟨b, d, upd_at _ _ _, upd_at _ _ _⟩
    · obtain rfl := Option.some.inj ho
      have l1 := hd 1 (by simp [makeDep]); have l3 := hd 3 (by simp [makeDep]); have l5 := hd 5 (by simp [makeDep]); have l7 := hd 7 (by simp [makeDep])
      obtain ⟨b1, d1, v1, -⟩ := hI.gd 1 l1
      obtain ⟨k2, v3, -⟩ := hI.gd 3 l3
      obtain ⟨k3, v5, -⟩ := hI.gd 5 l5
      obtain ⟨b4, d4, v7, -⟩ := hI.gd 7 l7
      have e1 := (hI.at_ 1 35 rfl l1).get
      have e2 := (hI.at_ 3 37 rfl l3).get
      have e3 := (hI.at_ 5 39 rfl l5).get
      have e4 := (hI.at_ 7 41 rfl l7).get
      rw [v1] at e1; rw [v3] at e2; rw [v5] at e3; rw [v7] at e4
      refine wpOp_of (by rfl) rfl (wp_value (v := .agg #[.int .i64 R, .slice b1 n1 d1, .slice (some ⟨k2, 0, none⟩) n1 n1, .slice (some ⟨k3, 0, none⟩) n1 n1, .slice b4 n2 d4]) (w' := W) ?_ (hI.same hloc hL _ _ (grown_refl _) ⟨b1, d1, k2, k3, b4, d4, upd_at _ _ _, v1, v3, v5, v7⟩))
      simp only [execOp]
      go_simp
    · obtain rfl := Option.some.inj ho
      refine wpOp_of (by rfl) rfl (wp_value (v := .pointer (some ⟨W.heap.size, 0, none⟩)) (w' := W.alloc (.cells #[.int .i64 0, .slice none 0 0, .slice none 0 0, .slice none 0 0, .slice none 0 0] 31)) ?_ ?_)
      · simp only [execOp]
        go_simp
      exact hI.made hloc hL _ _ (boxG W.heap.size 31 #[.int .i64 0, .slice none 0 0, .slice none 0 0, .slice none 0 0, .slice none 0 0]) (hI.hd.fill 2 (g' := boxG W.heap.size 31 #[.int .i64 0, .slice none 0 0, .slice none 0 0, .slice none 0 0, .slice none 0 0]) (congrArg some (hI.no 9 hL)) (World.grownBy_alloc W _ none) (World.alloc_heap_new W _) (fun b hb => by have : b = W.heap.size := (by simpa [boxG] using hb); subst this; simp)) ⟨W.heap.size, _, _, _, _, _, upd_at _ _ _, upd_at _ _ _⟩
    · obtain rfl := Option.some.inj ho
      have l8 := hd 8 (by simp [makeDep]); have l9 := hd 9 (by simp [makeDep])
      obtain ⟨b1, d1, k2, k3, b4, d4, v8, -⟩ := hI.gd 8 l8
      obtain ⟨B, x0, x1, x2, x3, x4, v9, g9⟩ := hI.gd 9 l9
      have e1 := (hI.at_ 8 42 rfl l8).get
      have e2 := (hI.at_ 9 9 rfl l9).get
      rw [v8] at e1; rw [v9] at e2
      have hk : ([boxG w.heap.size 26 #[.int .i64 R, .slice (some ⟨g1, 0, none⟩) n1 c1], boxG (w.heap.size + 1) 31 #[.int .i64 0, .slice none 0 0, .slice none 0 0, .slice none 0 0, .slice none 0 0]] ++ [9, 1, 3, 5, 7].map G)[2]? = some (boxG B 31 #[x0, x1, x2, x3, x4]) := congrArg some g9
      obtain ⟨y0, y1, y2, y3, y4⟩ := box5 (hI.hd.nth 2 hk)
      obtain ⟨f0, f1, f2, f3, f4⟩ := free5 (hI.hd.nth 2 hk)
      refine wpOp_of (by rfl) rfl (wp_skip (w' := ((((W.setCell ⟨B, 0, none⟩ (.int .i64 R)).setCell ⟨B, 1, none⟩ (.slice b1 n1 d1)).setCell ⟨B, 2, none⟩ (.slice (some ⟨k2, 0, none⟩) n1 n1)).setCell ⟨B, 3, none⟩ (.slice (some ⟨k3, 0, none⟩) n1 n1)).setCell ⟨B, 4, none⟩ (.slice b4 n2 d4)) ?_ ?_)
      · simp only [execOp]
        go_simp
      have hoff : ∀ j, j ≠ 9 → upd G 9 (boxG B 31 #[.int .i64 R, .slice b1 n1 d1, .slice (some ⟨k2, 0, none⟩) n1 n1, .slice (some ⟨k3, 0, none⟩) n1 n1, .slice b4 n2 d4]) j = G j := fun j hj => upd_off _ _ hj
      refine ⟨undef, upd G 9 (boxG B 31 #[.int .i64 R, .slice b1 n1 d1, .slice (some ⟨k2, 0, none⟩) n1 n1, .slice (some ⟨k3, 0, none⟩) n1 n1, .slice b4 n2 d4]), rfl, hI.hd.put5 2 hk (.int .i64 R) (.slice b1 n1 d1) (.slice (some ⟨k2, 0, none⟩) n1 n1) (.slice (some ⟨k3, 0, none⟩) n1 n1) (.slice b4 n2 d4), ?_, ⟨B, b1, d1, k2, k3, b4, d4, v9, v8, upd_at _ _ _⟩, ?_⟩
      · intro j _ hj
        exact hoff j (fun e => by rw [e, l9] at hj; cases hj)
      · intro j hj hl
        by_cases hj9 : j = 9
        · subst hj9
          exact ⟨B, _, _, _, _, _, v9, upd_at _ _ _⟩
        · refine TabI.keepBut hI hloc hL undef 9 hoff j hl hj9 ?_
          match j with
          | 0 | 1 | 2 | 3 | 4 | 5 | 6 | 7 | 8 | 9 => simp [makeDep]
          | 10 => exact absurd rfl hj
          | _ + 11 => simp [makeDep]
  case last =>
    intro L a W val G hI hall
    have al : ∀ i, i < 11 → L i = true := fun i hi => hall i (by simpa using hi)
    obtain ⟨b1, d1, k2, k3, b4, d4, v8, v1, v3, v5, v7⟩ := hI.gd 8 (al 8 (by decide))
    obtain ⟨B9, b1', d1', k2', k3', b4', d4', v9, v8', gr9⟩ := hI.gd 10 (al 10 (by decide))
    rw [v8] at v8'
    cases v8'
    obtain ⟨b', d', u, gr1⟩ := hI.gd 1 (al 1 (by decide))
    rw [v1] at u
    cases u
    obtain ⟨k', u, gr3⟩ := hI.gd 3 (al 3 (by decide))
    rw [v3] at u
    cases u
    obtain ⟨k', u, gr5⟩ := hI.gd 5 (al 5 (by decide))
    rw [v5] at u
    cases u
    obtain ⟨b', d', u, gr7⟩ := hI.gd 7 (al 7 (by decide))
    rw [v7] at u
    cases u
    have hH : Held w W [boxG w.heap.size 26 #[.int .i64 R, .slice (some ⟨g1, 0, none⟩) n1 c1], boxG (w.heap.size + 1) 31 #[.int .i64 0, .slice none 0 0, .slice none 0 0, .slice none 0 0, .slice none 0 0], G 9, G 1, G 3, G 5, G 7] := hI.hd
    rw [gr9, gr1, gr3, gr5, gr7] at hH
    have hF : FillP w R g1 n1 n2 c1 xs bs h b1 b4 d1 d4 k2 k3 B9 0 W := by unfold FillP; rw [zerosFrom_zero]; exact hH
    have HF := Lib.hid hF
    have ha := hI.frame (by kernel_rfl) hall
    refine hK _ _ ?_
    clear hK hI hH hF gr9 gr1 gr3 gr5 gr7 hall al
    simp [frameOf, slotOf, Act.put, List.range, List.range.loop] at ha
    subst ha
    rw [v9]
    clear v1 v3 v5 v7 v8 v9
    obtain ⟨p0, p1⟩ := box2 (HF.out.nth 0 rfl)
    go_wp2_with fail
    clear p0 p1
    go_loopw [46] (fun i wr => ∃ k : Nat, (k : Int) ≤ n1 ∧ i = .int .i64 k ∧ Hid (FillP w R g1 n1 n2 c1 xs bs h b1 b4 d1 d4 k2 k3 B9 k wr)) (fun i _ => n1 - (intOf i).toNat)
    case atStart => exact ⟨0, by omega, rfl, HF⟩
    case round =>
      clear HF
      obtain ⟨k, hk, rfl, HF⟩ := hrel
      by_cases hlt : (k : Int) < n1
      · have HK := Lib.hid (show k < n1 by omega)
        obtain ⟨r, l, ix, hx⟩ := get_of_lt HR.out.len (k := k) HK.out
        obtain ⟨g, e, -, e0, e1, e2⟩ := (HR.out.on HF.out.gr).at_ k _ hx
        cases e
        obtain ⟨y0, y1, y2, y3⟩ := root_lt HM.out hx
        dsimp only at e0 e1 e2 y0 y1 y2 y3
        obtain ⟨rn, rfl⟩ := Int.eq_ofNat_of_zero_le y0
        have hz := HZ.out
        have hrn : (rn : Int) < n2 := by omega
        obtain ⟨b', hb'⟩ := getI HB.out.len (k := rn) (by omega)
        obtain ⟨g', o', e, e3⟩ := (HB.out.on HF.out.gr).at_ rn _ hb'
        cases e
        rw [Nat.zero_add] at e3
        obtain ⟨q0, q1⟩ := bed_bounds HBO.out (List.mem_of_getElem? hb')
        have HX := Lib.hid (And.intro hx hb')
        have hca : ∀ o, (wr.alloc o).cell? ⟨g2, rn, none⟩ = some (.int .i64 b') := fun o => (World.grownBy_alloc wr o none).cell e3 (by simp)
        clear hx hb' hz
        go_upto_region 9 with fail
        have HV := Lib.hid (fillMass_max (h := h) (x := ((rn : Int), l, ix)) HX.out.2 q0)
        dsimp only at HV
        have hD : 0 ≤ (if h - b' < 0 then 0 else h - b') ∧ (if h - b' < 0 then 0 else h - b') ≤ 2000000 := by split <;> omega
        generalize (if h - b' < 0 then 0 else h - b') = D at *
        obtain ⟨hD0, hD1⟩ := hD
        have HE := Lib.hid (Held.box HF.out 36 #[.int .i64 (rn : Int), .int .i64 l, .int .i64 ix])
        clear e0 e1 e2 e3 hca HF y0 y1 q0 q1 hrn
        generalize wr.alloc (.cells #[.int .i64 (rn : Int), .int .i64 l, .int .i64 ix] 36) = W1 at *
        generalize wr.heap.size = Bf at *
        obtain ⟨o0, o1, o2, o3, o4⟩ := box5 (HE.out.nth 2 rfl)
        have j1 : W1.cell? ⟨Bf, 1, none⟩ = some (.int .i64 l) := boxG.cell (HE.out.nth 7 rfl) 1
        have hco : ∀ u, Calls Try.prog 43 #[.agg #[.int .i64 R, .slice b1 n1 d1, .slice (some ⟨k2, 0, none⟩) n1 n1, .slice (some ⟨k3, 0, none⟩) n1 n1, .slice b4 n2 d4], .int .i64 (k : Int)] u fun e w' => e = .returned (.agg #[.pointer (some ⟨k2, k, none⟩), .pointer (some ⟨k3, k, none⟩)]) ∧ u.grownBy w' none := fun u => contentOf_is R b1 b4 k2 k3 n1 n1 n1 n2 d1 n1 n1 d4 k HK.out HK.out u
        have hdf : ∀ (P : Int) u, 0 < P → P ≤ 16 → Calls Try.prog 45 #[.int .i64 D, .int .i64 P] u fun e w' => e = .returned (.int .i64 (D / P)) ∧ u.grownBy w' none := fun P u h0 h1 => by
          have := Draw.floor_is D P (by omega) (by omega) u
          rw [if_neg (by omega)] at this
          exact this
        have hne : k2 ≠ k3 := fun e => (Held.apart HE.out 4 5 (by decide) rfl rfl) k2 rfl (by rw [e]; rfl)
        have hpu2 : ∀ (m : Int) u, u.ownsRow 0 3 1 (.slice (some ⟨k2, 0, none⟩) n1 n1) n1 (vals (zerosFrom (fillMs bs h xs) n1 k)) → u.ownsRow 0 3 1 (.slice (some ⟨k3, 0, none⟩) n1 n1) n1 (vals (List.replicate n1 0)) → Calls Try.prog 44 #[.agg #[.pointer (some ⟨k2, k, none⟩), .pointer (some ⟨k3, k, none⟩)], .int .i64 m, .int .i64 0] u fun e w' => e = .returned (.tuple #[]) ∧ ∃ W, u.grownBy W none ∧ w' = (W.setCell ⟨k2, k, none⟩ (.int .i64 m)).setCell ⟨k3, k, none⟩ (.int .i64 0) := fun m u ho2 ho3 => by
          obtain ⟨g2', x2, e2, -, m2, u2⟩ := own_cellI ho2 HK.out
          cases e2
          obtain ⟨g3', x3, e3, -, m3, u3⟩ := own_cellI ho3 HK.out
          cases e3
          exact put_is k2 k3 k m 0 u ⟨_, m2⟩ u2 ⟨_, m3⟩ u3 hne
        obtain ⟨P, hP⟩ : ∃ P : Int, (2 : Int) ^ l.toNat = P := ⟨_, rfl⟩
        rw [hP] at HV
        have hP0 : 0 < P ∧ P ≤ 16 := by rcases Cell.lvl y2 y3 with rfl | rfl | rfl | rfl | rfl <;> (simp at hP; omega)
        rename_i K2 hK2
        refine wp_region_tab (w := w) rfl (by kernel_rfl) (by kernel_rfl) stepDep (by kernel_rfl) [boxG w.heap.size 26 #[.int .i64 R, .slice (some ⟨g1, 0, none⟩) n1 c1], boxG (w.heap.size + 1) 31 #[.int .i64 0, .slice none 0 0, .slice none 0 0, .slice none 0 0, .slice none 0 0], boxG B9 31 #[.int .i64 R, .slice b1 n1 d1, .slice (some ⟨k2, 0, none⟩) n1 n1, .slice (some ⟨k3, 0, none⟩) n1 n1, .slice b4 n2 d4], rowG 36 3 (.slice b1 n1 d1) n1 (flatC xs)] [8, 101, 102, 103]
          (fun j => match j with | 8 => rowG 3 1 (.slice (some ⟨k2, 0, none⟩) n1 n1) n1 (vals (zerosFrom (fillMs bs h xs) n1 k)) | 101 => rowG 3 1 (.slice (some ⟨k3, 0, none⟩) n1 n1) n1 (vals (List.replicate n1 0)) | 102 => rowG 3 1 (.slice b4 n2 d4) n2 (vals bs) | _ => boxG Bf 36 #[.int .i64 (rn : Int), .int .i64 l, .int .i64 ix])
          (StepG R n1 n2 b1 b4 d1 d4 k2 k3 Bf k (fillMs bs h xs) D l P) ?start ?step ?last
        case start => exact HE.out.on (gr_drew (grown_refl _))
        case step =>
          clear hK2
          intro L a W val G i o hI ho hL hd
          have hi : i < 9 := by have := (Array.getElem?_eq_some_iff.1 ho).1; simpa using this
          have hloc := step_local R n1 n2 b1 b4 d1 d4 k2 k3 Bf k (fillMs bs h xs) D l P
          have q9 := (hI.old 9 (by kernel_rfl) rfl).get
          have q10 := (hI.old 10 (by kernel_rfl) rfl).get
          have q11 := (hI.old 11 (by kernel_rfl) rfl).get
          have q12 := (hI.old 12 (by kernel_rfl) rfl).get
          obtain ⟨o0, o1, o2, o3, o4⟩ := box5 (hI.hd.nth 2 rfl)
          have j1 : W.cell? ⟨Bf, 1, none⟩ = some (.int .i64 l) := boxG.cell (hI.hd.nth 7 (congrArg some (hI.stays 103 (by simp)))) 1
          rcases (show i = 0 ∨ i = 1 ∨ i = 2 ∨ i = 3 ∨ i = 4 ∨ i = 5 ∨ i = 6 ∨ i = 7 ∨ i = 8 by omega) with rfl | rfl | rfl | rfl | rfl | rfl | rfl | rfl | rfl
          · obtain rfl := Option.some.inj ho
            refine wpOp_of (by rfl) rfl (wp_value (v := .agg #[.int .i64 R, .slice b1 n1 d1, .slice (some ⟨k2, 0, none⟩) n1 n1, .slice (some ⟨k3, 0, none⟩) n1 n1, .slice b4 n2 d4]) (w' := W) ?_ (hI.same hloc hL _ _ (grown_refl _) (upd_at _ _ _)))
            simp only [execOp]
            go_simp
          · obtain rfl := Option.some.inj ho
            refine wpOp_of (by rfl) rfl (wp_value (v := .int .i64 (k : Int)) (w' := W) ?_ (hI.same hloc hL _ _ (grown_refl _) (upd_at _ _ _)))
            simp only [execOp]
            go_simp
          · obtain rfl := Option.some.inj ho
            have l0 := hd 0 (by simp [stepDep])
            have e0 := (hI.at_ 0 59 rfl l0).get
            rw [show val 0 = _ from hI.gd 0 l0] at e0
            have l1 := hd 1 (by simp [stepDep])
            have e1 := (hI.at_ 1 60 rfl l1).get
            rw [show val 1 = _ from hI.gd 1 l1] at e1
            refine wpOp_of (by rfl) rfl ?_
            unfold Oper.wp
            simp only [execOp]
            go_simp
            refine Calls.mono (P := Try.prog) (hco W) ?_
            rintro e w1 ⟨rfl, hg⟩
            exact hI.same hloc hL _ (.agg #[.pointer (some ⟨k2, k, none⟩), .pointer (some ⟨k3, k, none⟩)]) hg (upd_at _ _ _)
          · obtain rfl := Option.some.inj ho
            refine wpOp_of (by rfl) rfl (wp_value (v := .int .i64 D) (w' := W) ?_ (hI.same hloc hL _ _ (grown_refl _) (upd_at _ _ _)))
            simp only [execOp]
            go_simp
          · obtain rfl := Option.some.inj ho
            refine wpOp_of (by rfl) rfl (wp_value (v := .pointer (some ⟨Bf, 1, none⟩)) (w' := W) ?_ (hI.same hloc hL _ _ (grown_refl _) (upd_at _ _ _)))
            simp only [execOp]
            go_simp
          · obtain rfl := Option.some.inj ho
            have l4 := hd 4 (by simp [stepDep])
            have e4 := (hI.at_ 4 63 rfl l4).get
            rw [show val 4 = _ from hI.gd 4 l4] at e4
            refine wpOp_of (by rfl) rfl (wp_value (v := .int .i64 l) (w' := W) ?_ (hI.same hloc hL _ _ (grown_refl _) (upd_at _ _ _)))
            simp only [execOp]
            go_simp
          · obtain rfl := Option.some.inj ho
            have l5 := hd 5 (by simp [stepDep])
            have e5 := (hI.at_ 5 64 rfl l5).get
            rw [show val 5 = _ from hI.gd 5 l5] at e5
            refine wpOp_of (by rfl) rfl (wp_value (v := .int .i64 P) (w' := W) ?_ (hI.same hloc hL _ _ (grown_refl _) (upd_at _ _ _)))
            simp only [execOp]
            clear hloc hI HV
            rcases Cell.lvl y2 y3 with rfl | rfl | rfl | rfl | rfl <;> (simp at hP; subst hP; go_simp; rfl)
          · obtain rfl := Option.some.inj ho
            have l3 := hd 3 (by simp [stepDep])
            have e3 := (hI.at_ 3 62 rfl l3).get
            rw [show val 3 = _ from hI.gd 3 l3] at e3
            have l6 := hd 6 (by simp [stepDep])
            have e6 := (hI.at_ 6 65 rfl l6).get
            rw [show val 6 = _ from hI.gd 6 l6] at e6
            refine wpOp_of (by rfl) rfl ?_
            unfold Oper.wp
            simp only [execOp]
            go_simp
            refine Calls.mono (P := Try.prog) (hdf P W hP0.1 hP0.2) ?_
            rintro e w1 ⟨rfl, hg⟩
            exact hI.same hloc hL _ (.int .i64 (D / P)) hg (upd_at _ _ _)
          · obtain rfl := Option.some.inj ho
            have l2 := hd 2 (by simp [stepDep]); have l7 := hd 7 (by simp [stepDep])
            have e2 := (hI.at_ 2 61 rfl l2).get
            rw [show val 2 = _ from hI.gd 2 l2] at e2
            have e7 := (hI.at_ 7 66 rfl l7).get
            rw [show val 7 = _ from hI.gd 7 l7] at e7
            have hH : Held w W [boxG w.heap.size 26 #[.int .i64 R, .slice (some ⟨g1, 0, none⟩) n1 c1], boxG (w.heap.size + 1) 31 #[.int .i64 0, .slice none 0 0, .slice none 0 0, .slice none 0 0, .slice none 0 0], boxG B9 31 #[.int .i64 R, .slice b1 n1 d1, .slice (some ⟨k2, 0, none⟩) n1 n1, .slice (some ⟨k3, 0, none⟩) n1 n1, .slice b4 n2 d4], rowG 36 3 (.slice b1 n1 d1) n1 (flatC xs), G 8, G 101, G 102, G 103] := hI.hd
            rw [hI.no 8 hL, hI.stays 101 (by simp)] at hH
            refine wpOp_of (by rfl) rfl ?_
            unfold Oper.wp
            simp only [execOp]
            go_simp
            refine Calls.mono (P := Try.prog) (hpu2 (D / P) W (hH.nth 4 rfl) (hH.nth 5 rfl)) ?_
            rintro e w1 ⟨rfl, W', hg, rfl⟩
            have hH2 := Held.setRow (Held.setRow (hH.on hg) 4 rfl k (D / P)) 5 rfl k 0
            rw [zeros_set] at hH2
            refine hI.made hloc hL _ (.tuple #[]) (rowG 3 1 (.slice (some ⟨k2, 0, none⟩) n1 n1) n1 (vals ((zerosFrom (fillMs bs h xs) n1 k).set k (D / P)))) ?_ (upd_at _ _ _)
            have e101 := hI.stays 101 (by simp)
            show Held w _ [boxG w.heap.size 26 #[.int .i64 R, .slice (some ⟨g1, 0, none⟩) n1 c1], boxG (w.heap.size + 1) 31 #[.int .i64 0, .slice none 0 0, .slice none 0 0, .slice none 0 0, .slice none 0 0], boxG B9 31 #[.int .i64 R, .slice b1 n1 d1, .slice (some ⟨k2, 0, none⟩) n1 n1, .slice (some ⟨k3, 0, none⟩) n1 n1, .slice b4 n2 d4], rowG 36 3 (.slice b1 n1 d1) n1 (flatC xs), _, G 101, G 102, G 103]
            rw [e101]
            exact hH2
        case last =>
          intro L a W val' G hI hall
          have al : ∀ i, i < 9 → L i = true := fun i hi => hall i (by simpa using hi)
          have hH : Held w W [boxG w.heap.size 26 #[.int .i64 R, .slice (some ⟨g1, 0, none⟩) n1 c1], boxG (w.heap.size + 1) 31 #[.int .i64 0, .slice none 0 0, .slice none 0 0, .slice none 0 0, .slice none 0 0], boxG B9 31 #[.int .i64 R, .slice b1 n1 d1, .slice (some ⟨k2, 0, none⟩) n1 n1, .slice (some ⟨k3, 0, none⟩) n1 n1, .slice b4 n2 d4], rowG 36 3 (.slice b1 n1 d1) n1 (flatC xs), G 8, G 101, G 102, G 103] := hI.hd
          rw [show G 8 = _ from hI.gd 8 (al 8 (by decide)), hI.stays 101 (by simp), hI.stays 102 (by simp), hI.stays 103 (by simp), zerosFrom_set (by rw [fillMs_len, HR.out.len]) (by rw [fillMs, List.getElem?_map, HX.out.1]; exact congrArg some HV.out)] at hH
          have HF := Lib.hid (show FillP w R g1 n1 n2 c1 xs bs h b1 b4 d1 d4 k2 k3 B9 (k + 1) W from Held.front hH 7)
          have ha := hI.frame (by kernel_rfl) hall
          clear hI hH hall al hco hdf hpu2 HE HV
          refine hK2 _ _ ?_
          clear hK2
          simp [frameOf, slotOf, Act.put, List.range, List.range.loop] at ha
          subst ha
          go_wp2_with fail
          exact ⟨⟨k + 1, by omega, by go_num, HF⟩, by simp [intOf]; omega⟩
      · obtain rfl : n1 = k := by omega
        have hL : Held w wr [boxG w.heap.size 26 #[.int .i64 R, .slice (some ⟨g1, 0, none⟩) n1 c1], boxG (w.heap.size + 1) 31 #[.int .i64 0, .slice none 0 0, .slice none 0 0, .slice none 0 0, .slice none 0 0], boxG B9 31 #[.int .i64 R, .slice b1 n1 d1, .slice (some ⟨k2, 0, none⟩) n1 n1, .slice (some ⟨k3, 0, none⟩) n1 n1, .slice b4 n2 d4], rowG 36 3 (.slice b1 n1 d1) n1 (flatC xs), rowG 3 1 (.slice (some ⟨k2, 0, none⟩) n1 n1) n1 (vals (fillMs bs h xs)), rowG 3 1 (.slice (some ⟨k3, 0, none⟩) n1 n1) n1 (vals (List.replicate n1 0)), rowG 3 1 (.slice b4 n2 d4) n2 (vals bs)] := by
          have hF := HF.out
          unfold FillP at hF
          rw [zerosFrom_all (by rw [fillMs_len, HR.out.len])] at hF
          exact hF
        have HL := Lib.hid hL
        have hok : ∀ u, wr.grownBy u none → Calls Try.prog 13 #[.agg #[.int .i64 R, .slice b1 n1 d1, .slice (some ⟨k2, 0, none⟩) n1 n1, .slice (some ⟨k3, 0, none⟩) n1 n1, .slice b4 n2 d4]] u fun e w' => e = .returned (.bool b) ∧ u.grownBy w' none := fun u hu =>
          HST.out ▸ stateOk_is R b1 (some ⟨k2, 0, none⟩) (some ⟨k3, 0, none⟩) b4 n1 n1 n1 n2 d1 n1 n1 d4 xs (fillMs bs h xs) (List.replicate n1 0) bs u ((OwnS.reads (Held.ownS4 hL 3 4 5 6 (by decide) rfl rfl rfl rfl)).on hu) H1.out H1.out H1.out H2.out
        obtain ⟨o0, o1, o2, o3, o4⟩ := box5 (hL.nth 2 rfl)
        clear HF HST hL
        have HOK := Lib.hid hok; clear hok
        cases b with
        | true =>
          go_wp2_with (go_at_call 13; ((with_reducible refine (HOK.out _ (grown_refl _)).mono ?_); rintro e w7 ⟨rfl, hg⟩; have HE7 := Lib.hid (HL.out.on hg); obtain ⟨x0, x1, x2, x3, x4⟩ := box5 (HE7.out.nth 2 rfl); obtain ⟨r0, r1, r2, r3, r4⟩ := box5 (HE7.out.nth 1 rfl); obtain ⟨z0, z1, z2, z3, z4⟩ := free5 (HE7.out.nth 1 rfl); clear hg))
          have he := HE7.out.put5 1 rfl (.int .i64 R) (.slice b1 n1 d1) (.slice (some ⟨k2, 0, none⟩) n1 n1) (.slice (some ⟨k3, 0, none⟩) n1 n1) (.slice b4 n2 d4)
          exact bodyPost_ret_by (results_row_tmp rfl _ _ (w.heap.size + 1) _ _ (0, 0) _ rfl (he.nth 1 rfl) Try.underlying31 rfl (by kernel_rfl)) rfl (FillGives.yes ⟨b1, d1, some ⟨k2, 0, none⟩, n1, some ⟨k3, 0, none⟩, n1, b4, d4, rfl, Held.ownS4 he 3 4 5 6 (by decide) rfl rfl rfl rfl, he.gr⟩)
        | false =>
          go_wp2_with (go_at_call 13; ((with_reducible refine (HOK.out _ (grown_refl _)).mono ?_); rintro e w7 ⟨rfl, hg⟩; have HE7 := Lib.hid (HL.out.on hg); obtain ⟨x0, x1, x2, x3, x4⟩ := box5 (HE7.out.nth 2 rfl); obtain ⟨r0, r1, r2, r3, r4⟩ := box5 (HE7.out.nth 1 rfl); obtain ⟨z0, z1, z2, z3, z4⟩ := free5 (HE7.out.nth 1 rfl); clear hg))
          have he := HE7.out.put5 1 rfl (.int .i64 0) (.slice none 0 0) (.slice none 0 0) (.slice none 0 0) (.slice none 0 0)
          exact bodyPost_ret_by (results_row_tmp rfl _ _ (w.heap.size + 1) _ _ (0, 0) _ rfl (he.nth 1 rfl) Try.underlying31 rfl (by kernel_rfl)) rfl (FillGives.no ⟨none, 0, none, 0, none, 0, none, 0, rfl, nilS _ _, he.gr⟩)

/-- FillState of the program, whatever it is called with. -/
theorem fillState_is (R : Int) (g1 g2 n1 n2 c1 c2 : Nat) (xs : List C3) (bs : List Int) (h : Int) (w : World) (hr : Reads w (some ⟨g1, 0, none⟩) n1 xs) (hb : ReadsI w (some ⟨g2, 0, none⟩) n2 bs) (h1 : n1 ≤ 1048576) (h2 : n2 ≤ 1048576) :
    Calls Try.prog 12 #[.agg #[.int .i64 R, .slice (some ⟨g1, 0, none⟩) n1 c1], .slice (some ⟨g2, 0, none⟩) n2 c2, .int .i64 h] w (FillGives (fillB R xs bs h) R n1 n2 xs bs h w) := by
  by_cases hno : balanced R xs = true ∧ (bedsOk bs && decide ((n2 : Int) = R)) = true ∧ 0 ≤ h ∧ h ≤ 2000000
  · obtain ⟨j1, j2, j3, j4⟩ := hno
    simp only [Bool.and_eq_true, decide_eq_true_eq] at j2
    have e : fillB R xs bs h = stOk R xs (fillMs bs h xs) (List.replicate n1 0) bs := by
      unfold fillB
      rw [j1, decide_eq_true (by rw [hb.len]; exact j2.2), decide_eq_true ⟨j3, j4⟩, hr.len]
      simp
    rw [e]
    exact fill_main R g1 g2 n1 n2 c1 c2 xs bs h w hr hb h1 h2 j1 j2.1 j2.2 j3 j4 _ rfl
  · have e : fillB R xs bs h = false := by
      cases hf : fillB R xs bs h with
      | false => rfl
      | true =>
        unfold fillB at hf
        simp only [Bool.and_eq_true, decide_eq_true_eq] at hf
        have hbe := (stOk_parts hf.2.2.2).2.2.2.1
        exact absurd ⟨hf.1, by rw [hbe, decide_eq_true (by rw [← hb.len]; exact hf.2.1)]; rfl, hf.2.2.1.1, hf.2.2.1.2⟩ hno
    rw [e]
    exact (fill_early R g1 g2 n1 n2 c1 c2 xs bs h w hr hb h1 h2 hno).mono fun _ _ g => FillGives.no g
end Go.Proofs.Ytcdkhapepabpkaa.State
