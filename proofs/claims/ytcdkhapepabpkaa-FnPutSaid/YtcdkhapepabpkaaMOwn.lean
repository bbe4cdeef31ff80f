/- Meshes: the exact laws' toMesh with the row that it makes, owned; what the exact law of Balance holds between its calls.
   Conditions: at most 2^20 leaves. -/
import Derived.Test.YtcdkhapepabpkaaMAns
import Derived.Test.YtcdkhapepabpkaaMCopy
set_option maxRecDepth 100000
namespace Go.Proofs.Ytcdkhapepabpkaa.Mesh
open Go.ChangeShapes Go.WideShapes Go.ChangeAt Go.RowKit Go.Proofs.Ytcdkhapepabpkaa.Cell

theorem Filling.own {w : World} {base g n : Nat} {xs : List C3} (h : Filling w g n xs) (hl : xs.length = n) (hb : base ≤ g) (hn : n ≤ 1048576) : w.ownsRow base 36 3 (.slice (some ⟨g, 0, none⟩) n n) n (flatC xs) := by
  obtain ⟨cur, hg, hs, hc⟩ := h.blk
  refine ⟨by rw [flatC_len, hl], .inr ⟨g, n, cur, rfl, hb, hg, Nat.le_refl _, by unfold maxLen; omega, hs, ?_⟩⟩
  rw [List.take_of_length_le (by simp [hs])]
  refine List.ext_getElem? fun j => ?_
  by_cases hj : j < n * 3
  · obtain ⟨u, hu⟩ : ∃ u, (flatC xs)[j]? = some u := ⟨_, List.getElem?_eq_getElem (by rw [flatC_len, hl]; exact hj)⟩
    obtain ⟨k, x, hx, hcase⟩ := flatC_get hu
    obtain ⟨h0, h1, h2⟩ := hc k x hx
    rw [hu]
    rcases hcase with ⟨rfl, rfl⟩ | ⟨rfl, rfl⟩ | ⟨rfl, rfl⟩
    · simpa using h0
    · simpa using h1
    · simpa using h2
  · rw [List.getElem?_eq_none (by simp [hs]; omega), List.getElem?_eq_none (by rw [flatC_len, hl]; omega)]

set_option maxHeartbeats 2000000 in
theorem toS_own (a : Option Addr) (n cap : Nat) (xs : List C3) (w : World) (hx : ReadsAt w a n xs) (hn : n ≤ 1048576) :
    Calls Try.prog 56 #[.slice a n cap] w fun e w' => ∃ g, e = .returned (.slice (some ⟨g, 0, none⟩) n n) ∧ w'.ownsRow w.heap.size 36 3 (.slice (some ⟨g, 0, none⟩) n n) n (flatC xs) ∧ w.grownBy w' none ∧ w.heap.size ≤ g := by
  have hni : (n : Int) ≤ 1048576 := by omega
  obtain ⟨Z, hz, hmk⟩ := make_is w n hn
  have HZ := Lib.hid hz; clear hz
  have HN := Lib.hid hn; clear hn
  have HA := Lib.hid hx; clear hx
  go_enter Try.func56, Try.ntmps56
  go_wp2_with fail
  go_loopw [4] (fun i wr => ∃ k : Nat, (k : Int) ≤ n ∧ i = .int .i64 k ∧ Hid (Filling wr w.heap.size n (xs.take k)) ∧ Hid (w.grownBy wr none)) (fun i _ => n - (intOf i).toNat)
  case atStart => exact ⟨0, by omega, rfl, Lib.hid ⟨⟨Z, heap_alloc_new _ _, HZ.out, by simp⟩⟩, Lib.hid (g_alloc (grown_refl _) _)⟩
  case round =>
    obtain ⟨k, hk, rfl, HF, HG⟩ := hrel
    by_cases hlt : (k : Int) < n
    · have hkn : Hid (k < n) := Lib.hid (by omega)
      obtain ⟨r, l, i, hx⟩ := get_of_lt HA.out.len (k := k) hkn.out
      obtain ⟨b, o, rfl, d0, d1, d2⟩ := (HA.out.on HG.out).at_ k _ hx
      have HX := Lib.hid hx; clear hx
      dsimp only at d0 d1 d2
      go_wp2_with (first
        | (go_at_call 72; (with_reducible refine (Cell.toId_g r l i _).mono ?_); rintro e w' ⟨rfl, hg⟩; have HF' := Lib.hid (HF.out.on hg); have HG' := Lib.hid (grown_trans HG.out hg); clear hg; obtain ⟨⟨z0, z1, z2, o0, o1, o2⟩, q0, q1, q2⟩ := HF'.out.old hkn.out))
      go_roundw
      case rel => exact ⟨k + 1, by omega, by go_num, Lib.hid (HF'.out.put HX.out hkn.out), Lib.hid (g_set (g_set (g_set HG'.out _ _ _ (Nat.le_refl _)) _ _ _ (Nat.le_refl _)) _ _ _ (Nat.le_refl _))⟩
      case measure => simp [intOf]; omega
    · go_wp2_with fail
      go_ret
      obtain rfl : k = n := by omega
      exact ⟨_, rfl, (by have := HF.out; rw [← HA.out.len, List.take_length] at this; rw [HA.out.len] at this; exact this.own HA.out.len (Nat.le_refl _) HN.out), HG.out, Nat.le_refl _⟩

/-- What a law hands on: a mesh of its own, its row owned. -/
def MadeOwn (w : World) (R : Int) (n : Nat) (xs : List C3) (e : Ending) (w' : World) : Prop := ∃ g, e = .returned (.agg #[.int .i64 R, .slice (some ⟨g, 0, none⟩) n n]) ∧ w'.ownsRow w.heap.size 36 3 (.slice (some ⟨g, 0, none⟩) n n) n (flatC xs) ∧ w.grownBy w' none
theorem own_set {w : World} {base g n : Nat} {xs : List Value} (h : w.ownsRow base 36 3 (.slice (some ⟨g, 0, none⟩) n n) n xs) (C j : Nat) (u : Value) (hne : C ≠ g) : (w.setCell ⟨C, j, none⟩ u).ownsRow base 36 3 (.slice (some ⟨g, 0, none⟩) n n) n xs :=
  h.kept (grownBy_setC w C j u) (.inr (by simp [Value.ownBlock]; omega))
theorem own_down {w : World} {base base' n : Nat} {v : Value} {xs : List Value} (h : w.ownsRow base 36 3 v n xs) (hb : base' ≤ base) : w.ownsRow base' 36 3 v n xs := by
  refine ⟨h.1, ?_⟩
  rcases h.2 with h0 | ⟨g, cap, cur, h1, h2, h3⟩
  · exact .inl h0
  · exact .inr ⟨g, cap, cur, h1, Nat.le_trans hb h2, h3⟩

set_option maxHeartbeats 2000000 in
theorem to_own (R : Int) (a : Option Addr) (n cap : Nat) (xs : List C3) (w : World) (hx : ReadsAt w a n xs) (hn : n ≤ 1048576) :
    Calls Try.prog 25 #[.agg #[.int .i64 R, .slice a n cap]] w (MadeOwn w R n xs) := by
  have HN := Lib.hid hn; clear hn
  have HA := Lib.hid hx; clear hx
  go_enter Try.func25, Try.ntmps25
  go_wp2_with (go_at_call 56; (with_reducible refine (toS_own a n cap xs _ (HA.out.on (g_alloc (g_alloc (g_alloc (grown_refl _) _) _) _)) HN.out).mono ?_); rintro e w' ⟨g, rfl, hr, hg, hge⟩; have hB1 := (hg.block (w.heap.size + 1) (by simp) (by simp)).trans (heap_mid _ _ _ _); have hB2 := (hg.block (w.heap.size + 1 + 1) (by simp) (by simp)).trans (heap_last _ _ _ _); have c10 : w'.cell? ⟨w.heap.size + 1, 0, none⟩ = some (.int .i64 0) := (by simp [World.cell?, hB1]); have c11 : w'.cell? ⟨w.heap.size + 1, 1, none⟩ = some (.slice none 0 0) := (by simp [World.cell?, hB1]); have f10 : w'.frozen? ⟨w.heap.size + 1, 0, none⟩ = false := (by simp [World.frozen?, hB1]); have f11 : w'.frozen? ⟨w.heap.size + 1, 1, none⟩ = false := (by simp [World.frozen?, hB1]); have c20 : w'.cell? ⟨w.heap.size + 1 + 1, 0, none⟩ = some (.int .i64 R) := (by simp [World.cell?, hB2]); have c21 : w'.cell? ⟨w.heap.size + 1 + 1, 1, none⟩ = some (.slice none 0 0) := (by simp [World.cell?, hB2]); have f21 : w'.frozen? ⟨w.heap.size + 1 + 1, 1, none⟩ = false := (by simp [World.frozen?, hB2]); have HB1 := Lib.hid hB1; have HG := Lib.hid hg; have HR := Lib.hid hr; have HGE := Lib.hid hge; clear hB1 hB2 hg hr hge)
  have hb : (((w'.setCell ⟨w.heap.size + 1 + 1, 1, none⟩ (.slice (some ⟨g, 0, none⟩) n n)).setCell ⟨w.heap.size + 1, 0, none⟩ (.int .i64 R)).setCell ⟨w.heap.size + 1, 1, none⟩ (.slice (some ⟨g, 0, none⟩) n n)).heap[w.heap.size + 1]? = some (.cells #[.int .i64 R, .slice (some ⟨g, 0, none⟩) n n] 26 (0, 0)) :=
    set2 ((heap_setCell_other _ ⟨w.heap.size + 1 + 1, 1, none⟩ _ _ (by simp)).trans HB1.out) _ _
  have hge := HGE.out
  simp at hge
  exact bodyPost_ret_by (results_cell_row (fn := Try.f25) rfl _ _ (w.heap.size + 1) _ _ (0, 0) _ rfl hb Try.underlying26 rfl (by kernel_rfl)) rfl
    ⟨g, rfl, own_set (own_set (own_set (own_down HR.out (by simp; omega)) _ _ _ (by omega)) _ _ _ (by omega)) _ _ _ (by omega), g_set (g_set (g_set (grown_trans (g_alloc (g_alloc (g_alloc (grown_refl _) _) _) _) HG.out) _ _ _ (by omega)) _ _ _ (by omega)) _ _ _ (by omega)⟩

/-- A law's own argument in its box. -/
def LBox (W : World) (B : Nat) (R : Int) (v : Value) : Prop := W.heap[B]? = some (.cells #[.int .i64 R, v] 44 (0, 0))
theorem LBox.c0 {W : World} {B : Nat} {R : Int} {v : Value} (h : LBox W B R v) : W.cell? ⟨B, 0, none⟩ = some (.int .i64 R) := by simp [World.cell?, show W.heap[B]? = _ from h]
theorem LBox.c1 {W : World} {B : Nat} {R : Int} {v : Value} (h : LBox W B R v) : W.cell? ⟨B, 1, none⟩ = some v := by simp [World.cell?, show W.heap[B]? = _ from h]
theorem LBox.kept {W W' : World} {B : Nat} {R : Int} {v : Value} {row : Option Nat} (h : LBox W B R v) (hg : W.grownBy W' row) (hne : some B ≠ row) : LBox W' B R v := (hg.block B (Array.getElem?_eq_some_iff.1 h).1 hne).trans h
theorem LBox.not_row {W : World} {B : Nat} {R : Int} {v : Value} (h : LBox W B R v) {base k : Nat} {u : Value} {xs : List Value} (hr : W.ownsRow base 36 3 u k xs) : some B ≠ u.ownBlock := by
  rcases hr.2 with ⟨rfl, _⟩ | ⟨g, cap, cur, rfl, _, hgb, _⟩
  · simp [Value.ownBlock]
  · intro e'
    obtain rfl : B = g := by simpa [Value.ownBlock] using e'
    have := (show W.heap[B]? = _ from h).symm.trans hgb
    simp at this

/-- What the law holds: its argument's box; the boxes of the model's answer, of the argument handed on, of the program's answer; their rows. -/
structure ESt (w W : World) (R : Int) (u vP vX vG : Value) (B4 B5 B6 nP nX nG : Nat) (ps xs gs : List Value) : Prop where
  m : LBox W w.heap.size R u
  b4 : MBox W B4 R vP
  b5 : MBox W B5 R vX
  b6 : MBox W B6 R vG
  rP : W.ownsRow w.heap.size 36 3 vP nP ps
  rX : W.ownsRow w.heap.size 36 3 vX nX xs
  rG : W.ownsRow w.heap.size 36 3 vG nG gs
  pX : vP.ownBlock = none ∨ vP.ownBlock ≠ vX.ownBlock
  gX : vG.ownBlock = none ∨ vG.ownBlock ≠ vX.ownBlock
  pG : vP.ownBlock = none ∨ vP.ownBlock ≠ vG.ownBlock
  xG : vX.ownBlock = none ∨ vX.ownBlock ≠ vG.ownBlock
  gr : w.grownBy W none
section
variable {w W W' : World} {R : Int} {u vP vX vG : Value} {B4 B5 B6 nP nX nG : Nat} {ps xs gs : List Value}
theorem own_grown {base n : Nat} {v : Value} {ys : List Value} (h : W.ownsRow base 36 3 v n ys) (hg : W.grownBy W' none) : W'.ownsRow base 36 3 v n ys := h.kept hg (by cases v.ownBlock <;> simp)
theorem ESt.on (h : ESt w W R u vP vX vG B4 B5 B6 nP nX nG ps xs gs) (hg : W.grownBy W' none) : ESt w W' R u vP vX vG B4 B5 B6 nP nX nG ps xs gs :=
  ⟨h.m.kept hg (by simp), h.b4.kept hg (by simp), h.b5.kept hg (by simp), h.b6.kept hg (by simp), own_grown h.rP hg, own_grown h.rX hg, own_grown h.rG hg, h.pX, h.gX, h.pG, h.xG, grown_trans h.gr hg⟩
theorem grown_own {a b c : World} {n : Nat} {v : Value} {ys : List Value} (h : a.grownBy b none) (k : b.grownBy c v.ownBlock) (ho : b.ownsRow a.heap.size 36 3 v n ys) : a.grownBy c none :=
  ⟨k.os.trans h.os, k.tape.trans h.tape, k.output.trans h.output, Nat.le_trans h.size k.size, fun i hi _ => (k.block i (Nat.lt_of_lt_of_le hi h.size) (fun e => by have := (ho.lt i e.symm).1; omega)).trans (h.block i hi (by simp))⟩
theorem ESt.markX (h : ESt w W R u vP vX vG B4 B5 B6 nP nX nG ps xs gs) {ys : List Value} (hg : W.grownBy W' vX.ownBlock) (ho : W'.ownsRow w.heap.size 36 3 vX nX ys) : ESt w W' R u vP vX vG B4 B5 B6 nP nX nG ps ys gs :=
  ⟨h.m.kept hg (h.m.not_row h.rX), h.b4.kept hg (h.b4.not_row h.rX), h.b5.kept hg (h.b5.not_row h.rX), h.b6.kept hg (h.b6.not_row h.rX), h.rP.kept hg h.pX, ho, h.rG.kept hg h.gX, h.pX, h.gX, h.pG, h.xG, grown_own h.gr hg h.rX⟩
theorem ESt.markG (h : ESt w W R u vP vX vG B4 B5 B6 nP nX nG ps xs gs) {ys : List Value} (hg : W.grownBy W' vG.ownBlock) (ho : W'.ownsRow w.heap.size 36 3 vG nG ys) : ESt w W' R u vP vX vG B4 B5 B6 nP nX nG ps xs ys :=
  ⟨h.m.kept hg (h.m.not_row h.rG), h.b4.kept hg (h.b4.not_row h.rG), h.b5.kept hg (h.b5.not_row h.rG), h.b6.kept hg (h.b6.not_row h.rG), h.rP.kept hg h.pG, h.rX.kept hg h.xG, ho, h.pX, h.gX, h.pG, h.xG, grown_own h.gr hg h.rG⟩
end
theorem apart_new {w w' : World} {B1 B2 n1 n2 : Nat} {v1 v2 : Value} {xs ys : List Value} (h1 : w.ownsRow B1 36 3 v1 n1 xs) (h2 : w'.ownsRow B2 36 3 v2 n2 ys) (hle : w.heap.size ≤ B2) :
    (v1.ownBlock = none ∨ v1.ownBlock ≠ v2.ownBlock) ∧ (v2.ownBlock = none ∨ v2.ownBlock ≠ v1.ownBlock) := by
  constructor
  · cases hb : v1.ownBlock with
    | none => exact .inl rfl
    | some k => exact .inr fun e => by have := (h1.lt k hb).2; have := (h2.lt k e.symm).1; omega
  · cases hb : v2.ownBlock with
    | none => exact .inl rfl
    | some k => exact .inr fun e => by have := (h2.lt k hb).1; have := (h1.lt k e.symm).2; omega
end Go.Proofs.Ytcdkhapepabpkaa.Mesh
