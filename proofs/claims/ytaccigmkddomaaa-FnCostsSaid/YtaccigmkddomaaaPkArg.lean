/- Meshes: what the exact laws call: szMesh, eqMesh, toMesh and their parts, as contracts. Meshes: the exact laws' helpers markMesh and heldMesh, as contracts: a row of the call's own is marked; the marks are held. Meshes: an exact law's own argument, a slice of cells that came in, opened: what it holds. Meshes: what a function that makes a mesh answers, as the exact laws want it. Plain lemmas.
   Conditions: as each says. -/
import Derived.Test.YtaccigmkddomaaaPkMesh
import Derived.Deep.RegionHeld3
import Derived.Deep.Slices
import Derived.Deep.Strs
import Derived.ChangeSame
import Derived.Lib.SmallJoins
import Derived.Deep.RegionWith
import Derived.Deep.CutRange
import Derived.Deep.DeepCutAuto
set_option maxRecDepth 100000
namespace Go.Proofs.Ytaccigmkddomaaa.Mesh
open Go.ChangeShapes Go.WideShapes Go.ChangeAt Go.RowKit Go.Proofs.Ytaccigmkddomaaa.Cell

theorem szS_is (a : Option Addr) (n cap : Nat) (hn : n ≤ maxLen) (w : World) :
    Calls Try.prog 56 #[.slice a n cap, .int .i64 1048576] w fun e w' => e = .returned (.int .i64 (if n ≤ 1048576 then 1048576 - n else -1)) ∧ w' = w := by
  have hm : n ≤ 9223372036854775807 := by simpa [maxLen] using hn
  have hmi : (n : Int) ≤ 9223372036854775807 := by omega
  clear hm hn
  by_cases h : n ≤ 1048576
  · have hi : (n : Int) ≤ 1048576 := by omega
    rw [if_pos h]
    clear h
    go_enter Try.func56, Try.ntmps56
    go_wp2
    go_ret
    exact ⟨rfl, rfl⟩
  · have hi : 1048576 < (n : Int) := by omega
    rw [if_neg h]
    clear h
    go_enter Try.func56, Try.ntmps56
    go_wp2
    go_ret
    exact ⟨rfl, rfl⟩

theorem sz_is (R : Int) (a : Option Addr) (n cap : Nat) (hn : n ≤ maxLen) (w : World) :
    Calls Try.prog 32 #[.agg #[.int .i64 R, .slice a n cap], .int .i64 1048576] w fun e w' => e = .returned (.int .i64 (if n ≤ 1048576 then 1048576 - n else -1)) ∧ w.grownBy w' none := by
  have HN := Lib.hid hn; clear hn
  by_cases h : n ≤ 1048576
  · have hi : (n : Int) ≤ 1048576 := by omega
    rw [if_pos h]
    have HH := Lib.hid h; clear h
    go_enter Try.func32, Try.ntmps32
    go_wp2_with (go_at_call 56; (with_reducible refine (szS_is a n cap HN.out _).mono ?_); rw [if_pos HH.out]; rintro e w' ⟨rfl, rfl⟩)
    go_ret
    exact ⟨rfl, g_alloc (grown_refl _) _⟩
  · rw [if_neg h]
    have HH := Lib.hid h; clear h
    go_enter Try.func32, Try.ntmps32
    go_wp2_with (go_at_call 56; (with_reducible refine (szS_is a n cap HN.out _).mono ?_); rw [if_neg HH.out]; rintro e w' ⟨rfl, rfl⟩)
    go_ret
    exact ⟨rfl, g_alloc (grown_refl _) _⟩

theorem g_drew {w a : World} (h : w.grownBy a none) : w.grownBy a.drew none := ⟨h.os, h.tape, h.output, h.size, h.block⟩

set_option maxHeartbeats 2000000 in
theorem eqS_is (a b : Option Addr) (n m c1 c2 : Nat) (xs ys : List C3) (w : World) (hx : Reads w a n xs) (hy : Reads w b m ys) (hn : n ≤ 1048576) (hm : m ≤ 1048576) (he : xs = ys) :
    Calls Try.prog 60 #[.slice a n c1, .slice b m c2] w fun e w' => e = .returned (.bool true) ∧ w.grownBy w' none := by
  subst he
  obtain rfl : n = m := hx.len.symm.trans hy.len
  have hni : (n : Int) ≤ 1048576 := by omega
  clear hn hm
  have HA := Lib.hid hx; clear hx
  have HB := Lib.hid hy; clear hy
  go_enter Try.func60, Try.ntmps60
  go_wp2_with fail
  go_loopw [5] (fun i wr => ∃ k : Nat, (k : Int) ≤ n ∧ i = .int .i64 k ∧ Hid (Reads wr a n xs) ∧ Hid (Reads wr b n xs) ∧ Hid (w.grownBy wr none)) (fun i _ => n - (intOf i).toNat)
  case atStart => exact ⟨0, by omega, rfl, HA, HB, Lib.hid (grown_refl w)⟩
  case round =>
    obtain ⟨k, hk, rfl, HA, HB, HG⟩ := hrel
    by_cases hlt : (k : Int) < n
    · obtain ⟨r, l, i, hx⟩ := get_of_lt HA.out.len (k := k) (by omega)
      obtain ⟨g1, rfl, -, d0, d1, d2⟩ := HA.out.at_ k _ hx
      obtain ⟨g2, rfl, -, f0, f1, f2⟩ := HB.out.at_ k _ hx
      clear hx
      dsimp only at d0 d1 d2 f0 f1 f2
      go_wp2_with fail
      have ra := HA.out; have rb := HB.out; have hg := HG.out
      clear HA HB HG
      have q : decide (r = r ∧ l = l ∧ i = i) = true := by simp
      go_region_held3 (fun w' => w'.cell? ⟨g1, k * 3, none⟩ = some (.int .i64 r) ∧ w'.cell? ⟨g1, k * 3 + 1, none⟩ = some (.int .i64 l) ∧ w'.cell? ⟨g1, k * 3 + 2, none⟩ = some (.int .i64 i)
          ∧ w'.cell? ⟨g2, k * 3, none⟩ = some (.int .i64 r) ∧ w'.cell? ⟨g2, k * 3 + 1, none⟩ = some (.int .i64 l) ∧ w'.cell? ⟨g2, k * 3 + 2, none⟩ = some (.int .i64 i) ∧ w.grownBy w' none ∧ Reads w' (some ⟨g1, 0, none⟩) n xs ∧ Reads w' (some ⟨g2, 0, none⟩) n xs)
        ((go_split_ands; refine ⟨?_, ?_, ?_, ?_, ?_, ?_, ?_, ?_, ?_⟩ <;> first | assumption | exact hgc.cell (by assumption) (by simp) | exact Cell.grown_trans (by assumption) hgc | exact g_drew (by assumption) | exact Reads.on (by assumption) hgc | exact Reads.on (by assumption) (g_drew (grown_refl _))))
        (first
          | (go_at_call 84; ((with_reducible refine (Cell.eq_g r l i r l i _).mono ?_); rw [q]; rintro e w'' ⟨rfl, hgc⟩)))
      go_split_ands
      go_wp2_with fail
      go_roundw
      case rel => exact ⟨k + 1, by omega, by go_num, Lib.hid (by assumption), Lib.hid (by assumption), Lib.hid (by assumption)⟩
      case measure => simp [intOf]; omega
    · go_wp2_with fail
      go_ret
      exact ⟨rfl, HG.out⟩

theorem eq_is (R : Int) (a b : Option Addr) (n m c1 c2 : Nat) (xs : List C3) (w : World) (hx : Reads w a n xs) (hy : Reads w b m xs) (hn : n ≤ 1048576) (hm : m ≤ 1048576) :
    Calls Try.prog 35 #[.agg #[.int .i64 R, .slice a n c1], .agg #[.int .i64 R, .slice b m c2]] w fun e w' => e = .returned (.bool true) ∧ w.grownBy w' none := by
  have HA := Lib.hid hx; clear hx
  have HB := Lib.hid hy; clear hy
  have HN := Lib.hid hn; clear hn
  have HM := Lib.hid hm; clear hm
  go_enter Try.func35, Try.ntmps35
  go_wp2_with (go_at_call 60; (with_reducible refine (eqS_is a b n m c1 c2 xs xs _ ((HA.out.past _).past _) ((HB.out.past _).past _) HN.out HM.out rfl).mono ?_); rintro e w' ⟨rfl, hg⟩; have HG := Lib.hid hg; clear hg)
  go_ret
  exact ⟨rfl, grown_trans (g_alloc (g_alloc (grown_refl _) _) _) HG.out⟩

/-- The law's own cells: what the argument holds. -/
structure ReadsAt (w : World) (a : Option Addr) (n : Nat) (xs : List C3) : Prop where
  len : xs.length = n
  at_ : ∀ k x, xs[k]? = some x → ∃ b o, a = some ⟨b, o, none⟩ ∧ w.cell? ⟨b, o + k * 3, none⟩ = some (.int .i64 x.1) ∧ w.cell? ⟨b, o + k * 3 + 1, none⟩ = some (.int .i64 x.2.1) ∧ w.cell? ⟨b, o + k * 3 + 2, none⟩ = some (.int .i64 x.2.2)
theorem ReadsAt.on {w w' : World} {a : Option Addr} {n : Nat} {xs : List C3} (h : ReadsAt w a n xs) (hg : w.grownBy w' none) : ReadsAt w' a n xs :=
  ⟨h.len, fun k x hk => let ⟨b, o, ha, h0, h1, h2⟩ := h.at_ k x hk; ⟨b, o, ha, hg.cell h0 (by simp), hg.cell h1 (by simp), hg.cell h2 (by simp)⟩⟩

/-- A row that is being filled: the cells that stand. -/
structure Filling (w : World) (g n : Nat) (xs : List C3) : Prop where
  blk : ∃ cur, w.heap[g]? = some (.cells cur 35 (0, 0)) ∧ cur.size = n * 3 ∧ ∀ k x, xs[k]? = some x → cur[k * 3]? = some (.int .i64 x.1) ∧ cur[k * 3 + 1]? = some (.int .i64 x.2.1) ∧ cur[k * 3 + 2]? = some (.int .i64 x.2.2)
theorem Filling.put {w : World} {g n k : Nat} {xs : List C3} {r l i : Int} (h : Filling w g n (xs.take k)) (hx : xs[k]? = some (r, l, i)) (hk : k < n) :
    Filling (((w.setCell ⟨g, k * 3, none⟩ (.int .i64 r)).setCell ⟨g, k * 3 + 1, none⟩ (.int .i64 l)).setCell ⟨g, k * 3 + 2, none⟩ (.int .i64 i)) g n (xs.take (k + 1)) := by
  obtain ⟨cur, hb, hs, hc⟩ := h.blk
  refine ⟨_, heap_setCell_same _ _ _ _ _ _ (heap_setCell_same _ _ _ _ _ _ (heap_setCell_same _ _ _ _ _ _ hb)), by simp [hs], ?_⟩
  intro j x hj
  rw [take_snoc hx] at hj
  by_cases hjk : j < k
  · have hlen : (xs.take k).length = k := by
      have := (List.getElem?_eq_some_iff.1 hx).1
      simp; omega
    rw [List.getElem?_append_left (by omega)] at hj
    obtain ⟨h0, h1, h2⟩ := hc j x hj
    refine ⟨?_, ?_, ?_⟩
    · rw [Array.getElem?_setIfInBounds_ne (by omega), Array.getElem?_setIfInBounds_ne (by omega), Array.getElem?_setIfInBounds_ne (by omega), h0]
    · rw [Array.getElem?_setIfInBounds_ne (by omega), Array.getElem?_setIfInBounds_ne (by omega), Array.getElem?_setIfInBounds_ne (by omega), h1]
    · rw [Array.getElem?_setIfInBounds_ne (by omega), Array.getElem?_setIfInBounds_ne (by omega), Array.getElem?_setIfInBounds_ne (by omega), h2]
  · have hlen : (xs.take k).length = k := by
      have := (List.getElem?_eq_some_iff.1 hx).1
      simp; omega
    have hjl := (List.getElem?_eq_some_iff.1 hj).1
    rw [List.length_append, hlen] at hjl
    simp at hjl
    obtain rfl : j = k := by omega
    rw [List.getElem?_append_right (by omega), hlen] at hj
    simp at hj
    subst hj
    refine ⟨?_, ?_, ?_⟩
    · rw [Array.getElem?_setIfInBounds_ne (by omega), Array.getElem?_setIfInBounds_ne (by omega), Array.getElem?_setIfInBounds_self_of_lt (by omega)]
    · rw [Array.getElem?_setIfInBounds_ne (by omega), Array.getElem?_setIfInBounds_self_of_lt (by simp; omega)]
    · rw [Array.getElem?_setIfInBounds_self_of_lt (by simp; omega)]
theorem Filling.on {w w' : World} {g n : Nat} {xs : List C3} (h : Filling w g n xs) (hg : w.grownBy w' none) : Filling w' g n xs :=
  let ⟨cur, hb, hs, hc⟩ := h.blk
  ⟨⟨cur, (hg.block g (lt_of_block hb) (by simp)).trans hb, hs, hc⟩⟩
theorem lt_of_get {cur : Array Value} {j : Nat} (h : j < cur.size) : ∃ v, cur[j]? = some v := ⟨_, Array.getElem?_eq_getElem h⟩
/-- A cell of it, before it is filled. -/
theorem Filling.old {w : World} {g n k : Nat} {xs : List C3} (h : Filling w g n xs) (hk : k < n) :
    (∃ z0 z1 z2, w.cell? ⟨g, k * 3, none⟩ = some z0 ∧ w.cell? ⟨g, k * 3 + 1, none⟩ = some z1 ∧ w.cell? ⟨g, k * 3 + 2, none⟩ = some z2) ∧ w.frozen? ⟨g, k * 3, none⟩ = false ∧ w.frozen? ⟨g, k * 3 + 1, none⟩ = false ∧ w.frozen? ⟨g, k * 3 + 2, none⟩ = false := by
  obtain ⟨cur, hb, hs, hc⟩ := h.blk
  obtain ⟨z0, h0⟩ := lt_of_get (cur := cur) (j := k * 3) (by omega)
  obtain ⟨z1, h1⟩ := lt_of_get (cur := cur) (j := k * 3 + 1) (by omega)
  obtain ⟨z2, h2⟩ := lt_of_get (cur := cur) (j := k * 3 + 2) (by omega)
  refine ⟨⟨z0, z1, z2, (cell_of_row w g _ cur _ (0, 0) hb).trans h0, (cell_of_row w g _ cur _ (0, 0) hb).trans h1, (cell_of_row w g _ cur _ (0, 0) hb).trans h2⟩, ?_, ?_, ?_⟩ <;> simp [World.frozen?, hb]
theorem Filling.reads {w : World} {g n : Nat} {xs : List C3} (h : Filling w g n xs) (hl : xs.length = n) : Reads w (some ⟨g, 0, none⟩) n xs := by
  obtain ⟨cur, hb, hs, hc⟩ := h.blk
  refine ⟨hl, fun k x hk => ⟨g, rfl, lt_of_block hb, ?_⟩⟩
  obtain ⟨h0, h1, h2⟩ := hc k x hk
  exact ⟨(cell_of_row w g _ cur _ (0, 0) hb).trans h0, (cell_of_row w g _ cur _ (0, 0) hb).trans h1, (cell_of_row w g _ cur _ (0, 0) hb).trans h2⟩

theorem infoId : (Try.prog.info? 35).map (fun i => (i.zero, i.size, i.bytes)) = some (some (.agg #[.int .i64 0, .int .i64 0, .int .i64 0]), 3, 24) := by kernel_rfl

theorem make_is (w : World) (n : Nat) (hn : n ≤ 1048576) : ∃ Z, Z.size = n * 3 ∧ (Instr.makeSlice 24 (.int .i64 (n : Int)) (.int .i64 (n : Int))).run Try.prog w = .ok (.slice (some ⟨w.heap.size, 0, none⟩) n n) (w.alloc (.cells Z 35)) := by
  obtain ⟨i0, hi, hz0, hz1, hz2⟩ := info_parts infoId
  refine ⟨_, ?_, run_make w _ _ i0 _ Try.underlying24 hi hz0 .i64 .i64 (n : Int) (n : Int) (by omega) (by omega) (by rw [hz2]; omega) (by omega)⟩
  rw [hz1]
  simp [size_madeCells]

set_option maxHeartbeats 2000000 in
theorem toS_is (a : Option Addr) (n cap : Nat) (xs : List C3) (w : World) (hx : ReadsAt w a n xs) (hn : n ≤ 1048576) :
    Calls Try.prog 59 #[.slice a n cap] w fun e w' => ∃ g, e = .returned (.slice (some ⟨g, 0, none⟩) n n) ∧ Reads w' (some ⟨g, 0, none⟩) n xs ∧ w.grownBy w' none ∧ w.heap.size ≤ g := by
  have hni : (n : Int) ≤ 1048576 := by omega
  obtain ⟨Z, hz, hmk⟩ := make_is w n hn
  have HZ := Lib.hid hz; clear hz
  have HN := Lib.hid hn; clear hn
  have HA := Lib.hid hx; clear hx
  go_enter Try.func59, Try.ntmps59
  go_wp2_with fail
  go_loopw [4] (fun i wr => ∃ k : Nat, (k : Int) ≤ n ∧ i = .int .i64 k ∧ Hid (Filling wr w.heap.size n (xs.take k)) ∧ Hid (w.grownBy wr none)) (fun i _ => n - (intOf i).toNat)
  case atStart => exact ⟨0, by omega, rfl, Lib.hid ⟨⟨Z, heap_alloc_new _ _, HZ.out, by simp⟩⟩, Lib.hid (g_alloc (grown_refl _) _)⟩
  case round =>
    obtain ⟨k, hk, rfl, HF, HG⟩ := hrel
    by_cases hlt : (k : Int) < n
    · have hkn : Hid (k < n) := Lib.hid (by omega)
      obtain ⟨r, l, i, hx⟩ := get_of_lt HA.out.len (k := k) hkn.out
      obtain ⟨b, o, rfl, d0, d1, d2⟩ := (HA.out.on HG.out).at_ k _ hx
      have HX := Lib.hid hx; clear hx
      dsimp only at d0 d1 d2
      go_wp2_with (first
        | (go_at_call 83; (with_reducible refine (Cell.toId_g r l i _).mono ?_); rintro e w' ⟨rfl, hg⟩; have HF' := Lib.hid (HF.out.on hg); have HG' := Lib.hid (grown_trans HG.out hg); clear hg; obtain ⟨⟨z0, z1, z2, o0, o1, o2⟩, q0, q1, q2⟩ := HF'.out.old hkn.out))
      go_roundw
      case rel => exact ⟨k + 1, by omega, by go_num, Lib.hid (HF'.out.put HX.out hkn.out), Lib.hid (g_set (g_set (g_set HG'.out _ _ _ (Nat.le_refl _)) _ _ _ (Nat.le_refl _)) _ _ _ (Nat.le_refl _))⟩
      case measure => simp [intOf]; omega
    · go_wp2_with fail
      go_ret
      obtain rfl : k = n := by omega
      exact ⟨_, rfl, (by have := HF.out; rw [← HA.out.len, List.take_length] at this; rw [HA.out.len] at this; exact this.reads HA.out.len), HG.out, Nat.le_refl _⟩

/-- What a law hands on: a mesh of its own. -/
def Made (w : World) (R : Int) (n : Nat) (xs : List C3) (e : Ending) (w' : World) : Prop := ∃ g, e = .returned (.agg #[.int .i64 R, .slice (some ⟨g, 0, none⟩) n n]) ∧ Reads w' (some ⟨g, 0, none⟩) n xs ∧ w.grownBy w' none

theorem Reads.set {w : World} {g n : Nat} {xs : List C3} (h : Reads w (some ⟨g, 0, none⟩) n xs) (C j : Nat) (u : Value) (hne : C ≠ g) : Reads (w.setCell ⟨C, j, none⟩ u) (some ⟨g, 0, none⟩) n xs :=
  ⟨h.len, fun k x hk => by
    obtain ⟨g', hg, hl, h0, h1, h2⟩ := h.at_ k x hk
    cases hg
    exact ⟨g, rfl, by simpa using hl, (World.cell?_setCell_other _ _ _ _ (fun e => hne (congrArg Addr.block e))).trans h0, (World.cell?_setCell_other _ _ _ _ (fun e => hne (congrArg Addr.block e))).trans h1, (World.cell?_setCell_other _ _ _ _ (fun e => hne (congrArg Addr.block e))).trans h2⟩⟩
theorem set2 {w : World} {C : Nat} {s u : Value} {t : TypeId} (hb : w.heap[C]? = some (.cells #[s, u] t (0, 0))) (x y : Value) :
    ((w.setCell ⟨C, 0, none⟩ x).setCell ⟨C, 1, none⟩ y).heap[C]? = some (.cells #[x, y] t (0, 0)) := by
  have h0 : (w.setCell ⟨C, 0, none⟩ x).heap[C]? = some (.cells #[x, u] t (0, 0)) := by rw [heap_setCell_same w C 0 _ t x hb]; rfl
  rw [heap_setCell_same _ C 1 _ t y h0]; rfl
theorem heap_mid (w : World) (o o' o'' : Obj) : (((w.alloc o).alloc o').alloc o'').heap[w.heap.size + 1]? = some o' := by
  refine (Below.heap_alloc _ _ _ (by simp)).trans ?_
  have := heap_alloc_new (w.alloc o) o'
  simpa using this
theorem heap_last (w : World) (o o' o'' : Obj) : (((w.alloc o).alloc o').alloc o'').heap[w.heap.size + 1 + 1]? = some o'' := by
  have := heap_alloc_new ((w.alloc o).alloc o') o''
  simpa using this

set_option maxHeartbeats 2000000 in
theorem to_is (R : Int) (a : Option Addr) (n cap : Nat) (xs : List C3) (w : World) (hx : ReadsAt w a n xs) (hn : n ≤ 1048576) :
    Calls Try.prog 34 #[.agg #[.int .i64 R, .slice a n cap]] w (Made w R n xs) := by
  have HN := Lib.hid hn; clear hn
  have HA := Lib.hid hx; clear hx
  go_enter Try.func34, Try.ntmps34
  go_wp2_with (go_at_call 59; (with_reducible refine (toS_is a n cap xs _ (HA.out.on (g_alloc (g_alloc (g_alloc (grown_refl _) _) _) _)) HN.out).mono ?_); rintro e w' ⟨g, rfl, hr, hg, hge⟩; have hB1 := (hg.block (w.heap.size + 1) (by simp) (by simp)).trans (heap_mid _ _ _ _); have hB2 := (hg.block (w.heap.size + 1 + 1) (by simp) (by simp)).trans (heap_last _ _ _ _); have c10 : w'.cell? ⟨w.heap.size + 1, 0, none⟩ = some (.int .i64 0) := (by simp [World.cell?, hB1]); have c11 : w'.cell? ⟨w.heap.size + 1, 1, none⟩ = some (.slice none 0 0) := (by simp [World.cell?, hB1]); have f10 : w'.frozen? ⟨w.heap.size + 1, 0, none⟩ = false := (by simp [World.frozen?, hB1]); have f11 : w'.frozen? ⟨w.heap.size + 1, 1, none⟩ = false := (by simp [World.frozen?, hB1]); have c20 : w'.cell? ⟨w.heap.size + 1 + 1, 0, none⟩ = some (.int .i64 R) := (by simp [World.cell?, hB2]); have c21 : w'.cell? ⟨w.heap.size + 1 + 1, 1, none⟩ = some (.slice none 0 0) := (by simp [World.cell?, hB2]); have f21 : w'.frozen? ⟨w.heap.size + 1 + 1, 1, none⟩ = false := (by simp [World.frozen?, hB2]); have HB1 := Lib.hid hB1; have HG := Lib.hid hg; have HR := Lib.hid hr; have HGE := Lib.hid hge; clear hB1 hB2 hg hr hge)
  have hb : (((w'.setCell ⟨w.heap.size + 1 + 1, 1, none⟩ (.slice (some ⟨g, 0, none⟩) n n)).setCell ⟨w.heap.size + 1, 0, none⟩ (.int .i64 R)).setCell ⟨w.heap.size + 1, 1, none⟩ (.slice (some ⟨g, 0, none⟩) n n)).heap[w.heap.size + 1]? = some (.cells #[.int .i64 R, .slice (some ⟨g, 0, none⟩) n n] 26 (0, 0)) :=
    set2 ((heap_setCell_other _ ⟨w.heap.size + 1 + 1, 1, none⟩ _ _ (by simp)).trans HB1.out) _ _
  have hge := HGE.out
  simp at hge
  exact bodyPost_ret_by (results_cell_row (fn := Try.f34) rfl _ _ (w.heap.size + 1) _ _ (0, 0) _ rfl hb Try.underlying26 rfl (by kernel_rfl)) rfl
    ⟨g, rfl, ((HR.out.set _ _ _ (by omega)).set _ _ _ (by omega)).set _ _ _ (by omega), g_set (g_set (g_set (grown_trans (g_alloc (g_alloc (g_alloc (grown_refl _) _) _) _) HG.out) _ _ _ (by omega)) _ _ _ (by omega)) _ _ _ (by omega)⟩
end Go.Proofs.Ytaccigmkddomaaa.Mesh

namespace Go.Proofs.Ytaccigmkddomaaa.Mesh
open Go.ChangeShapes Go.WideShapes Go.ChangeAt Go.RowKit Go.Proofs.Ytaccigmkddomaaa.Cell

/-- The marks, as cells. -/
def marks (n : Nat) : List C3 := (List.range n).map fun k : Nat => ((1 + 3 * k : Nat), (2 + 3 * k : Nat), (3 + 3 * k : Nat))
theorem marks_len (n : Nat) : (marks n).length = n := by simp [marks]
theorem marks_at {n k : Nat} (h : k < n) : (marks n)[k]? = some (((1 + 3 * k : Nat) : Int), ((2 + 3 * k : Nat) : Int), ((3 + 3 * k : Nat) : Int)) := by simp [marks, h]
theorem marked_eq {n : Nat} {ys : List Value} (hl : ys.length = n * 3) (h : ∀ j, j < n * 3 → ys[j]? = some (.int .i64 (1 + j : Nat))) : ys = flatC (marks n) := by
  refine List.ext_getElem? fun j => ?_
  by_cases hj : j < n * 3
  · have hk : j / 3 < n := by omega
    obtain ⟨a, b, c⟩ := flatC_at (marks n) (j / 3) _ (marks_at hk)
    rw [h j hj]
    rcases (show j = j / 3 * 3 ∨ j = j / 3 * 3 + 1 ∨ j = j / 3 * 3 + 2 by omega) with e | e | e
    · rw [e, a, ← e]; congr 3; omega
    · rw [e, b, ← e]; congr 3; omega
    · rw [e, c, ← e]; congr 3; omega
  · rw [List.getElem?_eq_none (by omega), List.getElem?_eq_none (by rw [flatC_len, marks_len]; omega)]

/-- Marked so far. -/
def Upto (k : Nat) (ys : List Value) : Prop := ∀ j, j < k * 3 → ys[j]? = some (.int .i64 (1 + j : Nat))
theorem Upto.next {n k : Nat} {ys : List Value} (h : Upto k ys) (hl : ys.length = n * 3) (hk : k < n) :
    Upto (k + 1) (((ys.set (k * 3) (.int .i64 (1 + 3 * k : Nat))).set (k * 3 + 1) (.int .i64 (2 + 3 * k : Nat))).set (k * 3 + 2) (.int .i64 (3 + 3 * k : Nat))) := by
  intro j hj
  rcases (show j < k * 3 ∨ j = k * 3 ∨ j = k * 3 + 1 ∨ j = k * 3 + 2 by omega) with e | rfl | rfl | rfl
  · rw [List.getElem?_set_ne (by omega), List.getElem?_set_ne (by omega), List.getElem?_set_ne (by omega)]; exact h j e
  · rw [List.getElem?_set_ne (by omega), List.getElem?_set_ne (by omega), List.getElem?_set_self (by omega)]; congr 3; omega
  · rw [List.getElem?_set_ne (by omega), List.getElem?_set_self (by simp; omega)]; congr 3; omega
  · rw [List.getElem?_set_self (by simp; omega)]; congr 3; omega
theorem grown_on {a b c : World} {row : Option Nat} (h : a.grownBy b row) (k : b.grownBy c row) : a.grownBy c row :=
  ⟨k.os.trans h.os, k.tape.trans h.tape, k.output.trans h.output, Nat.le_trans h.size k.size, fun i hi hne => (k.block i (Nat.lt_of_lt_of_le hi h.size) hne).trans (h.block i hi hne)⟩
theorem own_at {w : World} {base : Nat} {a : Option Addr} {n cap : Nat} {xs : List Value} (h : w.ownsRow base 35 3 (.slice a n cap) n xs) (hn : 0 < n) :
    ∃ g, a = some ⟨g, 0, none⟩ ∧ (∀ j, j < n * 3 → w.cell? ⟨g, j, none⟩ = xs[j]?) ∧ ∀ j, w.frozen? ⟨g, j, none⟩ = false := by
  obtain ⟨g, cap', hv, hb, hlt⟩ := h.form hn
  simp only [Value.slice.injEq] at hv
  obtain ⟨rfl, _, rfl⟩ := hv
  exact ⟨g, rfl, fun j hj => h.cellAt j hj, fun j => h.frozenAt j⟩

def MarkPost (base n : Nat) (a : Option Addr) (cap : Nat) (w : World) (e : Ending) (w' : World) : Prop :=
  e = .returned (.int .i64 (1 + 3 * n : Nat)) ∧ w'.ownsRow base 35 3 (.slice a n cap) n (flatC (marks n)) ∧ w.grownBy w' (Value.slice a n cap).ownBlock

theorem some_of_lt {ys : List Value} {j : Nat} (h : j < ys.length) : ∃ z, ys[j]? = some z := ⟨_, List.getElem?_eq_getElem h⟩

set_option maxHeartbeats 2000000 in
theorem markS_is {base n cap : Nat} {a : Option Addr} {xs : List Value} {w : World} (hn : n ≤ 1048576) (hown : w.ownsRow base 35 3 (.slice a n cap) n xs) :
    Calls Try.prog 78 #[.slice a n cap, .int .i64 1] w (MarkPost base n a cap w) := by
  have hni : (n : Int) ≤ 1048576 := by omega
  have HN := Lib.hid hn; clear hn
  have HO := Lib.hid hown; clear hown
  go_enter Try.func78, Try.ntmps78
  go_wp2_with fail
  go_loopw [1, 5] (fun q i wr => ∃ k r : Nat, (k : Int) ≤ n ∧ i = .int .i64 k ∧ q = .int .i64 r ∧ Hid (r = 1 + 3 * k) ∧ Hid (∃ ys, wr.ownsRow base 35 3 (.slice a n cap) n ys ∧ Upto k ys) ∧ Hid (w.grownBy wr (Value.slice a n cap).ownBlock)) (fun _ i _ => n - (intOf i).toNat)
  case atStart => exact ⟨0, 1, by omega, rfl, rfl, Lib.hid rfl, Lib.hid ⟨xs, HO.out, fun j hj => by omega⟩, Lib.hid ⟨rfl, rfl, rfl, Nat.le_refl _, fun _ _ _ => rfl⟩⟩
  case round =>
    obtain ⟨k, r, hk, rfl, rfl, HR, HY, HG⟩ := hrel
    by_cases hlt : (k : Int) < n
    · have HK := Lib.hid (show k < n by omega)
      have hr2 : (r : Int) ≤ 3145730 := by have := HR.out; omega
      obtain ⟨ys, hys, hms⟩ := HY.out
      obtain ⟨g, ha, hc, hf⟩ := own_at hys (by omega)
      subst ha
      have hyl : ys.length = n * 3 := hys.1
      obtain ⟨z0, e0⟩ := some_of_lt (ys := ys) (j := k * 3) (by omega)
      obtain ⟨z1, e1⟩ := some_of_lt (ys := ys) (j := k * 3 + 1) (by omega)
      obtain ⟨z2, e2⟩ := some_of_lt (ys := ys) (j := k * 3 + 2) (by omega)
      have d0 := (hc (k * 3) (by omega)).trans e0
      have d1 := (hc (k * 3 + 1) (by omega)).trans e1
      have d2 := (hc (k * 3 + 2) (by omega)).trans e2
      have f0 := hf (k * 3)
      have f1 := hf (k * 3 + 1)
      have f2 := hf (k * 3 + 2)
      have HYS := Lib.hid hys
      have HMS := Lib.hid (hms.next hyl HK.out)
      clear hys hms hc hf hyl e0 e1 e2
      go_wp2_with fail
      go_roundw
      case rel =>
        have s1 := HYS.out.stored (k * 3) (.int .i64 (r : Int))
        have s2 := s1.1.stored (k * 3 + 1) (.int .i64 ((r : Int) + 1))
        have s3 := s2.1.stored (k * 3 + 2) (.int .i64 ((r : Int) + 1 + 1))
        refine ⟨k + 1, r + 3, by omega, by go_num, by go_num, Lib.hid (by have := HR.out; omega), Lib.hid ⟨_, s3.1, ?_⟩, Lib.hid (grown_on (grown_on (grown_on HG.out s1.2) s2.2) s3.2)⟩
        have h := HMS.out
        have hr := HR.out
        rw [show ((1 + 3 * k : Nat) : Int) = (r : Int) by omega, show ((2 + 3 * k : Nat) : Int) = (r : Int) + 1 by omega, show ((3 + 3 * k : Nat) : Int) = (r : Int) + 1 + 1 by omega] at h
        exact h
      case measure => simp [intOf]; omega
    · obtain rfl : k = n := by omega
      go_wp2_with fail
      go_ret
      obtain ⟨ys, hys, hms⟩ := HY.out
      exact ⟨by rw [HR.out]; rfl, (marked_eq hys.1 hms) ▸ hys, HG.out⟩

def HeldPost (n : Nat) (w : World) (e : Ending) (w' : World) : Prop := e = .returned (.int .i64 (1 + 3 * n : Nat)) ∧ w' = w

theorem mark_is {base n cap : Nat} {a : Option Addr} {xs : List Value} (R : Int) {w : World} (hn : n ≤ 1048576) (hown : w.ownsRow base 35 3 (.slice a n cap) n xs) :
    Calls Try.prog 55 #[.agg #[.int .i64 R, .slice a n cap], .int .i64 1] w (MarkPost base n a cap w) := by
  have HN := Lib.hid hn; clear hn
  have HO := Lib.hid hown; clear hown
  go_enter Try.func55, Try.ntmps55
  go_wp2_with (go_at_call 78; (with_reducible refine (markS_is HN.out (HO.out.alloc _)).mono ?_); rintro e w' ⟨rfl, ho, hg⟩; have HO1 := Lib.hid ho; have HG := Lib.hid hg; clear ho hg)
  go_ret
  exact ⟨rfl, HO1.out, grown_on (World.grownBy_alloc _ _ _) HG.out⟩

end Go.Proofs.Ytaccigmkddomaaa.Mesh

namespace Go.Proofs.Ytaccigmkddomaaa.Mesh
open Go.ChangeShapes Go.WideShapes Go.ChangeAt Go.RowKit Go.Proofs.Ytaccigmkddomaaa.Cell Go.Deep

theorem cellsId : Try.prog.cellsOf 99 = 3 := by kernel_rfl
theorem cellsInt : Try.prog.cellsOf 3 = 1 := by kernel_rfl

theorem list3 {α : Type} {cs : List α} (h : cs.length = 3) : ∃ c0 c1 c2, cs = [c0, c1, c2] := by
  match cs, h with
  | [c0, c1, c2], _ => exact ⟨c0, c1, c2, rfl⟩

section
variable {H : Type} {enc : TypeId × Value → H} {w : World} {base : Nat} {spare : Nat → Bool} {held : Bool}

theorem open_id {m : Nat} {cs : List Value} {x : DataW H × List MemPlace} (h : DataW.trod enc Try.prog w base spare held m 99 cs = some x) : ∃ q : C3, cs = [.int .i64 q.1, .int .i64 q.2.1, .int .i64 q.2.2] := by
  obtain ⟨y0, y1, y2, n, _, hl, h0, h1, h2⟩ := trod_struct3 Try.underlying99 h
  rw [cellsId] at hl
  obtain ⟨c0, c1, c2, rfl⟩ := list3 hl
  · simp only [cellsInt] at h0 h1 h2
    obtain ⟨z0, e0, -, -⟩ := DataW.trod_int Try.underlying3 h0
    obtain ⟨z1, e1, -, -⟩ := DataW.trod_int Try.underlying3 h1
    obtain ⟨z2, e2, -, -⟩ := DataW.trod_int Try.underlying3 h2
    simp at e0 e1 e2
    exact ⟨(z0, z1, z2), by rw [e0, e1, e2]⟩

theorem open_ids {m : Nat} {c : Value} {y : DataW H × List MemPlace} (h : DataW.trod enc Try.prog w base spare held m 43 [c] = some y) : ∃ a n cap xs, c = .slice a n cap ∧ n ≤ maxLen ∧ ReadsAt w a n xs := by
  rcases open_slice Try.underlying43 h with ⟨hcs, _⟩ | ⟨a, len, cap, m', n', D, Pl, hcs, hb, hl, hm, hmm, _, hi⟩
  · simp at hcs
    subst hcs
    exact ⟨none, 0, 0, [], rfl, by simp, ⟨rfl, by simp⟩⟩
  · simp at hcs
    subst hcs
    have each : ∀ i, i < len → ∃ q : C3, w.cell? (a.add (i * 3)) = some (.int .i64 q.1) ∧ w.cell? (a.add (i * 3 + 1)) = some (.int .i64 q.2.1) ∧ w.cell? (a.add (i * 3 + 2)) = some (.int .i64 q.2.2) := by
      intro i hil
      have him : i < m' := by rw [hmm]; split <;> omega
      obtain ⟨cs', h1, h2⟩ := hi i him
      obtain ⟨q, rfl⟩ := open_id h2
      rw [cellsId] at h1
      obtain ⟨_, _, hcell⟩ := World.cells?_some h1
      have e0 := hcell 0 (by omega)
      have e1 := hcell 1 (by omega)
      have e2 := hcell 2 (by omega)
      rw [add_add] at e0 e1 e2
      exact ⟨q, by simpa using e0, by simpa using e1, by simpa using e2⟩
    obtain ⟨q, hq⟩ := choose_lt each
    refine ⟨some a, len, cap, (List.range len).map q, rfl, by omega, ⟨by simp, ?_⟩⟩
    intro k x hk
    obtain ⟨hk', rfl⟩ : k < len ∧ q k = x := by
      rw [List.getElem?_map] at hk
      by_cases hlt : k < len
      · rw [List.getElem?_range hlt] at hk; simp at hk; exact ⟨hlt, hk⟩
      · rw [List.getElem?_eq_none (by simp; omega)] at hk; simp at hk
    have h0 := hq 0 (by omega)
    have hs := World.cell?_spot h0.1
    simp at hs
    obtain ⟨h1, h2, h3⟩ := hq k hk'
    obtain ⟨b, o, sp⟩ := a
    simp [Addr.add] at hs
    subst hs
    simp only [Addr.add_lit] at h1 h2 h3
    exact ⟨b, o, rfl, h1, h2, h3⟩
end
end Go.Proofs.Ytaccigmkddomaaa.Mesh

namespace Go.Proofs.Ytaccigmkddomaaa.Mesh
open Go.ChangeShapes Go.WideShapes Go.ChangeAt Go.RowKit Go.Proofs.Ytaccigmkddomaaa.Cell

/-- The answer: a mesh whose leaves lie in a row of the call's own, and whether there is one. -/
def Answer (R : Int) (xs : List C3) (b : Bool) (w : World) (e : Ending) (w' : World) : Prop :=
  ∃ a c, e = .returned (.tuple #[.agg #[.int .i64 R, .slice a xs.length c], .bool b]) ∧ w'.ownsRow w.heap.size 35 3 (.slice a xs.length c) xs.length (flatC xs) ∧ w.grownBy w' none
/-- A row that stood before another was made is not that other. -/
theorem apart {w w' : World} {B1 B2 n1 n2 c1 c2 : Nat} {a1 a2 : Option Addr} {e : TypeId} {size : Nat} {xs ys : List Value} (h1 : w.ownsRow B1 e size (.slice a1 n1 c1) n1 xs) (h2 : w'.ownsRow B2 e size (.slice a2 n2 c2) n2 ys) (hle : w.heap.size ≤ B2) :
    (Value.slice a1 n1 c1).ownBlock = none ∨ (Value.slice a1 n1 c1).ownBlock ≠ (Value.slice a2 n2 c2).ownBlock := by
  cases hb : (Value.slice a1 n1 c1).ownBlock with
  | none => exact .inl rfl
  | some k => exact .inr fun e => by have := (h1.lt k hb).2; have := (h2.lt k e.symm).1; omega
end Go.Proofs.Ytaccigmkddomaaa.Mesh
