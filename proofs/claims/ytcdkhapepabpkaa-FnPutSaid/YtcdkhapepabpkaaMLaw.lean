/- Meshes: what the exact laws call: szMesh, eqMesh, toMesh and their parts, as contracts.
   Conditions: at most 2^20 leaves. -/
import Derived.Test.YtcdkhapepabpkaaMOk
import Derived.Deep.RegionHeld3
set_option maxRecDepth 100000
namespace Go.Proofs.Ytcdkhapepabpkaa.Mesh
open Go.ChangeShapes Go.WideShapes Go.ChangeAt Go.RowKit Go.Proofs.Ytcdkhapepabpkaa.Cell

theorem szS_is (a : Option Addr) (n cap : Nat) (hn : n ≤ maxLen) (w : World) :
    Calls Try.prog 54 #[.slice a n cap, .int .i64 1048576] w fun e w' => e = .returned (.int .i64 (if n ≤ 1048576 then 1048576 - n else -1)) ∧ w' = w := by
  have hm : n ≤ 9223372036854775807 := by simpa [maxLen] using hn
  have hmi : (n : Int) ≤ 9223372036854775807 := by omega
  clear hm hn
  by_cases h : n ≤ 1048576
  · have hi : (n : Int) ≤ 1048576 := by omega
    rw [if_pos h]
    clear h
    go_enter Try.func54, Try.ntmps54
    go_wp2
    go_ret
    exact ⟨rfl, rfl⟩
  · have hi : 1048576 < (n : Int) := by omega
    rw [if_neg h]
    clear h
    go_enter Try.func54, Try.ntmps54
    go_wp2
    go_ret
    exact ⟨rfl, rfl⟩

theorem sz_is (R : Int) (a : Option Addr) (n cap : Nat) (hn : n ≤ maxLen) (w : World) :
    Calls Try.prog 23 #[.agg #[.int .i64 R, .slice a n cap], .int .i64 1048576] w fun e w' => e = .returned (.int .i64 (if n ≤ 1048576 then 1048576 - n else -1)) ∧ w.grownBy w' none := by
  have HN := Lib.hid hn; clear hn
  by_cases h : n ≤ 1048576
  · have hi : (n : Int) ≤ 1048576 := by omega
    rw [if_pos h]
    have HH := Lib.hid h; clear h
    go_enter Try.func23, Try.ntmps23
    go_wp2_with (go_at_call 54; (with_reducible refine (szS_is a n cap HN.out _).mono ?_); rw [if_pos HH.out]; rintro e w' ⟨rfl, rfl⟩)
    go_ret
    exact ⟨rfl, g_alloc (grown_refl _) _⟩
  · rw [if_neg h]
    have HH := Lib.hid h; clear h
    go_enter Try.func23, Try.ntmps23
    go_wp2_with (go_at_call 54; (with_reducible refine (szS_is a n cap HN.out _).mono ?_); rw [if_neg HH.out]; rintro e w' ⟨rfl, rfl⟩)
    go_ret
    exact ⟨rfl, g_alloc (grown_refl _) _⟩

theorem g_drew {w a : World} (h : w.grownBy a none) : w.grownBy a.drew none := ⟨h.os, h.tape, h.output, h.size, h.block⟩

set_option maxHeartbeats 2000000 in
theorem eqS_is (a b : Option Addr) (n m c1 c2 : Nat) (xs ys : List C3) (w : World) (hx : Reads w a n xs) (hy : Reads w b m ys) (hn : n ≤ 1048576) (hm : m ≤ 1048576) (he : xs = ys) :
    Calls Try.prog 57 #[.slice a n c1, .slice b m c2] w fun e w' => e = .returned (.bool true) ∧ w.grownBy w' none := by
  subst he
  obtain rfl : n = m := hx.len.symm.trans hy.len
  have hni : (n : Int) ≤ 1048576 := by omega
  clear hn hm
  have HA := Lib.hid hx; clear hx
  have HB := Lib.hid hy; clear hy
  go_enter Try.func57, Try.ntmps57
  go_wp2_with fail
  go_loopw [5] (fun i wr => ∃ k : Nat, (k : Int) ≤ n ∧ i = .int .i64 k ∧ Hid (Reads wr a n xs) ∧ Hid (Reads wr b n xs) ∧ Hid (w.grownBy wr none)) (fun i _ => n - (intOf i).toNat)
  case atStart => exact ⟨0, by omega, rfl, HA, HB, Lib.hid (grown_refl w)⟩
  case round =>
    obtain ⟨k, hk, rfl, HA, HB, HG⟩ := hrel
    by_cases hlt : (k : Int) < n
    · obtain ⟨r, l, i, hx⟩ := get_of_lt HA.out.len (k := k) (by omega)
      obtain ⟨g1, rfl, -, d0, d1, d2⟩ := HA.out.at_ k _ hx
      obtain ⟨g2, rfl, -, f0, f1, f2⟩ := HB.out.at_ k _ hx
      clear hx
      dsimp only at d0 d1 d2 f0 f1 f2
      go_wp2_with fail
      have ra := HA.out; have rb := HB.out; have hg := HG.out
      clear HA HB HG
      have q : decide (r = r ∧ l = l ∧ i = i) = true := by simp
      go_region_held3 (fun w' => w'.cell? ⟨g1, k * 3, none⟩ = some (.int .i64 r) ∧ w'.cell? ⟨g1, k * 3 + 1, none⟩ = some (.int .i64 l) ∧ w'.cell? ⟨g1, k * 3 + 2, none⟩ = some (.int .i64 i)
          ∧ w'.cell? ⟨g2, k * 3, none⟩ = some (.int .i64 r) ∧ w'.cell? ⟨g2, k * 3 + 1, none⟩ = some (.int .i64 l) ∧ w'.cell? ⟨g2, k * 3 + 2, none⟩ = some (.int .i64 i) ∧ w.grownBy w' none ∧ Reads w' (some ⟨g1, 0, none⟩) n xs ∧ Reads w' (some ⟨g2, 0, none⟩) n xs)
        ((go_split_ands; refine ⟨?_, ?_, ?_, ?_, ?_, ?_, ?_, ?_, ?_⟩ <;> first | assumption | exact hgc.cell (by assumption) (by simp) | exact Cell.grown_trans (by assumption) hgc | exact g_drew (by assumption) | exact Reads.on (by assumption) hgc | exact Reads.on (by assumption) (g_drew (grown_refl _))))
        (first
          | (go_at_call 73; ((with_reducible refine (Cell.eq_g r l i r l i _).mono ?_); rw [q]; rintro e w'' ⟨rfl, hgc⟩)))
      go_split_ands
      go_wp2_with fail
      go_roundw
      case rel => exact ⟨k + 1, by omega, by go_num, Lib.hid (by assumption), Lib.hid (by assumption), Lib.hid (by assumption)⟩
      case measure => simp [intOf]; omega
    · go_wp2_with fail
      go_ret
      exact ⟨rfl, HG.out⟩

theorem eq_is (R : Int) (a b : Option Addr) (n m c1 c2 : Nat) (xs : List C3) (w : World) (hx : Reads w a n xs) (hy : Reads w b m xs) (hn : n ≤ 1048576) (hm : m ≤ 1048576) :
    Calls Try.prog 27 #[.agg #[.int .i64 R, .slice a n c1], .agg #[.int .i64 R, .slice b m c2]] w fun e w' => e = .returned (.bool true) ∧ w.grownBy w' none := by
  have HA := Lib.hid hx; clear hx
  have HB := Lib.hid hy; clear hy
  have HN := Lib.hid hn; clear hn
  have HM := Lib.hid hm; clear hm
  go_enter Try.func27, Try.ntmps27
  go_wp2_with (go_at_call 57; (with_reducible refine (eqS_is a b n m c1 c2 xs xs _ ((HA.out.past _).past _) ((HB.out.past _).past _) HN.out HM.out rfl).mono ?_); rintro e w' ⟨rfl, hg⟩; have HG := Lib.hid hg; clear hg)
  go_ret
  exact ⟨rfl, grown_trans (g_alloc (g_alloc (grown_refl _) _) _) HG.out⟩

/-- The law's own cells: what the argument holds. -/
structure ReadsAt (w : World) (a : Option Addr) (n : Nat) (xs : List C3) : Prop where
  len : xs.length = n
  at_ : ∀ k x, xs[k]? = some x → ∃ b o, a = some ⟨b, o, none⟩ ∧ w.cell? ⟨b, o + k * 3, none⟩ = some (.int .i64 x.1) ∧ w.cell? ⟨b, o + k * 3 + 1, none⟩ = some (.int .i64 x.2.1) ∧ w.cell? ⟨b, o + k * 3 + 2, none⟩ = some (.int .i64 x.2.2)
theorem ReadsAt.on {w w' : World} {a : Option Addr} {n : Nat} {xs : List C3} (h : ReadsAt w a n xs) (hg : w.grownBy w' none) : ReadsAt w' a n xs :=
  ⟨h.len, fun k x hk => let ⟨b, o, ha, h0, h1, h2⟩ := h.at_ k x hk; ⟨b, o, ha, hg.cell h0 (by simp), hg.cell h1 (by simp), hg.cell h2 (by simp)⟩⟩

/-- A row that is being filled: the cells that stand. -/
structure Filling (w : World) (g n : Nat) (xs : List C3) : Prop where
  blk : ∃ cur, w.heap[g]? = some (.cells cur 36 (0, 0)) ∧ cur.size = n * 3 ∧ ∀ k x, xs[k]? = some x → cur[k * 3]? = some (.int .i64 x.1) ∧ cur[k * 3 + 1]? = some (.int .i64 x.2.1) ∧ cur[k * 3 + 2]? = some (.int .i64 x.2.2)
theorem Filling.put {w : World} {g n k : Nat} {xs : List C3} {r l i : Int} (h : Filling w g n (xs.take k)) (hx : xs[k]? = some (r, l, i)) (hk : k < n) :
    Filling (((w.setCell ⟨g, k * 3, none⟩ (.int .i64 r)).setCell ⟨g, k * 3 + 1, none⟩ (.int .i64 l)).setCell ⟨g, k * 3 + 2, none⟩ (.int .i64 i)) g n (xs.take (k + 1)) := by
  obtain ⟨cur, hb, hs, hc⟩ := h.blk
  refine ⟨_, heap_setCell_same _ _ _ _ _ _ (heap_setCell_same _ _ _ _ _ _ (heap_setCell_same _ _ _ _ _ _ hb)), by simp [hs], ?_⟩
  intro j x hj
  rw [take_snoc hx] at hj
  by_cases hjk : j < k
  · have hlen : (xs.take k).length = k := by
      have := (List.getElem?_eq_some_iff.1 hx).1
      simp; omega
    rw [List.getElem?_append_left (by omega)] at hj
    obtain ⟨h0, h1, h2⟩ := hc j x hj
    refine ⟨?_, ?_, ?_⟩
    · rw [Array.getElem?_setIfInBounds_ne (by omega), Array.getElem?_setIfInBounds_ne (by omega), Array.getElem?_setIfInBounds_ne (by omega), h0]
    · rw [Array.getElem?_setIfInBounds_ne (by omega), Array.getElem?_setIfInBounds_ne (by omega), Array.getElem?_setIfInBounds_ne (by omega), h1]
    · rw [Array.getElem?_setIfInBounds_ne (by omega), Array.getElem?_setIfInBounds_ne (by omega), Array.getElem?_setIfInBounds_ne (by omega), h2]
  · have hlen : (xs.take k).length = k := by
      have := (List.getElem?_eq_some_iff.1 hx).1
      simp; omega
    have hjl := (List.getElem?_eq_some_iff.1 hj).1
    rw [List.length_append, hlen] at hjl
    simp at hjl
    obtain rfl : j = k := by omega
    rw [List.getElem?_append_right (by omega), hlen] at hj
    simp at hj
    subst hj
    refine ⟨?_, ?_, ?_⟩
    · rw [Array.getElem?_setIfInBounds_ne (by omega), Array.getElem?_setIfInBounds_ne (by omega), Array.getElem?_setIfInBounds_self_of_lt (by omega)]
    · rw [Array.getElem?_setIfInBounds_ne (by omega), Array.getElem?_setIfInBounds_self_of_lt (by simp; omega)]
    · rw [Array.getElem?_setIfInBounds_self_of_lt (by simp; omega)]
theorem Filling.on {w w' : World} {g n : Nat} {xs : List C3} (h : Filling w g n xs) (hg : w.grownBy w' none) : Filling w' g n xs :=
  let ⟨cur, hb, hs, hc⟩ := h.blk
  ⟨⟨cur, (hg.block g (lt_of_block hb) (by simp)).trans hb, hs, hc⟩⟩
theorem lt_of_get {cur : Array Value} {j : Nat} (h : j < cur.size) : ∃ v, cur[j]? = some v := ⟨_, Array.getElem?_eq_getElem h⟩
/-- A cell of it, before it is filled. -/
theorem Filling.old {w : World} {g n k : Nat} {xs : List C3} (h : Filling w g n xs) (hk : k < n) :
    (∃ z0 z1 z2, w.cell? ⟨g, k * 3, none⟩ = some z0 ∧ w.cell? ⟨g, k * 3 + 1, none⟩ = some z1 ∧ w.cell? ⟨g, k * 3 + 2, none⟩ = some z2) ∧ w.frozen? ⟨g, k * 3, none⟩ = false ∧ w.frozen? ⟨g, k * 3 + 1, none⟩ = false ∧ w.frozen? ⟨g, k * 3 + 2, none⟩ = false := by
  obtain ⟨cur, hb, hs, hc⟩ := h.blk
  obtain ⟨z0, h0⟩ := lt_of_get (cur := cur) (j := k * 3) (by omega)
  obtain ⟨z1, h1⟩ := lt_of_get (cur := cur) (j := k * 3 + 1) (by omega)
  obtain ⟨z2, h2⟩ := lt_of_get (cur := cur) (j := k * 3 + 2) (by omega)
  refine ⟨⟨z0, z1, z2, (cell_of_row w g _ cur _ (0, 0) hb).trans h0, (cell_of_row w g _ cur _ (0, 0) hb).trans h1, (cell_of_row w g _ cur _ (0, 0) hb).trans h2⟩, ?_, ?_, ?_⟩ <;> simp [World.frozen?, hb]
theorem Filling.reads {w : World} {g n : Nat} {xs : List C3} (h : Filling w g n xs) (hl : xs.length = n) : Reads w (some ⟨g, 0, none⟩) n xs := by
  obtain ⟨cur, hb, hs, hc⟩ := h.blk
  refine ⟨hl, fun k x hk => ⟨g, rfl, lt_of_block hb, ?_⟩⟩
  obtain ⟨h0, h1, h2⟩ := hc k x hk
  exact ⟨(cell_of_row w g _ cur _ (0, 0) hb).trans h0, (cell_of_row w g _ cur _ (0, 0) hb).trans h1, (cell_of_row w g _ cur _ (0, 0) hb).trans h2⟩

theorem infoId : (Try.prog.info? 36).map (fun i => (i.zero, i.size, i.bytes)) = some (some (.agg #[.int .i64 0, .int .i64 0, .int .i64 0]), 3, 24) := by kernel_rfl

theorem make_is (w : World) (n : Nat) (hn : n ≤ 1048576) : ∃ Z, Z.size = n * 3 ∧ (Instr.makeSlice 24 (.int .i64 (n : Int)) (.int .i64 (n : Int))).run Try.prog w = .ok (.slice (some ⟨w.heap.size, 0, none⟩) n n) (w.alloc (.cells Z 36)) := by
  obtain ⟨i0, hi, hz0, hz1, hz2⟩ := info_parts infoId
  refine ⟨_, ?_, run_make w _ _ i0 _ Try.underlying24 hi hz0 .i64 .i64 (n : Int) (n : Int) (by omega) (by omega) (by rw [hz2]; omega) (by omega)⟩
  rw [hz1]
  simp [size_madeCells]

set_option maxHeartbeats 2000000 in
theorem toS_is (a : Option Addr) (n cap : Nat) (xs : List C3) (w : World) (hx : ReadsAt w a n xs) (hn : n ≤ 1048576) :
    Calls Try.prog 56 #[.slice a n cap] w fun e w' => ∃ g, e = .returned (.slice (some ⟨g, 0, none⟩) n n) ∧ Reads w' (some ⟨g, 0, none⟩) n xs ∧ w.grownBy w' none ∧ w.heap.size ≤ g := by
  have hni : (n : Int) ≤ 1048576 := by omega
  obtain ⟨Z, hz, hmk⟩ := make_is w n hn
  have HZ := Lib.hid hz; clear hz
  have HN := Lib.hid hn; clear hn
  have HA := Lib.hid hx; clear hx
  go_enter Try.func56, Try.ntmps56
  go_wp2_with fail
  go_loopw [4] (fun i wr => ∃ k : Nat, (k : Int) ≤ n ∧ i = .int .i64 k ∧ Hid (Filling wr w.heap.size n (xs.take k)) ∧ Hid (w.grownBy wr none)) (fun i _ => n - (intOf i).toNat)
  case atStart => exact ⟨0, by omega, rfl, Lib.hid ⟨⟨Z, heap_alloc_new _ _, HZ.out, by simp⟩⟩, Lib.hid (g_alloc (grown_refl _) _)⟩
  case round =>
    obtain ⟨k, hk, rfl, HF, HG⟩ := hrel
    by_cases hlt : (k : Int) < n
    · have hkn : Hid (k < n) := Lib.hid (by omega)
      obtain ⟨r, l, i, hx⟩ := get_of_lt HA.out.len (k := k) hkn.out
      obtain ⟨b, o, rfl, d0, d1, d2⟩ := (HA.out.on HG.out).at_ k _ hx
      have HX := Lib.hid hx; clear hx
      dsimp only at d0 d1 d2
      go_wp2_with (first
        | (go_at_call 72; (with_reducible refine (Cell.toId_g r l i _).mono ?_); rintro e w' ⟨rfl, hg⟩; have HF' := Lib.hid (HF.out.on hg); have HG' := Lib.hid (grown_trans HG.out hg); clear hg; obtain ⟨⟨z0, z1, z2, o0, o1, o2⟩, q0, q1, q2⟩ := HF'.out.old hkn.out))
      go_roundw
      case rel => exact ⟨k + 1, by omega, by go_num, Lib.hid (HF'.out.put HX.out hkn.out), Lib.hid (g_set (g_set (g_set HG'.out _ _ _ (Nat.le_refl _)) _ _ _ (Nat.le_refl _)) _ _ _ (Nat.le_refl _))⟩
      case measure => simp [intOf]; omega
    · go_wp2_with fail
      go_ret
      obtain rfl : k = n := by omega
      exact ⟨_, rfl, (by have := HF.out; rw [← HA.out.len, List.take_length] at this; rw [HA.out.len] at this; exact this.reads HA.out.len), HG.out, Nat.le_refl _⟩

/-- What a law hands on: a mesh of its own. -/
def Made (w : World) (R : Int) (n : Nat) (xs : List C3) (e : Ending) (w' : World) : Prop := ∃ g, e = .returned (.agg #[.int .i64 R, .slice (some ⟨g, 0, none⟩) n n]) ∧ Reads w' (some ⟨g, 0, none⟩) n xs ∧ w.grownBy w' none

theorem Reads.set {w : World} {g n : Nat} {xs : List C3} (h : Reads w (some ⟨g, 0, none⟩) n xs) (C j : Nat) (u : Value) (hne : C ≠ g) : Reads (w.setCell ⟨C, j, none⟩ u) (some ⟨g, 0, none⟩) n xs :=
  ⟨h.len, fun k x hk => by
    obtain ⟨g', hg, hl, h0, h1, h2⟩ := h.at_ k x hk
    cases hg
    exact ⟨g, rfl, by simpa using hl, (World.cell?_setCell_other _ _ _ _ (fun e => hne (congrArg Addr.block e))).trans h0, (World.cell?_setCell_other _ _ _ _ (fun e => hne (congrArg Addr.block e))).trans h1, (World.cell?_setCell_other _ _ _ _ (fun e => hne (congrArg Addr.block e))).trans h2⟩⟩
theorem set2 {w : World} {C : Nat} {s u : Value} {t : TypeId} (hb : w.heap[C]? = some (.cells #[s, u] t (0, 0))) (x y : Value) :
    ((w.setCell ⟨C, 0, none⟩ x).setCell ⟨C, 1, none⟩ y).heap[C]? = some (.cells #[x, y] t (0, 0)) := by
  have h0 : (w.setCell ⟨C, 0, none⟩ x).heap[C]? = some (.cells #[x, u] t (0, 0)) := by rw [heap_setCell_same w C 0 _ t x hb]; rfl
  rw [heap_setCell_same _ C 1 _ t y h0]; rfl
theorem heap_mid (w : World) (o o' o'' : Obj) : (((w.alloc o).alloc o').alloc o'').heap[w.heap.size + 1]? = some o' := by
  refine (heap_alloc_old _ _ (by simp)).trans ?_
  have := heap_alloc_new (w.alloc o) o'
  simpa using this
theorem heap_last (w : World) (o o' o'' : Obj) : (((w.alloc o).alloc o').alloc o'').heap[w.heap.size + 1 + 1]? = some o'' := by
  have := heap_alloc_new ((w.alloc o).alloc o') o''
  simpa using this

set_option maxHeartbeats 2000000 in
theorem to_is (R : Int) (a : Option Addr) (n cap : Nat) (xs : List C3) (w : World) (hx : ReadsAt w a n xs) (hn : n ≤ 1048576) :
    Calls Try.prog 25 #[.agg #[.int .i64 R, .slice a n cap]] w (Made w R n xs) := by
  have HN := Lib.hid hn; clear hn
  have HA := Lib.hid hx; clear hx
  go_enter Try.func25, Try.ntmps25
  go_wp2_with (go_at_call 56; (with_reducible refine (toS_is a n cap xs _ (HA.out.on (g_alloc (g_alloc (g_alloc (grown_refl _) _) _) _)) HN.out).mono ?_); rintro e w' ⟨g, rfl, hr, hg, hge⟩; have hB1 := (hg.block (w.heap.size + 1) (by simp) (by simp)).trans (heap_mid _ _ _ _); have hB2 := (hg.block (w.heap.size + 1 + 1) (by simp) (by simp)).trans (heap_last _ _ _ _); have c10 : w'.cell? ⟨w.heap.size + 1, 0, none⟩ = some (.int .i64 0) := (by simp [World.cell?, hB1]); have c11 : w'.cell? ⟨w.heap.size + 1, 1, none⟩ = some (.slice none 0 0) := (by simp [World.cell?, hB1]); have f10 : w'.frozen? ⟨w.heap.size + 1, 0, none⟩ = false := (by simp [World.frozen?, hB1]); have f11 : w'.frozen? ⟨w.heap.size + 1, 1, none⟩ = false := (by simp [World.frozen?, hB1]); have c20 : w'.cell? ⟨w.heap.size + 1 + 1, 0, none⟩ = some (.int .i64 R) := (by simp [World.cell?, hB2]); have c21 : w'.cell? ⟨w.heap.size + 1 + 1, 1, none⟩ = some (.slice none 0 0) := (by simp [World.cell?, hB2]); have f21 : w'.frozen? ⟨w.heap.size + 1 + 1, 1, none⟩ = false := (by simp [World.frozen?, hB2]); have HB1 := Lib.hid hB1; have HG := Lib.hid hg; have HR := Lib.hid hr; have HGE := Lib.hid hge; clear hB1 hB2 hg hr hge)
  have hb : (((w'.setCell ⟨w.heap.size + 1 + 1, 1, none⟩ (.slice (some ⟨g, 0, none⟩) n n)).setCell ⟨w.heap.size + 1, 0, none⟩ (.int .i64 R)).setCell ⟨w.heap.size + 1, 1, none⟩ (.slice (some ⟨g, 0, none⟩) n n)).heap[w.heap.size + 1]? = some (.cells #[.int .i64 R, .slice (some ⟨g, 0, none⟩) n n] 26 (0, 0)) :=
    set2 ((heap_setCell_other _ ⟨w.heap.size + 1 + 1, 1, none⟩ _ _ (by simp)).trans HB1.out) _ _
  have hge := HGE.out
  simp at hge
  exact bodyPost_ret_by (results_cell_row (fn := Try.f25) rfl _ _ (w.heap.size + 1) _ _ (0, 0) _ rfl hb Try.underlying26 rfl (by kernel_rfl)) rfl
    ⟨g, rfl, ((HR.out.set _ _ _ (by omega)).set _ _ _ (by omega)).set _ _ _ (by omega), g_set (g_set (g_set (grown_trans (g_alloc (g_alloc (g_alloc (grown_refl _) _) _) _) HG.out) _ _ _ (by omega)) _ _ _ (by omega)) _ _ _ (by omega)⟩
end Go.Proofs.Ytcdkhapepabpkaa.Mesh
