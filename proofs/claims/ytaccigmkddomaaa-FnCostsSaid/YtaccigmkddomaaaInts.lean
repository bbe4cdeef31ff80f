/- Rows of ints: in memory, and what the exact laws call over them (szIntS, toIntS, eqIntS, markIntS, heldIntS), as contracts.
   Conditions: at most 2^20 of them. -/
import Derived.Test.YtaccigmkddomaaaPkCopy
import Derived.Test.YtaccigmkddomaaaHeld
set_option maxRecDepth 100000
namespace Go.Proofs.Ytaccigmkddomaaa.Ints
open Go.ChangeShapes Go.WideShapes Go.ChangeAt Go.RowKit Go.Proofs.Ytaccigmkddomaaa.Cell Go.Proofs.Ytaccigmkddomaaa.Mesh Go.Proofs.Ytaccigmkddomaaa.Law Go.Deep

/-- The values of a row of ints. -/
def vals (xs : List Int) : List Value := xs.map fun x => .int .i64 x
theorem vals_len (xs : List Int) : (vals xs).length = xs.length := by simp [vals]
theorem vals_at {xs : List Int} {k : Nat} {x : Int} (h : xs[k]? = some x) : (vals xs)[k]? = some (.int .i64 x) := by simp [vals, h]
/-- A slice of n ints that reads xs. -/
structure ReadsI (w : World) (a : Option Addr) (n : Nat) (xs : List Int) : Prop where
  len : xs.length = n
  at_ : ∀ k x, xs[k]? = some x → ∃ g o, a = some ⟨g, o, none⟩ ∧ w.cell? ⟨g, o + k, none⟩ = some (.int .i64 x)
theorem ReadsI.on {w w' : World} {a : Option Addr} {n : Nat} {xs : List Int} (h : ReadsI w a n xs) (hg : w.grownBy w' none) : ReadsI w' a n xs :=
  ⟨h.len, fun k x hk => let ⟨g, o, ha, h0⟩ := h.at_ k x hk; ⟨g, o, ha, hg.cell h0 (by simp)⟩⟩
theorem ReadsI.past {w : World} {a : Option Addr} {n : Nat} {xs : List Int} (h : ReadsI w a n xs) (o : Obj) : ReadsI (w.alloc o) a n xs := h.on (World.grownBy_alloc _ _ _)
theorem getI {xs : List Int} {k n : Nat} (h : xs.length = n) (hk : k < n) : ∃ x, xs[k]? = some x := ⟨_, List.getElem?_eq_getElem (by omega)⟩
theorem own_readsI {w : World} {base n cap : Nat} {a : Option Addr} {xs : List Int} (h : w.ownsRow base 3 1 (.slice a n cap) n (vals xs)) : ReadsI w a n xs := by
  have hlen := h.1
  rw [vals_len] at hlen
  refine ⟨by omega, fun k x hk => ?_⟩
  have hkl := (List.getElem?_eq_some_iff.1 hk).1
  obtain ⟨g, cap', hv, hb, hg⟩ := h.form (by omega)
  simp only [Value.slice.injEq] at hv
  obtain ⟨rfl, -, rfl⟩ := hv
  exact ⟨g, 0, rfl, by rw [Nat.zero_add, h.cellAt k (by omega), vals_at hk]⟩

theorem open_ints {H : Type} {enc : TypeId × Value → H} {w : World} {base : Nat} {spare : Nat → Bool} {held : Bool} {m : Nat} {c : Value} {y : DataW H × List MemPlace} (h : DataW.trod enc Try.prog w base spare held m 27 [c] = some y) :
    ∃ a n cap xs, c = .slice a n cap ∧ n ≤ maxLen ∧ ReadsI w a n xs := by
  rcases open_slice1 Try.underlying27 cellsInt h with ⟨hcs, _⟩ | ⟨a, len, cap, m', n', V, D, Pl, hcs, hb, hl, hm, hmm, _, hi⟩
  · simp at hcs
    subst hcs
    exact ⟨none, 0, 0, [], rfl, by simp, ⟨rfl, by simp⟩⟩
  · simp at hcs
    subst hcs
    have each : ∀ i, i < len → ∃ q : Int, w.cell? (a.add i) = some (.int .i64 q) := by
      intro i hil
      have him : i < m' := by rw [hmm]; split <;> omega
      obtain ⟨h1, h2⟩ := hi i him
      obtain ⟨z, e, -, -⟩ := DataW.trod_int Try.underlying3 h2
      simp at e
      exact ⟨z, by rw [h1, e]⟩
    obtain ⟨q, hq⟩ := choose_lt each
    refine ⟨some a, len, cap, (List.range len).map q, rfl, by omega, ⟨by simp, ?_⟩⟩
    intro k x hk
    obtain ⟨hk', rfl⟩ : k < len ∧ q k = x := by
      rw [List.getElem?_map] at hk
      by_cases hlt : k < len
      · rw [List.getElem?_range hlt] at hk; simp at hk; exact ⟨hlt, hk⟩
      · rw [List.getElem?_eq_none (by simp; omega)] at hk; simp at hk
    have h0 := hq 0 (by omega)
    have hs := World.cell?_spot h0
    have h1 := hq k hk'
    obtain ⟨b, o, sp⟩ := a
    simp [Addr.add] at hs
    subst hs
    simp only [Addr.add_lit] at h1
    exact ⟨b, o, rfl, h1⟩

theorem open_intsV {H : Type} {enc : TypeId × Value → H} {w : World} {base b0 : Nat} {spare : Nat → Bool} {held : Bool} {r : Reach} {v : Value} {d : DataW H} {p : List MemPlace}
    (hv : Value.okWide Try.prog w r b0 27 v) (h : DataW.Trod enc Try.prog w base spare held 27 v d p) : ∃ a n cap xs, v = .slice a n cap ∧ n ≤ maxLen ∧ ReadsI w a n xs := by
  obtain ⟨a, n, c, rfl⟩ := okWide_slice Try.underlying27 hv
  obtain ⟨fuel, hf⟩ := h
  obtain ⟨a', n', c', xs, e, hn, hr⟩ := open_ints (c := .slice a n c) (by simpa [Value.cells] using hf)
  cases e
  exact ⟨a, n, c, xs, rfl, hn, hr⟩

/-- What is left: L less n, or -1. -/
theorem szI_is (a : Option Addr) (n cap : Nat) (L : Int) (hn : n ≤ maxLen) (h0 : 0 ≤ L) (h1 : L ≤ 1048576) (w : World) :
    Calls Try.prog 51 #[.slice a n cap, .int .i64 L] w fun e w' => e = .returned (.int .i64 (if (n : Int) ≤ L then L - n else -1)) ∧ w' = w := by
  have hm : n ≤ 9223372036854775807 := by simpa [maxLen] using hn
  have hmi : (n : Int) ≤ 9223372036854775807 := by omega
  clear hm hn
  by_cases h : (n : Int) ≤ L
  · rw [if_pos h]
    go_enter Try.func51, Try.ntmps51
    go_wp2
    go_ret
    exact ⟨rfl, rfl⟩
  · have hi : L < (n : Int) := by omega
    rw [if_neg h]
    clear h
    go_enter Try.func51, Try.ntmps51
    go_wp2
    go_ret
    exact ⟨rfl, rfl⟩

theorem szC_to (a : Option Addr) (n cap : Nat) (L : Int) (hn : n ≤ maxLen) (h0 : 0 ≤ L) (h1 : L ≤ 1048576) (w : World) :
    Calls Try.prog 56 #[.slice a n cap, .int .i64 L] w fun e w' => e = .returned (.int .i64 (if (n : Int) ≤ L then L - n else -1)) ∧ w' = w := by
  have hm : n ≤ 9223372036854775807 := by simpa [maxLen] using hn
  have hmi : (n : Int) ≤ 9223372036854775807 := by omega
  clear hm hn
  by_cases h : (n : Int) ≤ L
  · rw [if_pos h]
    go_enter Try.func56, Try.ntmps56
    go_wp2
    go_ret
    exact ⟨rfl, rfl⟩
  · have hi : L < (n : Int) := by omega
    rw [if_neg h]
    clear h
    go_enter Try.func56, Try.ntmps56
    go_wp2
    go_ret
    exact ⟨rfl, rfl⟩
theorem szM_to (R : Int) (a : Option Addr) (n cap : Nat) (L : Int) (hn : n ≤ maxLen) (h0 : 0 ≤ L) (h1 : L ≤ 1048576) (w : World) :
    Calls Try.prog 32 #[.agg #[.int .i64 R, .slice a n cap], .int .i64 L] w fun e w' => e = .returned (.int .i64 (if (n : Int) ≤ L then L - n else -1)) ∧ w.grownBy w' none := by
  have hsz := szC_to a n cap L hn h0 h1
  by_cases h : (n : Int) ≤ L
  · rw [if_pos h] at hsz ⊢
    have HS := Lib.hid hsz; clear hsz hn
    have hp : ¬ L - (n : Int) < 0 := by omega
    go_enter Try.func32, Try.ntmps32
    go_wp2_with (go_at_call 56; (with_reducible refine (HS.out _).mono ?_); rintro e w' ⟨rfl, rfl⟩)
    go_ret
    exact ⟨rfl, g_alloc (grown_refl _) _⟩
  · rw [if_neg h] at hsz ⊢
    have HS := Lib.hid hsz; clear hsz hn
    go_enter Try.func32, Try.ntmps32
    go_wp2_with (go_at_call 56; (with_reducible refine (HS.out _).mono ?_); rintro e w' ⟨rfl, rfl⟩)
    go_ret
    exact ⟨rfl, g_alloc (grown_refl _) _⟩

set_option maxHeartbeats 2000000 in
theorem eqI_is (a b : Option Addr) (n c1 c2 : Nat) (xs : List Int) (w : World) (hx : ReadsI w a n xs) (hy : ReadsI w b n xs) (hn : n ≤ 1048576) :
    Calls Try.prog 26 #[.slice a n c1, .slice b n c2] w fun e w' => e = .returned (.bool true) ∧ w.grownBy w' none := by
  have hni : (n : Int) ≤ 1048576 := by omega
  clear hn
  have HA := Lib.hid hx; clear hx
  have HB := Lib.hid hy; clear hy
  go_enter Try.func26, Try.ntmps26
  go_wp2_with fail
  go_loopw [5] (fun i wr => ∃ k : Nat, (k : Int) ≤ n ∧ i = .int .i64 k ∧ Hid (w.grownBy wr none)) (fun i _ => n - (intOf i).toNat)
  case atStart => exact ⟨0, by omega, rfl, Lib.hid (grown_refl w)⟩
  case round =>
    obtain ⟨k, hk, rfl, HG⟩ := hrel
    by_cases hlt : (k : Int) < n
    · obtain ⟨x, hx⟩ := getI HA.out.len (k := k) (by omega)
      obtain ⟨g1, o1, rfl, d0⟩ := (HA.out.on HG.out).at_ k _ hx
      obtain ⟨g2, o2, rfl, f0⟩ := (HB.out.on HG.out).at_ k _ hx
      clear hx
      go_wp2_with fail
      go_quiet (fail)
      go_wp2_with fail
      go_roundw
      case rel => exact ⟨k + 1, by omega, by go_num, Lib.hid (g_drewN HG.out _)⟩
      case measure => simp [intOf]; omega
    · go_wp2_with fail
      go_ret
      exact ⟨rfl, HG.out⟩

/-- A row that is being filled: the ints that stand. -/
structure FillI (w : World) (g n : Nat) (xs : List Int) : Prop where
  blk : ∃ cur, w.heap[g]? = some (.cells cur 3 (0, 0)) ∧ cur.size = n ∧ ∀ (k : Nat) (x : Int), xs[k]? = some x → cur[k]? = some (Value.int .i64 x)
theorem FillI.put {w : World} {g n k : Nat} {xs : List Int} {x : Int} (h : FillI w g n (xs.take k)) (hx : xs[k]? = some x) (hk : k < n) :
    FillI (w.setCell ⟨g, k, none⟩ (.int .i64 x)) g n (xs.take (k + 1)) := by
  obtain ⟨cur, hb, hs, hc⟩ := h.blk
  refine ⟨_, heap_setCell_same _ _ _ _ _ _ hb, by simp [hs], ?_⟩
  intro j y hj
  have hlen : (xs.take k).length = k := by
    have := (List.getElem?_eq_some_iff.1 hx).1
    simp; omega
  rw [List.take_add_one, hx] at hj
  by_cases hjk : j < k
  · rw [List.getElem?_append_left (by omega)] at hj
    rw [Array.getElem?_setIfInBounds_ne (by omega)]
    exact hc j y hj
  · have hjl := (List.getElem?_eq_some_iff.1 hj).1
    rw [List.length_append, hlen] at hjl
    simp at hjl
    obtain rfl : j = k := by omega
    rw [List.getElem?_append_right (by omega), hlen] at hj
    simp at hj
    subst hj
    rw [Array.getElem?_setIfInBounds_self_of_lt (by omega)]
theorem FillI.on {w w' : World} {g n : Nat} {xs : List Int} (h : FillI w g n xs) (hg : w.grownBy w' none) : FillI w' g n xs :=
  let ⟨cur, hb, hs, hc⟩ := h.blk
  ⟨⟨cur, (hg.block g (lt_of_block hb) (by simp)).trans hb, hs, hc⟩⟩
theorem FillI.old {w : World} {g n k : Nat} {xs : List Int} (h : FillI w g n xs) (hk : k < n) : (∃ z, w.cell? ⟨g, k, none⟩ = some z) ∧ w.frozen? ⟨g, k, none⟩ = false := by
  obtain ⟨cur, hb, hs, hc⟩ := h.blk
  obtain ⟨z, hz⟩ := lt_of_get (cur := cur) (j := k) (by omega)
  exact ⟨⟨z, (cell_of_row w g _ cur _ (0, 0) hb).trans hz⟩, by simp [World.frozen?, hb]⟩
theorem FillI.own {w : World} {base g n : Nat} {xs : List Int} (h : FillI w g n xs) (hl : xs.length = n) (hb : base ≤ g) (hn : n ≤ 1048576) : w.ownsRow base 3 1 (.slice (some ⟨g, 0, none⟩) n n) n (vals xs) := by
  obtain ⟨cur, hg, hs, hc⟩ := h.blk
  refine ⟨by rw [vals_len, hl, Nat.mul_one], .inr ⟨g, n, cur, rfl, hb, hg, Nat.le_refl _, by unfold maxLen; omega, by rw [hs, Nat.mul_one], ?_⟩⟩
  rw [Nat.mul_one, List.take_of_length_le (by simp [hs])]
  refine List.ext_getElem? fun j => ?_
  by_cases hj : j < n
  · obtain ⟨x, hx⟩ := getI hl hj
    rw [vals_at hx]
    simpa using hc j x hx
  · rw [List.getElem?_eq_none (by simp [hs]; omega), List.getElem?_eq_none (by rw [vals_len]; omega)]

theorem infoInt : (Try.prog.info? 3).map (fun i => (i.zero, i.size, i.bytes)) = some (some (.int .i64 0), 1, 8) := by kernel_rfl
theorem makeI_is (w : World) (n : Nat) (hn : n ≤ 1048576) : ∃ Z, Z.size = n ∧ (Instr.makeSlice 27 (.int .i64 (n : Int)) (.int .i64 (n : Int))).run Try.prog w = .ok (.slice (some ⟨w.heap.size, 0, none⟩) n n) (w.alloc (.cells Z 3)) := by
  obtain ⟨i0, hi, hz0, hz1, hz2⟩ := info_parts infoInt
  refine ⟨_, ?_, run_make w _ _ i0 _ Try.underlying27 hi hz0 .i64 .i64 (n : Int) (n : Int) (by omega) (by omega) (by rw [hz2]; omega) (by omega)⟩
  rw [hz1]
  simp [size_madeCells]

set_option maxHeartbeats 2000000 in
theorem toI_is (a : Option Addr) (n cap : Nat) (xs : List Int) (w : World) (hx : ReadsI w a n xs) (hn : n ≤ 1048576) :
    Calls Try.prog 31 #[.slice a n cap] w fun e w' => ∃ g, e = .returned (.slice (some ⟨g, 0, none⟩) n n) ∧ w'.ownsRow w.heap.size 3 1 (.slice (some ⟨g, 0, none⟩) n n) n (vals xs) ∧ w.grownBy w' none := by
  have hni : (n : Int) ≤ 1048576 := by omega
  obtain ⟨Z, hz, hmk⟩ := makeI_is w n hn
  have HZ := Lib.hid hz; clear hz
  have HN := Lib.hid hn; clear hn
  have HA := Lib.hid hx; clear hx
  go_enter Try.func31, Try.ntmps31
  go_wp2_with fail
  go_loopw [4] (fun i wr => ∃ k : Nat, (k : Int) ≤ n ∧ i = .int .i64 k ∧ Hid (FillI wr w.heap.size n (xs.take k)) ∧ Hid (w.grownBy wr none)) (fun i _ => n - (intOf i).toNat)
  case atStart => exact ⟨0, by omega, rfl, Lib.hid ⟨⟨Z, heap_alloc_new _ _, HZ.out, by simp⟩⟩, Lib.hid (g_alloc (grown_refl _) _)⟩
  case round =>
    obtain ⟨k, hk, rfl, HF, HG⟩ := hrel
    by_cases hlt : (k : Int) < n
    · have hkn : Hid (k < n) := Lib.hid (by omega)
      obtain ⟨x, hx⟩ := getI HA.out.len (k := k) hkn.out
      obtain ⟨b, o, rfl, d0⟩ := (HA.out.on HG.out).at_ k _ hx
      have HX := Lib.hid hx; clear hx
      obtain ⟨⟨z0, o0⟩, q0⟩ := HF.out.old hkn.out
      go_wp2_with fail
      go_roundw
      case rel => exact ⟨k + 1, by omega, by go_num, Lib.hid (HF.out.put HX.out hkn.out), Lib.hid (g_set HG.out _ _ _ (Nat.le_refl _))⟩
      case measure => simp [intOf]; omega
    · go_wp2_with fail
      go_ret
      obtain rfl : k = n := by omega
      exact ⟨_, rfl, (by have := HF.out; rw [← HA.out.len, List.take_length] at this; rw [HA.out.len] at this; exact this.own HA.out.len (Nat.le_refl _) HN.out), HG.out⟩

/-- The marks from r on. -/
def marksI (r n : Nat) : List Int := (List.range n).map fun k : Nat => ((r + k : Nat) : Int)
theorem marksI_len (r n : Nat) : (marksI r n).length = n := by simp [marksI]
theorem marksI_at {r n k : Nat} (h : k < n) : (marksI r n)[k]? = some ((r + k : Nat) : Int) := by simp [marksI, h]
/-- Marked so far. -/
def UptoI (r k : Nat) (ys : List Value) : Prop := ∀ j, j < k → ys[j]? = some (.int .i64 (r + j : Nat))
theorem UptoI.next {r n k : Nat} {ys : List Value} (h : UptoI r k ys) (hl : ys.length = n) (hk : k < n) : UptoI r (k + 1) (ys.set k (.int .i64 (r + k : Nat))) := by
  intro j hj
  rcases (show j < k ∨ j = k by omega) with e | rfl
  · rw [List.getElem?_set_ne (by omega)]; exact h j e
  · rw [List.getElem?_set_self (by omega)]
theorem uptoI_all {r n : Nat} {ys : List Value} (hl : ys.length = n) (h : UptoI r n ys) : ys = vals (marksI r n) := by
  refine List.ext_getElem? fun j => ?_
  by_cases hj : j < n
  · rw [h j hj, vals_at (marksI_at hj)]
  · rw [List.getElem?_eq_none (by omega), List.getElem?_eq_none (by rw [vals_len, marksI_len]; omega)]
theorem own_atI {w : World} {base : Nat} {a : Option Addr} {n cap : Nat} {xs : List Value} (h : w.ownsRow base 3 1 (.slice a n cap) n xs) (hn : 0 < n) :
    ∃ g, a = some ⟨g, 0, none⟩ ∧ (∀ j, j < n → w.cell? ⟨g, j, none⟩ = xs[j]?) ∧ ∀ j, w.frozen? ⟨g, j, none⟩ = false := by
  obtain ⟨g, cap', hv, hb, hlt⟩ := h.form hn
  simp only [Value.slice.injEq] at hv
  obtain ⟨rfl, _, rfl⟩ := hv
  exact ⟨g, rfl, fun j hj => h.cellAt j (by omega), fun j => h.frozenAt j⟩

set_option maxHeartbeats 2000000 in
theorem markI_is {base n cap r : Nat} {a : Option Addr} {xs : List Value} {w : World} (hn : n ≤ 1048576) (hr : r ≤ 1099511627776) (hown : w.ownsRow base 3 1 (.slice a n cap) n xs) :
    Calls Try.prog 28 #[.slice a n cap, .int .i64 r] w fun e w' => e = .returned (.int .i64 (r + n : Nat)) ∧ w'.ownsRow base 3 1 (.slice a n cap) n (vals (marksI r n)) ∧ w.grownBy w' (Value.slice a n cap).ownBlock := by
  have hni : (n : Int) ≤ 1048576 := by omega
  have hri : (r : Int) ≤ 1099511627776 := by omega
  have HN := Lib.hid hn; clear hn hr
  have HO := Lib.hid hown; clear hown
  go_enter Try.func28, Try.ntmps28
  go_wp2_with fail
  go_loopw [1, 5] (fun q i wr => ∃ k s : Nat, (k : Int) ≤ n ∧ i = .int .i64 k ∧ q = .int .i64 s ∧ Hid (s = r + k) ∧ Hid (∃ ys, wr.ownsRow base 3 1 (.slice a n cap) n ys ∧ UptoI r k ys) ∧ Hid (w.grownBy wr (Value.slice a n cap).ownBlock)) (fun _ i _ => n - (intOf i).toNat)
  case atStart => exact ⟨0, r, by omega, rfl, rfl, Lib.hid rfl, Lib.hid ⟨xs, HO.out, fun j hj => by omega⟩, Lib.hid ⟨rfl, rfl, rfl, Nat.le_refl _, fun _ _ _ => rfl⟩⟩
  case round =>
    obtain ⟨k, s, hk, rfl, rfl, HR, HY, HG⟩ := hrel
    by_cases hlt : (k : Int) < n
    · have HK := Lib.hid (show k < n by omega)
      have hr2 : (s : Int) ≤ 1099512676352 := by have := HR.out; omega
      obtain ⟨ys, hys, hms⟩ := HY.out
      obtain ⟨g, ha, hc, hf⟩ := own_atI hys (by omega)
      subst ha
      have hyl : ys.length = n := by have := hys.1; omega
      obtain ⟨z0, e0⟩ := some_of_lt (ys := ys) (j := k) (by omega)
      have d0 := (hc k (by omega)).trans e0
      have f0 := hf k
      have HYS := Lib.hid hys
      have HMS := Lib.hid (hms.next hyl HK.out)
      clear hys hms hc hf hyl e0
      go_wp2_with fail
      go_roundw
      case rel =>
        have s1 := HYS.out.stored k (.int .i64 (s : Int))
        refine ⟨k + 1, s + 1, by omega, by go_num, by go_num, Lib.hid (by have := HR.out; omega), Lib.hid ⟨_, s1.1, ?_⟩, Lib.hid (grown_on HG.out s1.2)⟩
        have h := HMS.out
        have hr := HR.out
        rw [show ((r + k : Nat) : Int) = (s : Int) by omega] at h
        exact h
      case measure => simp [intOf]; omega
    · obtain rfl : k = n := by omega
      go_wp2_with fail
      go_ret
      obtain ⟨ys, hys, hms⟩ := HY.out
      exact ⟨by rw [HR.out]; rfl, (uptoI_all (by have := hys.1; omega) hms) ▸ hys, HG.out⟩

set_option maxHeartbeats 2000000 in
theorem heldI_is {n cap r : Nat} {a : Option Addr} {w : World} (hn : n ≤ 1048576) (hr : r ≤ 1099511627776) (ho : ReadsI w a n (marksI r n)) :
    Calls Try.prog 29 #[.slice a n cap, .int .i64 r] w fun e w' => e = .returned (.int .i64 (r + n : Nat)) ∧ w' = w := by
  have hni : (n : Int) ≤ 1048576 := by omega
  have hri : (r : Int) ≤ 1099511627776 := by omega
  have HN := Lib.hid hn; clear hn hr
  have HO := Lib.hid ho; clear ho
  go_enter Try.func29, Try.ntmps29
  go_wp2_with fail
  go_loopw [1, 5] (fun q i wr => ∃ k s : Nat, (k : Int) ≤ n ∧ i = .int .i64 k ∧ q = .int .i64 s ∧ Hid (s = r + k) ∧ wr = w) (fun _ i _ => n - (intOf i).toNat)
  case atStart => exact ⟨0, r, by omega, rfl, rfl, Lib.hid rfl, rfl⟩
  case round =>
    obtain ⟨k, s, hk, rfl, rfl, HR, rfl⟩ := hrel
    by_cases hlt : (k : Int) < n
    · have hr2 : (s : Int) ≤ 1099512676352 := by have := HR.out; omega
      obtain ⟨g, o, ha, d0⟩ := HO.out.at_ k _ (marksI_at (by omega))
      subst ha
      have hr := HR.out
      rw [show ((r + k : Nat) : Int) = (s : Int) by omega] at d0
      clear hr
      go_wp2_with fail
      go_roundw
      case rel => exact ⟨k + 1, s + 1, by omega, by go_num, by go_num, Lib.hid (by have := HR.out; omega), trivial⟩
      case measure => simp [intOf]; omega
    · obtain rfl : k = n := by omega
      go_wp2_with fail
      go_ret
      exact ⟨by rw [HR.out]; rfl, rfl⟩
theorem markI1 {base n cap : Nat} {a : Option Addr} {xs : List Value} {w : World} (hn : n ≤ 1048576) (hown : w.ownsRow base 3 1 (.slice a n cap) n xs) :
    Calls Try.prog 28 #[.slice a n cap, .int .i64 1] w fun e w' => e = .returned (.int .i64 (1 + n : Nat)) ∧ w'.ownsRow base 3 1 (.slice a n cap) n (vals (marksI 1 n)) ∧ w.grownBy w' (Value.slice a n cap).ownBlock := markI_is (r := 1) hn (by omega) hown
theorem heldI1 {n cap : Nat} {a : Option Addr} {w : World} (hn : n ≤ 1048576) (ho : ReadsI w a n (marksI 1 n)) :
    Calls Try.prog 29 #[.slice a n cap, .int .i64 1] w fun e w' => e = .returned (.int .i64 (1 + n : Nat)) ∧ w' = w := heldI_is (r := 1) hn (by omega) ho
end Go.Proofs.Ytaccigmkddomaaa.Ints
