/- States: in memory; an exact law's own argument, a state that came in, opened; marks from any number on. Plain lemmas and two contracts over cells.
   Conditions: at most 2^20 leaves. -/
import Derived.Test.YtaccigmkddomaaaInts
set_option maxRecDepth 100000
namespace Go.Proofs.Ytaccigmkddomaaa.State
open Go.ChangeShapes Go.WideShapes Go.ChangeAt Go.RowKit Go.Joins Go.Proofs.Ytaccigmkddomaaa.Cell Go.Proofs.Ytaccigmkddomaaa.Mesh Go.Proofs.Ytaccigmkddomaaa.Law Go.Proofs.Ytaccigmkddomaaa.Ints Go.Deep

/-- A state read: leaves, masses, tracers, beds. -/
structure ReadsS (w : World) (a1 a2 a3 a4 : Option Addr) (n1 n2 n3 n4 : Nat) (xs : List C3) (ms ts bs : List Int) : Prop where
  l : Reads w a1 n1 xs
  m : ReadsI w a2 n2 ms
  t : ReadsI w a3 n3 ts
  b : ReadsI w a4 n4 bs
theorem ReadsS.on {w w' : World} {a1 a2 a3 a4 : Option Addr} {n1 n2 n3 n4 : Nat} {xs : List C3} {ms ts bs : List Int} (h : ReadsS w a1 a2 a3 a4 n1 n2 n3 n4 xs ms ts bs) (hg : w.grownBy w' none) : ReadsS w' a1 a2 a3 a4 n1 n2 n3 n4 xs ms ts bs :=
  ⟨h.l.on hg, h.m.on hg, h.t.on hg, h.b.on hg⟩
/-- The law's own state: what the argument holds. -/
structure ArgS (w : World) (a1 a2 a3 a4 : Option Addr) (n1 n2 n3 n4 : Nat) (xs : List C3) (ms ts bs : List Int) : Prop where
  l : ReadsAt w a1 n1 xs
  m : ReadsI w a2 n2 ms
  t : ReadsI w a3 n3 ts
  b : ReadsI w a4 n4 bs
theorem ArgS.on {w w' : World} {a1 a2 a3 a4 : Option Addr} {n1 n2 n3 n4 : Nat} {xs : List C3} {ms ts bs : List Int} (h : ArgS w a1 a2 a3 a4 n1 n2 n3 n4 xs ms ts bs) (hg : w.grownBy w' none) : ArgS w' a1 a2 a3 a4 n1 n2 n3 n4 xs ms ts bs :=
  ⟨h.l.on hg, h.m.on hg, h.t.on hg, h.b.on hg⟩

theorem array5 {α : Type} {cs : Array α} (h : cs.size = 5) : ∃ c0 c1 c2 c3 c4, cs = #[c0, c1, c2, c3, c4] := by
  obtain ⟨l⟩ := cs
  match l, h with
  | [c0, c1, c2, c3, c4], _ => exact ⟨c0, c1, c2, c3, c4, rfl⟩
theorem cellsS : Try.prog.cellsOf 47 = 5 := by kernel_rfl
theorem cellsM : Try.prog.cellsOf 45 = 2 := by kernel_rfl
theorem cellsIds : Try.prog.cellsOf 43 = 1 := by kernel_rfl
theorem cellsInts : Try.prog.cellsOf 27 = 1 := by kernel_rfl

theorem open_state {H : Type} {enc : TypeId × Value → H} {w : World} {base b0 : Nat} {spare : Nat → Bool} {held : Bool} {r : Reach} {v : Value} {d : DataW H} {p : List MemPlace}
    (hv : Value.okWide Try.prog w r b0 47 v) (h : DataW.Trod enc Try.prog w base spare held 47 v d p) :
    ∃ R a1 n1 c1 a2 n2 c2 a3 n3 c3 a4 n4 c4 xs ms ts bs, v = .agg #[.int .i64 R, .slice a1 n1 c1, .slice a2 n2 c2, .slice a3 n3 c3, .slice a4 n4 c4] ∧ n1 ≤ maxLen ∧ n2 ≤ maxLen ∧ n3 ≤ maxLen ∧ n4 ≤ maxLen ∧ ArgS w a1 a2 a3 a4 n1 n2 n3 n4 xs ms ts bs := by
  obtain ⟨cs, rfl, hsz⟩ := okWide_struct Try.underlying47 hv
  obtain ⟨e0, e1, e2, e3, e4, rfl⟩ := array5 (hsz.trans cellsS)
  obtain ⟨fuel, hf⟩ := h
  obtain ⟨y0, y1, y2, y3, n, -, -, h0, h1, h2, h3⟩ := trod_struct4 Try.underlying47 hf
  simp only [cellsM, cellsInts] at h0 h1 h2 h3
  simp [Value.cells] at h0 h1 h2 h3
  obtain ⟨z0, z1, n', -, -, k0, k1⟩ := trod_struct2 Try.underlying45 h0
  simp only [cellsInt, cellsIds] at k0 k1
  simp at k0 k1
  obtain ⟨R, eR, -, -⟩ := DataW.trod_int Try.underlying3 k0
  simp at eR
  obtain ⟨a1, n1, c1, xs, rfl, q1, hl⟩ := open_ids k1
  obtain ⟨a2, n2, c2, ms, rfl, q2, hm⟩ := open_ints h1
  obtain ⟨a3, n3, c3, ts, rfl, q3, ht⟩ := open_ints h2
  obtain ⟨a4, n4, c4, bs, rfl, q4, hb⟩ := open_ints h3
  exact ⟨R, a1, n1, c1, a2, n2, c2, a3, n3, c3, a4, n4, c4, xs, ms, ts, bs, by rw [eR], q1, q2, q3, q4, ⟨hl, hm, ht, hb⟩⟩

theorem apart_older {w w' : World} {B1 B2 n1 n2 s1 s2 : Nat} {t1 t2 : TypeId} {u v : Value} {xs ys : List Value} (h1 : w.ownsRow B1 t1 s1 u n1 xs) (h2 : w'.ownsRow B2 t2 s2 v n2 ys) (hle : w.heap.size ≤ B2) : Apart u v :=
  fun k hu hv => by have := (h1.lt k hu).2; have := (h2.lt k hv).1; omega
theorem own_on {w w' : World} {base n s : Nat} {t : TypeId} {v : Value} {ys : List Value} (h : w.ownsRow base t s v n ys) (hg : w.grownBy w' none) : w'.ownsRow base t s v n ys := h.kept hg (by cases v.ownBlock <;> simp)
theorem own_turned {w w' : World} {base n s : Nat} {t : TypeId} {v : Value} {ys : List Value} {row : Option Nat} (h : w.ownsRow base t s v n ys) (hg : w.grownBy w' row) (hne : ∀ k, v.ownBlock = some k → row ≠ some k) : w'.ownsRow base t s v n ys :=
  h.kept hg (by cases hb : v.ownBlock with | none => exact .inl rfl | some k => exact .inr (fun e => hne k hb e.symm))
/-- A state in memory of the call's own: its four rows. -/
structure OwnS (w : World) (base : Nat) (v1 v2 v3 v4 : Value) (n1 n2 n3 n4 : Nat) (xs : List C3) (ms ts bs : List Int) : Prop where
  l : w.ownsRow base 35 3 v1 n1 (flatC xs)
  m : w.ownsRow base 3 1 v2 n2 (vals ms)
  t : w.ownsRow base 3 1 v3 n3 (vals ts)
  b : w.ownsRow base 3 1 v4 n4 (vals bs)
  lm : Apart v1 v2
  lt : Apart v1 v3
  lb : Apart v1 v4
  mt : Apart v2 v3
  mb : Apart v2 v4
  tb : Apart v3 v4
section
variable {w w' : World} {base base' n1 n2 n3 n4 : Nat} {v1 v2 v3 v4 : Value} {xs : List C3} {ms ts bs : List Int}
theorem OwnS.on (h : OwnS w base v1 v2 v3 v4 n1 n2 n3 n4 xs ms ts bs) (hg : w.grownBy w' none) : OwnS w' base v1 v2 v3 v4 n1 n2 n3 n4 xs ms ts bs :=
  ⟨own_on h.l hg, own_on h.m hg, own_on h.t hg, own_on h.b hg, h.lm, h.lt, h.lb, h.mt, h.mb, h.tb⟩
theorem OwnS.from (h : OwnS w base v1 v2 v3 v4 n1 n2 n3 n4 xs ms ts bs) (hb : base' ≤ base) : OwnS w base' v1 v2 v3 v4 n1 n2 n3 n4 xs ms ts bs :=
  ⟨own_from h.l hb, own_from h.m hb, own_from h.t hb, own_from h.b hb, h.lm, h.lt, h.lb, h.mt, h.mb, h.tb⟩
theorem OwnS.reads {a1 a2 a3 a4 : Option Addr} {c1 c2 c3 c4 : Nat} (h : OwnS w base (.slice a1 n1 c1) (.slice a2 n2 c2) (.slice a3 n3 c3) (.slice a4 n4 c4) n1 n2 n3 n4 xs ms ts bs) : ReadsS w a1 a2 a3 a4 n1 n2 n3 n4 xs ms ts bs :=
  ⟨own_reads h.l, own_readsI h.m, own_readsI h.t, own_readsI h.b⟩
/-- The state's rows, one group. -/
def stateG (v1 v2 v3 v4 : Value) (n1 n2 n3 n4 : Nat) (xs : List C3) (ms ts bs : List Int) : Grp :=
  ⟨fun W => OwnS W 0 v1 v2 v3 v4 n1 n2 n3 n4 xs ms ts bs, v1.ownBlock.toList ++ (v2.ownBlock.toList ++ (v3.ownBlock.toList ++ v4.ownBlock.toList)), fun W W' h hp =>
    ⟨(rowG _ _ v1 _ _).loc W W' (fun b hb => h b (List.mem_append_left _ hb)) hp.l, (rowG _ _ v2 _ _).loc W W' (fun b hb => h b (List.mem_append_right _ (List.mem_append_left _ hb))) hp.m,
      (rowG _ _ v3 _ _).loc W W' (fun b hb => h b (List.mem_append_right _ (List.mem_append_right _ (List.mem_append_left _ hb)))) hp.t, (rowG _ _ v4 _ _).loc W W' (fun b hb => h b (List.mem_append_right _ (List.mem_append_right _ (List.mem_append_right _ hb)))) hp.b,
      hp.lm, hp.lt, hp.lb, hp.mt, hp.mb, hp.tb⟩⟩
theorem OwnS.blocks (h : OwnS w base v1 v2 v3 v4 n1 n2 n3 n4 xs ms ts bs) : ∀ b ∈ v1.ownBlock.toList ++ (v2.ownBlock.toList ++ (v3.ownBlock.toList ++ v4.ownBlock.toList)), base ≤ b ∧ b < w.heap.size := by
  intro b hb
  rcases List.mem_append.1 hb with hb | hb
  · exact h.l.lt b (by simpa using hb)
  · rcases List.mem_append.1 hb with hb | hb
    · exact h.m.lt b (by simpa using hb)
    · rcases List.mem_append.1 hb with hb | hb
      · exact h.t.lt b (by simpa using hb)
      · exact h.b.lt b (by simpa using hb)
theorem Held.state {W : World} {gs : List Grp} (h : Held w W gs) (hg : W.grownBy w' none) (ho : OwnS w' W.heap.size v1 v2 v3 v4 n1 n2 n3 n4 xs ms ts bs) : Held w w' (gs ++ [stateG v1 v2 v3 v4 n1 n2 n3 n4 xs ms ts bs]) :=
  h.add hg (ho.from (Nat.zero_le _)) ho.blocks
end

/-- The marks from r on, as cells. -/
def marksC (r n : Nat) : List C3 := (List.range n).map fun k : Nat => ((r + 3 * k : Nat), (r + 1 + 3 * k : Nat), (r + 2 + 3 * k : Nat))
theorem marksC_len (r n : Nat) : (marksC r n).length = n := by simp [marksC]
theorem marksC_at {r n k : Nat} (h : k < n) : (marksC r n)[k]? = some (((r + 3 * k : Nat) : Int), ((r + 1 + 3 * k : Nat) : Int), ((r + 2 + 3 * k : Nat) : Int)) := by simp [marksC, h]
theorem markedC_eq {r n : Nat} {ys : List Value} (hl : ys.length = n * 3) (h : ∀ j, j < n * 3 → ys[j]? = some (.int .i64 (r + j : Nat))) : ys = flatC (marksC r n) := by
  refine List.ext_getElem? fun j => ?_
  by_cases hj : j < n * 3
  · have hk : j / 3 < n := by omega
    obtain ⟨a, b, c⟩ := flatC_at (marksC r n) (j / 3) _ (marksC_at hk)
    rw [h j hj]
    rcases (show j = j / 3 * 3 ∨ j = j / 3 * 3 + 1 ∨ j = j / 3 * 3 + 2 by omega) with e | e | e
    · rw [e, a, ← e]; congr 3; omega
    · rw [e, b, ← e]; congr 3; omega
    · rw [e, c, ← e]; congr 3; omega
  · rw [List.getElem?_eq_none (by omega), List.getElem?_eq_none (by rw [flatC_len, marksC_len]; omega)]
/-- Marked so far. -/
def UptoC (r k : Nat) (ys : List Value) : Prop := ∀ j, j < k * 3 → ys[j]? = some (.int .i64 (r + j : Nat))
theorem UptoC.next {r n k : Nat} {ys : List Value} (h : UptoC r k ys) (hl : ys.length = n * 3) (hk : k < n) :
    UptoC r (k + 1) (((ys.set (k * 3) (.int .i64 (r + 3 * k : Nat))).set (k * 3 + 1) (.int .i64 (r + 1 + 3 * k : Nat))).set (k * 3 + 2) (.int .i64 (r + 2 + 3 * k : Nat))) := by
  intro j hj
  rcases (show j < k * 3 ∨ j = k * 3 ∨ j = k * 3 + 1 ∨ j = k * 3 + 2 by omega) with e | rfl | rfl | rfl
  · rw [List.getElem?_set_ne (by omega), List.getElem?_set_ne (by omega), List.getElem?_set_ne (by omega)]; exact h j e
  · rw [List.getElem?_set_ne (by omega), List.getElem?_set_ne (by omega), List.getElem?_set_self (by omega)]; congr 3; omega
  · rw [List.getElem?_set_ne (by omega), List.getElem?_set_self (by simp; omega)]; congr 3; omega
  · rw [List.getElem?_set_self (by simp; omega)]; congr 3; omega

set_option maxHeartbeats 2000000 in
theorem markC_is {base n cap r : Nat} {a : Option Addr} {xs : List Value} {w : World} (hn : n ≤ 1048576) (hr : r ≤ 1099511627776) (hown : w.ownsRow base 35 3 (.slice a n cap) n xs) :
    Calls Try.prog 78 #[.slice a n cap, .int .i64 r] w fun e w' => e = .returned (.int .i64 (r + 3 * n : Nat)) ∧ w'.ownsRow base 35 3 (.slice a n cap) n (flatC (marksC r n)) ∧ w.grownBy w' (Value.slice a n cap).ownBlock := by
  have hni : (n : Int) ≤ 1048576 := by omega
  have hri : (r : Int) ≤ 1099511627776 := by omega
  have HN := Lib.hid hn; clear hn hr
  have HO := Lib.hid hown; clear hown
  go_enter Try.func78, Try.ntmps78
  go_wp2_with fail
  go_loopw [1, 5] (fun q i wr => ∃ k s : Nat, (k : Int) ≤ n ∧ i = .int .i64 k ∧ q = .int .i64 s ∧ Hid (s = r + 3 * k) ∧ Hid (∃ ys, wr.ownsRow base 35 3 (.slice a n cap) n ys ∧ UptoC r k ys) ∧ Hid (w.grownBy wr (Value.slice a n cap).ownBlock)) (fun _ i _ => n - (intOf i).toNat)
  case atStart => exact ⟨0, r, by omega, rfl, rfl, Lib.hid rfl, Lib.hid ⟨xs, HO.out, fun j hj => by omega⟩, Lib.hid ⟨rfl, rfl, rfl, Nat.le_refl _, fun _ _ _ => rfl⟩⟩
  case round =>
    obtain ⟨k, s, hk, rfl, rfl, HR, HY, HG⟩ := hrel
    by_cases hlt : (k : Int) < n
    · have HK := Lib.hid (show k < n by omega)
      have hr2 : (s : Int) ≤ 1099514773504 := by have := HR.out; omega
      obtain ⟨ys, hys, hms⟩ := HY.out
      obtain ⟨g, ha, hc, hf⟩ := own_at hys (by omega)
      subst ha
      have hyl : ys.length = n * 3 := hys.1
      obtain ⟨z0, e0⟩ := some_of_lt (ys := ys) (j := k * 3) (by omega)
      obtain ⟨z1, e1⟩ := some_of_lt (ys := ys) (j := k * 3 + 1) (by omega)
      obtain ⟨z2, e2⟩ := some_of_lt (ys := ys) (j := k * 3 + 2) (by omega)
      have d0 := (hc (k * 3) (by omega)).trans e0
      have d1 := (hc (k * 3 + 1) (by omega)).trans e1
      have d2 := (hc (k * 3 + 2) (by omega)).trans e2
      have f0 := hf (k * 3)
      have f1 := hf (k * 3 + 1)
      have f2 := hf (k * 3 + 2)
      have HYS := Lib.hid hys
      have HMS := Lib.hid (hms.next hyl HK.out)
      clear hys hms hc hf hyl e0 e1 e2
      go_wp2_with fail
      go_roundw
      case rel =>
        have s1 := HYS.out.stored (k * 3) (.int .i64 (s : Int))
        have s2 := s1.1.stored (k * 3 + 1) (.int .i64 ((s : Int) + 1))
        have s3 := s2.1.stored (k * 3 + 2) (.int .i64 ((s : Int) + 1 + 1))
        refine ⟨k + 1, s + 3, by omega, by go_num, by go_num, Lib.hid (by have := HR.out; omega), Lib.hid ⟨_, s3.1, ?_⟩, Lib.hid (grown_on (grown_on (grown_on HG.out s1.2) s2.2) s3.2)⟩
        have h := HMS.out
        have hr := HR.out
        rw [show ((r + 3 * k : Nat) : Int) = (s : Int) by omega, show ((r + 1 + 3 * k : Nat) : Int) = (s : Int) + 1 by omega, show ((r + 2 + 3 * k : Nat) : Int) = (s : Int) + 1 + 1 by omega] at h
        exact h
      case measure => simp [intOf]; omega
    · obtain rfl : k = n := by omega
      go_wp2_with fail
      go_ret
      obtain ⟨ys, hys, hms⟩ := HY.out
      exact ⟨by rw [HR.out]; rfl, (markedC_eq hys.1 hms) ▸ hys, HG.out⟩

theorem markM_is {base n cap r : Nat} {a : Option Addr} {xs : List Value} (R : Int) {w : World} (hn : n ≤ 1048576) (hr : r ≤ 1099511627776) (hown : w.ownsRow base 35 3 (.slice a n cap) n xs) :
    Calls Try.prog 55 #[.agg #[.int .i64 R, .slice a n cap], .int .i64 r] w fun e w' => e = .returned (.int .i64 (r + 3 * n : Nat)) ∧ w'.ownsRow base 35 3 (.slice a n cap) n (flatC (marksC r n)) ∧ w.grownBy w' (Value.slice a n cap).ownBlock := by
  have HN := Lib.hid hn; clear hn
  have HR := Lib.hid hr; clear hr
  have HO := Lib.hid hown; clear hown
  go_enter Try.func55, Try.ntmps55
  go_wp2_with (go_at_call 78; (with_reducible refine (markC_is HN.out HR.out (HO.out.alloc _)).mono ?_); rintro e w' ⟨rfl, ho, hg⟩; have HO1 := Lib.hid ho; have HG := Lib.hid hg; clear ho hg)
  go_ret
  exact ⟨rfl, HO1.out, grown_on (World.grownBy_alloc _ _ _) HG.out⟩

theorem markM1 {base n cap : Nat} {a : Option Addr} {xs : List Value} (R : Int) {w : World} (hn : n ≤ 1048576) (hown : w.ownsRow base 35 3 (.slice a n cap) n xs) :
    Calls Try.prog 55 #[.agg #[.int .i64 R, .slice a n cap], .int .i64 1] w fun e w' => e = .returned (.int .i64 (1 + 3 * n : Nat)) ∧ w'.ownsRow base 35 3 (.slice a n cap) n (flatC (marksC 1 n)) ∧ w.grownBy w' (Value.slice a n cap).ownBlock := markM_is R (r := 1) hn (by omega) hown
/-- What is left of L: L less the sum, or -1. -/
def Left (L r : Int) (n : Nat) : Prop := (0 ≤ r ∧ r + n = L) ∨ r = -1
theorem left_of (L : Int) (n : Nat) (_ : 0 ≤ L) : Left L (if (n : Int) ≤ L then L - n else -1) n := by
  unfold Left
  split
  · left; omega
  · right; rfl
theorem szMesh_is (R : Int) (a : Option Addr) (n cap : Nat) (L : Int) (hn : n ≤ maxLen) (h0 : 0 ≤ L) (h1 : L ≤ 1048576) :
    ∃ r, Left L r n ∧ ∀ w : World, Calls Try.prog 32 #[.agg #[.int .i64 R, .slice a n cap], .int .i64 L] w fun e w' => e = .returned (.int .i64 r) ∧ w.grownBy w' none :=
  ⟨_, left_of L n h0, fun u => szM_to R a n cap L hn h0 h1 u⟩
theorem szInts_is (a : Option Addr) (n cap : Nat) (L : Int) (hn : n ≤ maxLen) (h0 : 0 ≤ L) (h1 : L ≤ 1048576) :
    ∃ r, Left L r n ∧ ∀ w : World, Calls Try.prog 51 #[.slice a n cap, .int .i64 L] w fun e w' => e = .returned (.int .i64 r) ∧ w.grownBy w' none :=
  ⟨_, left_of L n h0, fun u => (szI_is a n cap L hn h0 h1 u).mono fun _ _ ⟨he, hw⟩ => ⟨he, hw ▸ grown_refl _⟩⟩
end Go.Proofs.Ytaccigmkddomaaa.State
