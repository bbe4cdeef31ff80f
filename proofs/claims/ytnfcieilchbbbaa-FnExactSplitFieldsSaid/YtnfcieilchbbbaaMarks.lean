/- The exact laws' own helpers over texts, as contracts: two rows that hold the same texts compare as equal; a row is marked; the marks are held. -/
import Derived.Test.YtnfcieilchbbbaaAppendField
import Derived.Test.YtnfcieilchbbbaaDec
import Derived.Deep.RegionHeld3
namespace Go.Proofs.Ytnfcieilchbbbaa.Fld
open Go.ChangeShapes Go.WideShapes Go.ChangeAt Go.RowKit

/-- Memory is as it was. -/
def Still (w w' : World) : Prop := w'.heap = w.heap ∧ w'.os = w.os ∧ w'.tape = w.tape ∧ w'.output = w.output
theorem Still.refl (w : World) : Still w w := ⟨rfl, rfl, rfl, rfl⟩
theorem Still.drewN {w w' : World} (h : Still w w') (n : Nat) : Still w (w'.drewN n) := h
theorem Still.below {w w' : World} (h : Still w w') (B : Nat) : Below B w w' := ⟨h.2.1, h.2.2.1, h.2.2.2, by rw [h.1]; exact Nat.le_refl _, fun k _ => by rw [h.1]⟩
theorem Still.cell {w w' : World} (h : Still w w') (p : Addr) : w'.cell? p = w.cell? p := World.cell?_of_block (by rw [h.1])

theorem own_below {w w' : World} {base : Nat} {e : TypeId} {size : Nat} {v : Value} {n : Nat} {xs : List Value} (h : w.ownsRow base e size v n xs) (hb : Below w.heap.size w w') : w'.ownsRow base e size v n xs :=
  h.kept (row := Option.none) ⟨hb.os, hb.tape, hb.output, hb.size, fun k hk _ => hb.block k hk⟩ (by cases hv : v.ownBlock <;> simp)

theorem own_cell {w : World} {base : Nat} {e : TypeId} {a : Option Addr} {n cap : Nat} {xs : List Value} (h : w.ownsRow base e 1 (.slice a n cap) n xs) (hn : 0 < n) :
    ∃ g, a = some ⟨g, 0, none⟩ ∧ base ≤ g ∧ g < w.heap.size ∧ (∀ k, k < n → w.cell? ⟨g, k, none⟩ = xs[k]?) ∧ ∀ k, w.frozen? ⟨g, k, none⟩ = false := by
  obtain ⟨g, cap', hv, hb, hlt⟩ := h.form hn
  simp only [Value.slice.injEq] at hv
  obtain ⟨rfl, _, rfl⟩ := hv
  exact ⟨g, rfl, hb, hlt, fun k hk => h.cellAt k (by omega), fun k => h.frozenAt k⟩

def EqDone (w : World) (e : Ending) (w' : World) : Prop := e = .returned (.bool true) ∧ Still w w'

theorem eq_same {B1 B2 n : Nat} {a1 a2 : Option Addr} {c1 c2 : Nat} {fs : List (List UInt8)} {w : World} (hn : n ≤ 1000) (h1 : w.ownsRow B1 9 1 (.slice a1 n c1) n (strs fs)) (h2 : w.ownsRow B2 9 1 (.slice a2 n c2) n (strs fs)) :
    Calls Try.prog 17 #[.slice a1 n c1, .slice a2 n c2] w (EqDone w) := by
  have hni : (n : Int) ≤ 1000 := by omega
  have HN := Lib.hid hn; clear hn
  have HA := Lib.hid h1; clear h1
  have HB := Lib.hid h2; clear h2
  have hlf : Hid (fs.length = n) := Lib.hid (by have := HA.out.1; rw [strs_length] at this; omega)
  go_enter Try.func17, Try.ntmps17
  go_wp2_with fail
  go_loopw [5] (fun i wr => ∃ k : Nat, (k : Int) ≤ n ∧ i = .int .i64 k ∧ Still w wr) (fun i _ => n - (intOf i).toNat)
  case atStart => exact ⟨0, by omega, rfl, Still.refl w⟩
  case round =>
    obtain ⟨k, hk, rfl, hst⟩ := hrel
    have HS := Lib.hid hst; clear hst
    by_cases hlt : (k : Int) < n
    · obtain ⟨g1, ha1, _, _, hc1, _⟩ := own_cell HA.out (by omega)
      obtain ⟨g2, ha2, _, _, hc2, _⟩ := own_cell HB.out (by omega)
      subst ha1 ha2
      have hval : (strs fs)[k]? = some (.string ⟨(fs.getD k []).toArray⟩) := by
        have hl : k < fs.length := by rw [hlf.out]; omega
        simp [strs, List.getD_eq_getElem?_getD, List.getElem?_eq_getElem hl]
      have d1 : wr.cell? ⟨g1, k, none⟩ = some (.string ⟨(fs.getD k []).toArray⟩) := by rw [HS.out.cell, hc1 k (by omega), hval]
      have d2 : wr.cell? ⟨g2, k, none⟩ = some (.string ⟨(fs.getD k []).toArray⟩) := by rw [HS.out.cell, hc2 k (by omega), hval]
      generalize (⟨(fs.getD k []).toArray⟩ : ByteArray) = t at d1 d2
      clear hc1 hc2 hval
      go_wp2_with fail
      go_quiet (fail)
      go_wp2_with fail
      go_roundw
      case rel => exact ⟨k + 1, by omega, by go_num, HS.out⟩
      case measure => simp [intOf]; omega
    · go_wp2_with fail
      go_ret
      exact ⟨rfl, HS.out⟩
/-- The mark of a number. -/
def mark (m : Nat) : ByteArray := ⟨#[109]⟩ ++ ⟨(Fmt.dd m).toArray⟩

def MarkDone (m : Nat) (w : World) (e : Ending) (w' : World) : Prop := e = .returned (.string (mark m)) ∧ Below w.heap.size w w'

theorem mark_is (m0 : Nat) (hm0 : 0 < m0) (hm1 : m0 ≤ 100000) (w : World) :
    Calls Try.prog 29 #[.int .i64 (m0 : Int)] w (MarkDone m0 w) := by
  have hpos : ¬ (m0 : Int) ≤ 0 := by omega
  have hle : (m0 : Int) ≤ 100000 := by omega
  have H0 := Lib.hid hm0; clear hm0 hm1
  go_enter Try.func29, Try.ntmps29
  go_wp2_with fail
  go_loopw [0, 3] (fun n s wr => ∃ (m : Nat) (t : ByteArray), (m : Int) ≤ m0 ∧ n = .int .i64 (m : Int) ∧ s = .string t ∧ Hid (Fmt.dd m0 = Fmt.dd m ++ t.data.toList) ∧ Below w.heap.size w wr) (fun n _ _ => (intOf n).toNat)
  case atStart => exact ⟨m0, ⟨#[]⟩, by omega, rfl, rfl, Lib.hid (by simp), Below.refl _ _⟩
  case round =>
    obtain ⟨m, t, hm, rfl, rfl, HD, hbel⟩ := hrel
    have HBel := Lib.hid hbel; clear hbel
    have hts : ¬ 9223372036854775807 < 1 + t.size := by
      have h1 := congrArg List.length HD.out
      have h2 := Fmt.dd_len m0 (by omega)
      have h3 : t.data.toList.length = t.size := by simp
      simp only [List.length_append] at h1
      omega
    by_cases hz : m = 0
    · subst hz
      have he : t = ⟨(Fmt.dd m0).toArray⟩ := by
        have h := HD.out
        simp only [Fmt.dd, if_true, List.nil_append] at h
        rw [show Fmt.dd m0 = t.data.toList from h]
      have HE := Lib.hid he; clear he
      go_wp2_with fail
      go_ret
      refine ⟨?_, HBel.out⟩
      rw [show mark m0 = ⟨#[109]⟩ ++ t by rw [HE.out]; rfl]
      rfl
    · have hgt : 0 < (m : Int) := by omega
      have hdv := Hex.dig_val (m % 10) (by omega)
      have hcv := Fmt.conv_val (48 + (m : Int) % 10) (Hex.dig (m % 10)) (by rw [hdv]; rw [if_pos (by omega)]; omega) wr
      clear hdv
      have HZ := Lib.hid hz; clear hz
      go_wp2_with fail
      go_roundw
      case rel =>
        refine ⟨m / 10, ⟨#[Hex.dig (m % 10)]⟩ ++ t, by omega, by go_num, rfl, Lib.hid ?_, HBel.out.alloc HBel.out.size _⟩
        rw [HD.out, Fmt.dd_step m (by have := HZ.out; omega)]
        simp
      case measure => simp [intOf]; omega
theorem grown_trans {a b c : World} {row : Option Nat} (h : a.grownBy b row) (k : b.grownBy c row) : a.grownBy c row :=
  ⟨k.os.trans h.os, k.tape.trans h.tape, k.output.trans h.output, Nat.le_trans h.size k.size, fun i hi hne => (k.block i (Nat.lt_of_lt_of_le hi h.size) hne).trans (h.block i hi hne)⟩
theorem grown_of_below {w w' : World} (h : Below w.heap.size w w') (row : Option Nat) : w.grownBy w' row := ⟨h.os, h.tape, h.output, h.size, fun k hk _ => h.block k hk⟩

def MarkAll (B n : Nat) (a : Option Addr) (cap : Nat) (w : World) (e : Ending) (w' : World) : Prop :=
  e = .returned (.int .i64 (1 + (n : Int))) ∧ (∃ ys, w'.ownsRow B 9 1 (.slice a n cap) n ys ∧ ∀ j, j < n → ys[j]? = some (.string (mark (1 + j)))) ∧ w.grownBy w' (Value.slice a n cap).ownBlock

theorem ret_i64 {a b : Int} (h : a = b) : Ending.returned (.int .i64 a) = .returned (.int .i64 b) := by rw [h]

theorem mark_all {B n : Nat} {a : Option Addr} {cap : Nat} {xs : List Value} {w : World} (hn : n ≤ 1000) (hown : w.ownsRow B 9 1 (.slice a n cap) n xs) :
    Calls Try.prog 18 #[.slice a n cap, .int .i64 1] w (MarkAll B n a cap w) := by
  have hni : (n : Int) ≤ 1000 := by omega
  have HN := Lib.hid hn; clear hn
  have HO := Lib.hid hown; clear hown
  go_enter Try.func18, Try.ntmps18
  go_wp2_with fail
  go_loopw [1, 5] (fun q i wr => ∃ k r : Nat, (k : Int) ≤ n ∧ i = .int .i64 k ∧ q = .int .i64 r ∧ Hid (r = 1 + k) ∧ Hid (∃ ys, wr.ownsRow B 9 1 (.slice a n cap) n ys ∧ ∀ j, j < k → ys[j]? = some (.string (mark (1 + j)))) ∧ w.grownBy wr (Value.slice a n cap).ownBlock) (fun _ i _ => n - (intOf i).toNat)
  case atStart => exact ⟨0, 1, by omega, rfl, rfl, Lib.hid rfl, Lib.hid ⟨xs, HO.out, fun j hj => by omega⟩, ⟨rfl, rfl, rfl, Nat.le_refl _, fun _ _ _ => rfl⟩⟩
  case round =>
    obtain ⟨k, r, hk, rfl, rfl, HR, HY, hgr⟩ := hrel
    have HG := Lib.hid hgr; clear hgr
    by_cases hlt : (k : Int) < n
    · have hr2 : (r : Int) ≤ 1001 := by have := HR.out; omega
      go_wp2_with fail
      refine (mark_is r (by have := HR.out; omega) (by omega) _).mono ?_; rintro e w1 ⟨rfl, hb1⟩
      have HB1 := Lib.hid hb1; clear hb1
      obtain ⟨ys, hys, hms⟩ := HY.out
      have hys1 := own_below hys HB1.out
      obtain ⟨g, ha, _, hgl, hc, hf⟩ := own_cell hys1 (by omega)
      subst ha
      have hyl : ys.length = n := by have := hys1.1; omega
      have hcell : w1.cell? ⟨g, k, none⟩ = some (ys.getD k (.int .i64 0)) := by
        rw [hc k (by omega), List.getD_eq_getElem?_getD, List.getElem?_eq_getElem (by omega)]; rfl
      have hfree := hf k
      have HYS := Lib.hid hys1; clear hys1 hys
      have HMS := Lib.hid hms; clear hms hc hf hyl
      go_wp2_with fail
      go_roundw
      case rel =>
        have hst := HYS.out.stored k (.string (mark r))
        have hyl : ys.length = n := by have := HYS.out.1; omega
        refine ⟨k + 1, r + 1, by omega, by go_num, by go_num, Lib.hid (by have := HR.out; omega), Lib.hid ⟨_, hst.1, fun j hj => ?_⟩, ?_⟩
        · by_cases hjk : j = k
          · subst hjk
            rw [List.getElem?_set_self (by omega), HR.out]
          · rw [List.getElem?_set_ne (by omega)]
            exact HMS.out j (by omega)
        · exact grown_trans (grown_trans HG.out (grown_of_below HB1.out _)) hst.2
      case measure => simp [intOf]; omega
    · have hkn : k = n := by omega
      subst hkn
      go_wp2_with fail
      go_ret
      exact ⟨ret_i64 (by have := HR.out; omega), HY.out, HG.out⟩

def HeldAll (n : Nat) (w : World) (e : Ending) (w' : World) : Prop := e = .returned (.int .i64 (1 + (n : Int))) ∧ Below w.heap.size w w'

theorem held_all {B n : Nat} {a : Option Addr} {cap : Nat} {ys : List Value} {w : World} (hn : n ≤ 1000) (hown : w.ownsRow B 9 1 (.slice a n cap) n ys) (hys : ∀ j, j < n → ys[j]? = some (.string (mark (1 + j)))) :
    Calls Try.prog 19 #[.slice a n cap, .int .i64 1] w (HeldAll n w) := by
  have hni : (n : Int) ≤ 1000 := by omega
  have HN := Lib.hid hn; clear hn
  have HO := Lib.hid hown; clear hown
  have HY := Lib.hid hys; clear hys
  go_enter Try.func19, Try.ntmps19
  go_wp2_with fail
  go_loopw [1, 5] (fun q i wr => ∃ k r : Nat, (k : Int) ≤ n ∧ i = .int .i64 k ∧ q = .int .i64 r ∧ Hid (r = 1 + k) ∧ Below w.heap.size w wr) (fun _ i _ => n - (intOf i).toNat)
  case atStart => exact ⟨0, 1, by omega, rfl, rfl, Lib.hid rfl, Below.refl _ _⟩
  case round =>
    obtain ⟨k, r, hk, rfl, rfl, HR, hbel⟩ := hrel
    have HBel := Lib.hid hbel; clear hbel
    by_cases hlt : (k : Int) < n
    · have hr1 : 0 < r := by have := HR.out; omega
      have hr2 : r ≤ 100000 := by have := HR.out; have := HN.out; omega
      have hri : (r : Int) ≤ 1001 := by have := HR.out; omega
      have HR1 := Lib.hid hr1; clear hr1
      have HR2 := Lib.hid hr2; clear hr2
      obtain ⟨g, ha, _, hgl, hc, _⟩ := own_cell (own_below HO.out HBel.out) (by omega)
      subst ha
      have hcell : wr.cell? ⟨g, k, none⟩ = some (.string (mark r)) := by rw [hc k (by omega), HY.out k (by omega), HR.out]
      clear hc
      have HGL := Lib.hid hgl; clear hgl
      obtain ⟨t, ht⟩ : ∃ t, t = mark r := ⟨_, rfl⟩
      rw [← ht] at hcell
      have HT := Lib.hid ht; clear ht
      go_wp2_with fail
      go_region_held3 (fun w' => w'.cell? ⟨g, k, none⟩ = some (.string t))
        (first | go_keep | (rw [hb1.cell (p := ⟨g, k, none⟩) (by first | exact HGL.out | (simp; exact HGL.out))]; assumption))
        ((go_at_call 29; ((with_reducible refine (show Calls _ _ _ _ (MarkDone r _) from mark_is r HR1.out HR2.out _).mono ?_); rintro e w1 ⟨rfl, hb1⟩; rw [← HT.out])))
      all_goals
        have HB1 := Lib.hid hb1
        clear hb1
      all_goals go_wp2_with fail
      all_goals
        go_roundw
        case rel => exact ⟨k + 1, r + 1, by omega, by go_num, by go_num, Lib.hid (by have := HR.out; omega), HBel.out.trans (((Below.refl w.heap.size wr).drew).trans (HB1.out.mono (by have h := HBel.out.size; simpa using h)))⟩
        case measure => simp [intOf]; omega
    · have hkn : k = n := by omega
      subst hkn
      go_wp2_with fail
      go_ret
      exact ⟨ret_i64 (by have := HR.out; omega), HBel.out⟩
end Go.Proofs.Ytnfcieilchbbbaa.Fld
