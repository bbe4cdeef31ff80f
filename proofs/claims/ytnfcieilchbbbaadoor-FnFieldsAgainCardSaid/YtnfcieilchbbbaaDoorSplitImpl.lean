/- The program's SplitFields, as a contract: the fields of a good line; of another one nothing. -/
import Derived.Test.YtnfcieilchbbbaaDoorAppendField
import Derived.WalkMore
import Derived.Deep.LoopGhost
namespace Go.Proofs.YtnfcieilchbbbaaDoor.Fld
open Go.ChangeShapes Go.WideShapes Go.ChangeAt Go.RowKit

def SplitDone (s : ByteArray) (w : World) (e : Ending) (w' : World) : Prop :=
  ∃ v ok fs, e = .returned (.tuple #[v, .bool ok]) ∧ Res s ok fs ∧ w'.ownsRow w.heap.size 9 1 v fs.length (strs fs) ∧ Below w.heap.size w w'

theorem impl_split_long (s : ByteArray) (h : 600 < s.size) (w : World) :
    Calls Tryd.prog 16 #[.string s] w (SplitDone s w) := by
  have hle : (600 : Int) < (s.size : Int) := by omega
  have H := Lib.hid h; clear h
  go_enter Tryd.func16, Tryd.ntmps16
  go_wp2
  go_step3
  go_wp2
  try rw [Exit.noGoto_ret]
  go_ret2
  exact ⟨_, _, [], rfl, .inr ⟨fun g => by have := H.out; have := g.1; omega, rfl, rfl⟩, World.ownsRow_nil _ _ _ _, Below.refl _ _⟩

theorem impl_split (s : ByteArray) (h : s.size ≤ 600) (w : World) :
    Calls Tryd.prog 16 #[.string s] w (SplitDone s w) := by
  have hle : (s.size : Int) ≤ 600 := by omega
  have H := Lib.hid h; clear h
  go_enter Tryd.func16, Tryd.ntmps16
  go_wp2_with fail
  go_step3
  go_wp2_with fail
  go_step3
  go_wp2_with fail
  go_loopw [4, 5, 6, 7] (fun v st ok i wr => ∃ (k b : Nat) (done : List (List UInt8)) (a : Option Addr) (cap : Nat), (k : Int) ≤ s.size ∧ (b : Int) ≤ k ∧ i = .int .i64 k ∧ st = .int .i64 b ∧ ok = .bool true ∧ v = .slice a done.length cap ∧ Hid (At s k b done) ∧ wr.ownsRow w.heap.size 9 1 (.slice a done.length cap) done.length (strs done) ∧ Below w.heap.size w wr) (fun _ _ _ i _ => s.size - (intOf i).toNat)
  case atStart => exact ⟨0, 0, [], _, _, by omega, by omega, rfl, rfl, rfl, rfl, Lib.hid (At.start s), World.ownsRow_lit w #[] 0 (Nat.le_refl _) (by unfold maxLen; omega) rfl, (Below.refl _ _).alloc (Nat.le_refl _) _⟩
  case round =>
    obtain ⟨k, b, done, a, cap, hk, hbk, rfl, rfl, rfl, rfl, HAt, hown, hbel⟩ := hrel
    have hdl : done.length ≤ 600 := by have := HAt.out.len; have := HAt.out.fits; have := H.out; omega
    have HDL := Lib.hid hdl; clear hdl
    have HO := Lib.hid hown; clear hown
    have HBel := Lib.hid hbel; clear hbel
    by_cases hlt : (k : Int) < s.size
    · have hlt' : k < s.size := by omega
      have hc0 : (s[k]).toNat < 256 := (s[k]).toNat_lt
      have hext : Hid (0 < (s.extract b s.size).size ∧ (s.extract b s.size).size ≤ 600) := Lib.hid (by have := H.out; simp; omega)
      by_cases hbad : (s[k]).toNat < 32 ∨ 126 < (s[k]).toNat
      · have hnot : Hid (¬ Good s) := Lib.hid (bad_at hlt' (by omega))
        by_cases hlo : (s[k]).toNat < 32
        · have hlo' : ((s[k]).toNat : Int) < 32 := by omega
          clear hbad hc0 hlo
          go_wp2_with fail
          refine (app_some _ _ _ _ (s.extract b s.size) hext.out.1 hext.out.2 _ HO.out HBel.out.size (by have := HDL.out; omega)).mono ?_; rintro e w2 ⟨a2, cap2, rfl, ho2, hb2⟩
          have HB2 := Lib.hid hb2; clear hb2 ho2
          go_wp2_with fail
          try rw [Exit.noGoto_ret]
          go_ret2
          exact ⟨_, _, [], rfl, .inr ⟨hnot.out, rfl, rfl⟩, World.ownsRow_nil _ _ _ _, HBel.out.trans HB2.out⟩
        · have hlo' : ¬ ((s[k]).toNat : Int) < 32 := by omega
          have hhi' : 126 < ((s[k]).toNat : Int) := by omega
          clear hbad hc0 hlo
          go_wp2_with fail
          refine (app_some _ _ _ _ (s.extract b s.size) hext.out.1 hext.out.2 _ HO.out HBel.out.size (by have := HDL.out; omega)).mono ?_; rintro e w2 ⟨a2, cap2, rfl, ho2, hb2⟩
          have HB2 := Lib.hid hb2; clear hb2 ho2
          go_wp2_with fail
          try rw [Exit.noGoto_ret]
          go_ret2
          exact ⟨_, _, [], rfl, .inr ⟨hnot.out, rfl, rfl⟩, World.ownsRow_nil _ _ _ _, HBel.out.trans HB2.out⟩
      · have hlo' : ¬ ((s[k]).toNat : Int) < 32 := by omega
        have hhi' : ¬ 126 < ((s[k]).toNat : Int) := by omega
        have HGC : Hid (32 ≤ (s[k]).toNat ∧ (s[k]).toNat ≤ 126) := Lib.hid (by omega)
        by_cases hsp : (s[k]).toNat = 32
        · have hsp' : (((s[k]).toNat : Int) == 32) = true := by simp; omega
          have HSP := Lib.hid hsp; clear hsp hbad hc0
          have hat2 := HAt.out.space hlt' HSP.out
          have HAt2 := Lib.hid hat2; clear hat2
          by_cases hbl : b < k
          · have hex2 : Hid (0 < (s.extract b k).size ∧ (s.extract b k).size ≤ 600) := Lib.hid (by have := H.out; simp; omega)
            have HBL := Lib.hid hbl; clear hbl
            go_wp2_with fail
            refine (app_some _ _ _ _ (s.extract b k) hex2.out.1 hex2.out.2 _ HO.out HBel.out.size (by have := HDL.out; omega)).mono ?_; rintro e w2 ⟨a2, cap2, rfl, ho2, hb2⟩
            have HB2 := Lib.hid hb2; clear hb2
            have HO2 := Lib.hid ho2; clear ho2
            go_wp2_with fail
            go_roundw
            case rel =>
              have h2 := HAt2.out
              rw [if_pos HBL.out] at h2
              have hl : (done ++ [(s.data.toList.take k).drop b]).length = done.length + 1 := by simp
              refine ⟨k + 1, k + 1, _, a2, cap2, by omega, by omega, by go_num, by go_num, rfl, by rw [hl], Lib.hid h2, ?_, HBel.out.trans HB2.out⟩
              rw [hl, strs_append]
              have h3 := HO2.out
              rw [piece s b k] at h3
              exact h3
            case measure => simp [intOf]; omega
          · have hex2 : Hid ((s.extract b k).size = 0) := Lib.hid (by simp; omega)
            have HBL := Lib.hid hbl; clear hbl
            go_wp2_with fail
            refine (app_empty _ _ _ _ (s.extract b k) hex2.out _ HO.out).mono ?_; rintro e w2 ⟨a2, cap2, rfl, ho2, hb2⟩
            have HB2 := Lib.hid hb2; clear hb2
            have HO2 := Lib.hid ho2; clear ho2
            go_wp2_with fail
            go_roundw
            case rel =>
              have h2 := HAt2.out
              rw [if_neg HBL.out] at h2
              exact ⟨k + 1, k + 1, done, a2, cap2, by omega, by omega, by go_num, by go_num, rfl, rfl, Lib.hid h2, HO2.out, HBel.out.trans HB2.out⟩
            case measure => simp [intOf]; omega
        · have hsp' : (((s[k]).toNat : Int) == 32) = false := by simp; omega
          have HSP := Lib.hid hsp; clear hsp hbad hc0
          have hat2 := HAt.out.byte hlt' HGC.out HSP.out
          have HAt2 := Lib.hid hat2; clear hat2
          go_wp2_with fail
          go_roundw
          case rel => exact ⟨k + 1, b, done, a, cap, by omega, by omega, by go_num, rfl, rfl, rfl, HAt2, HO.out, HBel.out⟩
          case measure => simp [intOf]; omega
    · have hkk : k = s.size := by omega
      subst hkk
      by_cases hbl : b < s.size
      · have hex2 : Hid (0 < (s.extract b s.size).size ∧ (s.extract b s.size).size ≤ 600) := Lib.hid (by have := H.out; simp; omega)
        have HBL := Lib.hid hbl; clear hbl
        have hg : Hid ((fieldsOf s.data.toList).length = done.length + 1) := Lib.hid (by rw [HAt.out.fields, if_pos HBL.out]; simp)
        by_cases hcnt : (done.length + 1 : Nat) ≤ 24
        · have hcnt' : ¬ (24 : Int) < ((done.length + 1 : Nat) : Int) := by omega
          have HC := Lib.hid hcnt; clear hcnt
          go_wp2_with fail
          refine (app_some _ _ _ _ (s.extract b s.size) hex2.out.1 hex2.out.2 _ HO.out HBel.out.size (by have := HDL.out; omega)).mono ?_; rintro e w2 ⟨a2, cap2, rfl, ho2, hb2⟩
          have HB2 := Lib.hid hb2; clear hb2
          have HO2 := Lib.hid ho2; clear ho2
          go_wp2_with fail
          try rw [Exit.noGoto_ret]
          go_ret2
          exact ⟨_, _, fieldsOf s.data.toList, rfl, .inl ⟨⟨H.out, HAt.out.all, by rw [hg.out]; exact HC.out⟩, rfl, rfl⟩, by rw [hg.out, HAt.out.fields, if_pos HBL.out]; rw [strs_append]; have h3 := HO2.out; rw [piece s b s.size, List.take_of_length_le (by simp)] at h3; exact h3, HBel.out.trans HB2.out⟩
        · have hcnt' : (24 : Int) < ((done.length + 1 : Nat) : Int) := by omega
          have HC := Lib.hid hcnt; clear hcnt
          go_wp2_with fail
          refine (app_some _ _ _ _ (s.extract b s.size) hex2.out.1 hex2.out.2 _ HO.out HBel.out.size (by have := HDL.out; omega)).mono ?_; rintro e w2 ⟨a2, cap2, rfl, ho2, hb2⟩
          have HB2 := Lib.hid hb2; clear hb2 ho2
          go_wp2_with fail
          try rw [Exit.noGoto_ret]
          go_ret2
          exact ⟨_, _, [], rfl, .inr ⟨fun g => by have := g.2.2; rw [hg.out] at this; exact HC.out this, rfl, rfl⟩, World.ownsRow_nil _ _ _ _, HBel.out.trans HB2.out⟩
      · have hex2 : Hid ((s.extract b s.size).size = 0) := Lib.hid (by simp; omega)
        have HBL := Lib.hid hbl; clear hbl
        have hg : Hid ((fieldsOf s.data.toList).length = done.length) := Lib.hid (by rw [HAt.out.fields, if_neg HBL.out])
        by_cases hcnt : (done.length : Nat) ≤ 24
        · have hcnt' : ¬ (24 : Int) < ((done.length : Nat) : Int) := by omega
          have HC := Lib.hid hcnt; clear hcnt
          go_wp2_with fail
          refine (app_empty _ _ _ _ (s.extract b s.size) hex2.out _ HO.out).mono ?_; rintro e w2 ⟨a2, cap2, rfl, ho2, hb2⟩
          have HB2 := Lib.hid hb2; clear hb2
          have HO2 := Lib.hid ho2; clear ho2
          go_wp2_with fail
          try rw [Exit.noGoto_ret]
          go_ret2
          exact ⟨_, _, fieldsOf s.data.toList, rfl, .inl ⟨⟨H.out, HAt.out.all, by rw [hg.out]; exact HC.out⟩, rfl, rfl⟩, by rw [hg.out, HAt.out.fields, if_neg HBL.out]; exact HO2.out, HBel.out.trans HB2.out⟩
        · have hcnt' : (24 : Int) < ((done.length : Nat) : Int) := by omega
          have HC := Lib.hid hcnt; clear hcnt
          go_wp2_with fail
          refine (app_empty _ _ _ _ (s.extract b s.size) hex2.out _ HO.out).mono ?_; rintro e w2 ⟨a2, cap2, rfl, ho2, hb2⟩
          have HB2 := Lib.hid hb2; clear hb2 ho2
          go_wp2_with fail
          try rw [Exit.noGoto_ret]
          go_ret2
          exact ⟨_, _, [], rfl, .inr ⟨fun g => by have := g.2.2; rw [hg.out] at this; exact HC.out this, rfl, rfl⟩, World.ownsRow_nil _ _ _ _, HBel.out.trans HB2.out⟩
end Go.Proofs.YtnfcieilchbbbaaDoor.Fld
