/- The model's DrawEncodeHex, as a contract: some text of at most 20001 bytes.
   Conditions: the bytes that are drawn from are at most 1048576. -/
import Derived.Test.YtnfcieilchbbbaaDoorDrawText
namespace Go.Proofs.YtnfcieilchbbbaaDoor.Draw
open Go.ChangeShapes Go.WideShapes Go.ChangeAt Go.RowKit

def StrSome (B : Nat) (most : Int) (w : World) (e : Ending) (w' : World) : Prop := ∃ s : ByteArray, (s.size : Int) ≤ most ∧ e = .returned (.string s) ∧ Below B w w'

theorem draw_enc {B : Nat} {w : World} {a : Option Addr} {len cap : Nat} (hlen : len ≤ 1048576) (hy : Bytes B w a len) (hB : B ≤ w.heap.size) :
    Calls Tryd.prog 9 #[.slice a len cap] w (StrSome B 20001 w) := by
  have HY := Lib.hid hy; clear hy
  have HL := Lib.hid hlen; clear hlen
  have HB := Lib.hid hB; clear hB
  go_enter Tryd.func9, Tryd.ntmps9
  go_wp2_with fail
  refine (new_any HL.out HY.out HB.out).mono ?_; rintro e w1 ⟨rfl, hC1, hg1, hlt1⟩
  obtain ⟨C, hCe⟩ : ∃ C, C = w.heap.size := ⟨_, rfl⟩
  rw [← hCe] at hC1
  have HC := Lib.hid hCe
  rw [← hCe]
  clear hCe
  have HLT := Lib.hid hlt1; clear hlt1
  go_wp2_with fail
  refine (once_any 60 (by decide) hC1).mono ?_; rintro e w2 ⟨x, rfl, hC2, hg2⟩
  have hb2 : Below B w w2 := below_of HB.out HC.out hg1 hg2
  have HB2 := Lib.hid hb2; clear hb2
  cases x
  · go_wp2_with fail
    refine (below_any 30 (by decide) hC2).mono ?_; rintro e w3 ⟨y, hy0, hy1, rfl, hC3, hg3⟩
    have HY1 := Lib.hid hy1; clear hy1
    have hb3 : Below B w w3 := below_of HB.out HC.out hg1 (grown_trans hg2 hg3)
    have HB3 := Lib.hid hb3; clear hb3
    go_wp2_with fail
    refine (text_any y hy0 (by have := HY1.out; omega) hC3 (Nat.le_trans HB.out HB3.out.size)).mono ?_; rintro e w4 ⟨s, hs, rfl, hC4, hb4⟩
    go_wp2_with fail
    go_ret
    exact ⟨s, by have := HY1.out; omega, rfl, HB3.out.trans hb4⟩
  · go_wp2_with fail
    refine (below_any 2 (by decide) hC2).mono ?_; rintro e w3 ⟨y, hy0, hy1, rfl, hC3, hg3⟩
    have HY1 := Lib.hid hy1; clear hy1
    have hy2 : y ≤ 2 := by have := HY1.out; omega
    have hb3 : Below B w w3 := below_of HB.out HC.out hg1 (grown_trans hg2 hg3)
    have HB3 := Lib.hid hb3; clear hb3
    go_wp2_with fail
    refine (long_any (20000 + y) 200 (by omega) (by omega) (by decide) (by decide) _).mono ?_; rintro e w4 ⟨⟨s, hs, rfl⟩, hb4⟩
    have HS := Lib.hid hs; clear hs
    go_wp2_with fail
    go_ret
    exact ⟨s, by have := HS.out; have := HY1.out; omega, rfl, HB3.out.trans (hb4.mono (Nat.le_trans HB.out HB3.out.size))⟩
end Go.Proofs.YtnfcieilchbbbaaDoor.Draw
