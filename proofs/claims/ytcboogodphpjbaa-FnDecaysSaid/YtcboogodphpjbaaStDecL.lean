/- Decay of the tracer: what the law of chapter 15 wants besides: sameInts at equal lists (written by wip/tools/fndecay.py).
   Conditions: at most 2^20 numbers. -/
import Derived.Test.YtcboogodphpjbaaStPutL
import Derived.Test.YtcboogodphpjbaaStLedK
set_option maxRecDepth 100000
namespace Go.Proofs.Ytcboogodphpjbaa.State
open Go.ChangeShapes Go.WideShapes Go.ChangeAt Go.RowKit Go.Joins Go.Proofs.Ytcboogodphpjbaa.Cell Go.Proofs.Ytcboogodphpjbaa.Mesh Go.Proofs.Ytcboogodphpjbaa.Law Go.Proofs.Ytcboogodphpjbaa.Ints Go.Deep

set_option maxHeartbeats 2000000 in
theorem sameInts_is (a b : Option Addr) (n c1 c2 : Nat) (xs : List Int) (w : World) (hx : ReadsI w a n xs) (hy : ReadsI w b n xs) (hn : n ≤ 1048576) :
    Calls Try.prog 14 #[.slice a n c1, .slice b n c2] w fun e w' => e = .returned (.bool true) ∧ w.grownBy w' none := by
  have hni : (n : Int) ≤ 1048576 := by omega
  clear hn
  have HA := Lib.hid hx; clear hx
  have HB := Lib.hid hy; clear hy
  go_enter Try.func14, Try.ntmps14
  go_wp2_with fail
  go_loopw [5] (fun i wr => ∃ k : Nat, (k : Int) ≤ n ∧ i = .int .i64 k ∧ Hid (w.grownBy wr none)) (fun i _ => n - (intOf i).toNat)
  case atStart => exact ⟨0, by omega, rfl, Lib.hid (grown_refl w)⟩
  case round =>
    obtain ⟨k, hk, rfl, HG⟩ := hrel
    by_cases hlt : (k : Int) < n
    · obtain ⟨x, hx⟩ := getI HA.out.len (k := k) (by omega)
      obtain ⟨g1, o1, rfl, d0⟩ := (HA.out.on HG.out).at_ k _ hx
      obtain ⟨g2, o2, rfl, f0⟩ := (HB.out.on HG.out).at_ k _ hx
      clear hx
      go_wp2_with fail
      go_quiet (fail)
      go_wp2_with fail
      go_roundw
      case rel => exact ⟨k + 1, by omega, by go_num, Lib.hid (g_drewN HG.out _)⟩
      case measure => simp [intOf]; omega
    · go_wp2_with fail
      go_ret
      exact ⟨rfl, HG.out⟩
end Go.Proofs.Ytcboogodphpjbaa.State
