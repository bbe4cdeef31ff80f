/- The reference model's l01Once, as a contract: some bool, and it writes its own cursor alone.
   Conditions: the cursor is one that l01New has made in the same call. -/
import Derived.Test.YtcdkhapepabpkaaDraw
set_option maxRecDepth 100000
namespace Go.Proofs.Ytcdkhapepabpkaa.Draw
open Go.ChangeShapes Go.WideShapes Go.ChangeAt Go.RowKit

theorem once_any {B : Nat} {w : World} {C : Nat} {a : Option Addr} {len cap : Nat} (n : Int) (hn : n ≤ 9223372036854775807) (hC : Cur B w C a len cap) :
    Calls Try.prog 69 #[.pointer (some ⟨C, 0, none⟩), .int .i64 n] w (BoolSome B C a len cap w) := by
  go_enter Try.func69, Try.ntmps69
  go_wp2_with (go_at_call 38; refine (below_any n hn hC).mono ?_; rintro e w' ⟨x, hx0, hx1, rfl, hC', hg⟩; have HX := Lib.hid hx1; clear hx1)
  go_ret
  exact ⟨_, rfl, hC', hg⟩
end Go.Proofs.Ytcdkhapepabpkaa.Draw
