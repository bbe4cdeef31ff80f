/- States at rest: the program's IsAtRest, isTooHigh, IsLevelWithin, DryLeaves, WaterLine, as contracts: what each answers; nothing that was there is written.
   Conditions: at most 2^20 leaves and numbers. -/
import Derived.Test.YtaccigmkddomaaaStRestP
import Derived.Test.YtaccigmkddomaaaStFluxA
set_option maxRecDepth 100000
namespace Go.Proofs.Ytaccigmkddomaaa.State
open Go.ChangeShapes Go.WideShapes Go.ChangeAt Go.RowKit Go.Joins Go.Proofs.Ytaccigmkddomaaa.Cell Go.Proofs.Ytaccigmkddomaaa.Mesh Go.Proofs.Ytaccigmkddomaaa.Law Go.Proofs.Ytaccigmkddomaaa.Ints Go.Deep

theorem dry_snoc {ms : List Int} {k : Nat} (h : msAt ms k = 0) : vals (toI (dryF ms k)) ++ [Value.int .i64 (k : Int)] = vals (toI (dryF ms (k + 1))) := by
  rw [dryF_yes h, toI_snoc]; simp [vals]
theorem dry_same {ms : List Int} {k : Nat} (h : msAt ms k ≠ 0) : dryF ms (k + 1) = dryF ms k := dryF_no h
theorem dry_len1 {ms : List Int} {k : Nat} (h : msAt ms k = 0) : (dryF ms (k + 1)).length = (dryF ms k).length + 1 := by
  rw [dryF_yes h, List.length_append]; rfl

end Go.Proofs.Ytaccigmkddomaaa.State
