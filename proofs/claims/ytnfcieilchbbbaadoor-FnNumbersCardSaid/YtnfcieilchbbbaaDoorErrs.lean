/- The library's two errors of numbers, out of what a row lists. -/
import Derived.Test.YtnfcieilchbbbaaDoorParseImpl
import Derived.Stop.LaidErr
namespace Go.Proofs.YtnfcieilchbbbaaDoor.Fmt
open Go.ChangeShapes Go.WideShapes Go.ChangeAt Go.RowKit

theorem gSyn : Tryd.prog.globalNamed "strconv.ErrSyntax" = some 1 := by kernel_rfl
theorem gSynType : (Tryd.prog.globals[1]?).map (·.type) = some 47 := by kernel_rfl
theorem gRng : Tryd.prog.globalNamed "strconv.ErrRange" = some 2 := by kernel_rfl
theorem gRngType : (Tryd.prog.globals[2]?).map (·.type) = some 47 := by kernel_rfl
theorem cellsEs : Tryd.prog.cellsOf 87 = 1 := by kernel_rfl
theorem cellsStr : Tryd.prog.cellsOf 9 = 1 := by kernel_rfl
theorem star : "*" ++ "errors.errorString" = "*errors.errorString" := by decide
theorem rowEs (u : TypeId) (h : Tryd.prog.typeName? 3 u = some "*errors.errorString") : u = 85 :=
  typeName_ptr_named (nm := "errors.errorString") (by rw [star]; kernel_rfl) (by kernel_rfl) (by decide) u (by rw [star]; exact h)

theorem errs_of {W : World} {r : List (String × DataW Unit)} (h : laidMet Tryd.prog (("strconv.ErrRange", Rows.laid_strconv_ErrRange) :: ("strconv.ErrSyntax", Rows.laid_strconv_ErrSyntax) :: r) W) : Errs W := by
  obtain ⟨a, s, hv, _⟩ := laid_sentinel h gRng gRngType Tryd.underlying47 rowEs Tryd.underlying85 Tryd.underlying87 rfl rfl Tryd.underlying9 cellsEs cellsStr
  obtain ⟨b, t, hw, _⟩ := laid_sentinel h.tail gSyn gSynType Tryd.underlying47 rowEs Tryd.underlying85 Tryd.underlying87 rfl rfl Tryd.underlying9 cellsEs cellsStr
  exact ⟨⟨_, _, hw⟩, ⟨_, _, hv⟩⟩

theorem errs_below {B : Nat} {W W' : World} (hb : Below B W W') (h1 : 1 < B) (h2 : 2 < B) (h : Errs W) : Errs W' := by
  obtain ⟨⟨tp, p, hv⟩, ⟨tq, q, hw⟩⟩ := h
  exact ⟨⟨tp, p, var?_below hb gSyn h1 hv⟩, ⟨tq, q, var?_below hb gRng h2 hw⟩⟩
end Go.Proofs.YtnfcieilchbbbaaDoor.Fmt
