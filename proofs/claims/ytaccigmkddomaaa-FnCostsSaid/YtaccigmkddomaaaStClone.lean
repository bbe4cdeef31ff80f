/- States: slices.Clone at rows of cells and of ints, the methods clone of Mesh and State of the program, as contracts, whatever the slice's address: memory of the call's own.
   Conditions: at most 2^20 leaves and numbers. -/
import Derived.Test.YtaccigmkddomaaaPkCopy
import Derived.Test.YtaccigmkddomaaaStCopy
import Derived.Test.YtaccigmkddomaaaPkReg
set_option maxRecDepth 100000
namespace Go.Proofs.Ytaccigmkddomaaa.State
open Go.ChangeShapes Go.WideShapes Go.ChangeAt Go.RowKit Go.Joins Go.Proofs.Ytaccigmkddomaaa.Cell Go.Proofs.Ytaccigmkddomaaa.Mesh Go.Proofs.Ytaccigmkddomaaa.Law Go.Proofs.Ytaccigmkddomaaa.Ints Go.Proofs.Ytaccigmkddomaaa.Draws Go.Deep

theorem readsC_none {w : World} {n : Nat} {xs : List C3} (h : Reads w none n xs) : n = 0 ∧ xs = [] := by
  have hx : xs = [] := by
    cases xs with
    | nil => rfl
    | cons x xs => obtain ⟨g, e, -⟩ := h.at_ 0 x rfl; cases e
  exact ⟨by rw [← h.len, hx]; rfl, hx⟩
theorem readsI_none {w : World} {n : Nat} {xs : List Int} (h : ReadsI w none n xs) : n = 0 ∧ xs = [] := by
  have hx : xs = [] := by
    cases xs with
    | nil => rfl
    | cons x xs => obtain ⟨g, o, e, -⟩ := h.at_ 0 x rfl; cases e
  exact ⟨by rw [← h.len, hx]; rfl, hx⟩
theorem readsC_newsA {w : World} {ad : Addr} {n : Nat} {xs : List C3} (h : Reads w (some ad) n xs) : ∀ j u, (flatC xs)[j]? = some u → w.cell? (ad.add j) = some u := by
  intro j u hu
  obtain ⟨k, x, hx, -⟩ := flatC_get hu
  obtain ⟨g, e, -⟩ := h.at_ k x hx
  cases e
  exact reads_news h j u hu
theorem readsI_newsA {w : World} {ad : Addr} {n : Nat} {xs : List Int} (h : ReadsI w (some ad) n xs) : ∀ j u, (vals xs)[j]? = some u → w.cell? (ad.add j) = some u := by
  intro j u hu
  obtain ⟨x, hx, rfl⟩ : ∃ x, xs[j]? = some x ∧ Value.int .i64 x = u := by
    rw [vals, List.getElem?_map] at hu
    cases hx : xs[j]? with
    | none => rw [hx] at hu; cases hu
    | some x => rw [hx] at hu; exact ⟨x, rfl, by simpa using hu⟩
  obtain ⟨g', o, e, hc⟩ := h.at_ j x hx
  cases e
  rw [Addr.add_lit]; exact hc

/-- What each operation of the copying leaves. -/
def CloneG (R : Int) (a1 a2 a3 a4 : Option Addr) (n1 n2 n3 n4 c1 c2 c3 c4 : Nat) (xs : List C3) (ms ts bs : List Int) (B : Nat) (val : Nat → Value) (G : Nat → Grp) : Nat → Prop
  | 0 => val 0 = .pointer (some ⟨B, 0, none⟩)
  | 1 => val 1 = .agg #[.int .i64 R, .slice a1 n1 c1]
  | 2 => ∃ (b : Option Addr) (d : Nat), val 2 = .agg #[.int .i64 R, .slice b n1 d] ∧ G 2 = rowG 35 3 (.slice b n1 d) n1 (flatC xs)
  | 3 => val 3 = .pointer (some ⟨B, 2, none⟩)
  | 4 => val 4 = .slice a2 n2 c2
  | 5 => ∃ (b : Option Addr) (d : Nat), val 5 = .slice b n2 d ∧ G 5 = rowG 3 1 (.slice b n2 d) n2 (vals ms)
  | 6 => val 6 = .pointer (some ⟨B, 3, none⟩)
  | 7 => val 7 = .slice a3 n3 c3
  | 8 => ∃ (b : Option Addr) (d : Nat), val 8 = .slice b n3 d ∧ G 8 = rowG 3 1 (.slice b n3 d) n3 (vals ts)
  | 9 => val 9 = .pointer (some ⟨B, 4, none⟩)
  | 10 => val 10 = .slice a4 n4 c4
  | 11 => ∃ (b : Option Addr) (d : Nat), val 11 = .slice b n4 d ∧ G 11 = rowG 3 1 (.slice b n4 d) n4 (vals bs)
  | 12 => ∃ (b1 : Option Addr) (d1 : Nat) (b2 : Option Addr) (d2 : Nat) (b3 : Option Addr) (d3 : Nat) (b4 : Option Addr) (d4 : Nat), val 12 = .agg #[.int .i64 R, .slice b1 n1 d1, .slice b2 n2 d2, .slice b3 n3 d3, .slice b4 n4 d4] ∧ val 2 = .agg #[.int .i64 R, .slice b1 n1 d1] ∧ val 5 = .slice b2 n2 d2 ∧ val 8 = .slice b3 n3 d3 ∧ val 11 = .slice b4 n4 d4
  | 13 => ∃ (b1 : Option Addr) (d1 : Nat) (b2 : Option Addr) (d2 : Nat) (b3 : Option Addr) (d3 : Nat) (b4 : Option Addr) (d4 : Nat), val 12 = .agg #[.int .i64 R, .slice b1 n1 d1, .slice b2 n2 d2, .slice b3 n3 d3, .slice b4 n4 d4] ∧ G 13 = boxG (B + 1) 29 #[.int .i64 R, .slice b1 n1 d1, .slice b2 n2 d2, .slice b3 n3 d3, .slice b4 n4 d4]
  | _ => True
def cloneDep : Nat → List Nat
  | 1 => [0] | 2 => [1] | 4 => [3] | 5 => [4] | 7 => [6] | 8 => [7] | 10 => [9] | 11 => [10] | 12 => [2, 5, 8, 11] | 13 => [12] | _ => []
theorem clone_local (R : Int) (a1 a2 a3 a4 : Option Addr) (n1 n2 n3 n4 c1 c2 c3 c4 : Nat) (xs : List C3) (ms ts bs : List Int) (B : Nat) : Local cloneDep (CloneG R a1 a2 a3 a4 n1 n2 n3 n4 c1 c2 c3 c4 xs ms ts bs B) := by
  intro val val' G G' j hk h
  match j with
  | 0 => exact (hk 0 (.inl rfl)).1.trans h
  | 1 => exact (hk 1 (.inl rfl)).1.trans h
  | 3 => exact (hk 3 (.inl rfl)).1.trans h
  | 4 => exact (hk 4 (.inl rfl)).1.trans h
  | 6 => exact (hk 6 (.inl rfl)).1.trans h
  | 7 => exact (hk 7 (.inl rfl)).1.trans h
  | 9 => exact (hk 9 (.inl rfl)).1.trans h
  | 10 => exact (hk 10 (.inl rfl)).1.trans h
  | 2 => obtain ⟨b, d, h1, h2⟩ := h; exact ⟨b, d, (hk 2 (.inl rfl)).1.trans h1, (hk 2 (.inl rfl)).2.trans h2⟩
  | 5 => obtain ⟨b, d, h1, h2⟩ := h; exact ⟨b, d, (hk 5 (.inl rfl)).1.trans h1, (hk 5 (.inl rfl)).2.trans h2⟩
  | 8 => obtain ⟨b, d, h1, h2⟩ := h; exact ⟨b, d, (hk 8 (.inl rfl)).1.trans h1, (hk 8 (.inl rfl)).2.trans h2⟩
  | 11 => obtain ⟨b, d, h1, h2⟩ := h; exact ⟨b, d, (hk 11 (.inl rfl)).1.trans h1, (hk 11 (.inl rfl)).2.trans h2⟩
  | 12 => obtain ⟨b1, d1, b2, d2, b3, d3, b4, d4, h1, h2, h3, h4, h5⟩ := h; exact ⟨b1, d1, b2, d2, b3, d3, b4, d4, (hk 12 (.inl rfl)).1.trans h1, (hk 2 (.inr (by simp [cloneDep]))).1.trans h2, (hk 5 (.inr (by simp [cloneDep]))).1.trans h3, (hk 8 (.inr (by simp [cloneDep]))).1.trans h4, (hk 11 (.inr (by simp [cloneDep]))).1.trans h5⟩
  | 13 => obtain ⟨b1, d1, b2, d2, b3, d3, b4, d4, h1, h2⟩ := h; exact ⟨b1, d1, b2, d2, b3, d3, b4, d4, (hk 12 (.inr (by simp [cloneDep]))).1.trans h1, (hk 13 (.inl rfl)).2.trans h2⟩
  | _ + 14 => trivial

end Go.Proofs.Ytaccigmkddomaaa.State
