/- States: the surface in a leaf, the flux between two, the steepest face, as numbers: what they are, their bounds and signs. Plain lemmas.
   Conditions: none. -/
import Derived.Test.YtaccigmkddomaaaPkPure
import Derived.Test.YtaccigmkddomaaaPkDraw
set_option maxRecDepth 100000
namespace Go.Proofs.Ytaccigmkddomaaa.State
open Go.ChangeShapes Go.WideShapes Go.ChangeAt Go.RowKit Go.Proofs.Ytaccigmkddomaaa.Cell Go.Proofs.Ytaccigmkddomaaa.Mesh

def lvAt (xs : List C3) (k : Nat) : Int := ((xs[k]?).getD (0, 0, 0)).2.1
def msAt (ms : List Int) (k : Nat) : Int := (ms[k]?).getD 0
/-- The surface of the leaf k. -/
def surf (xs : List C3) (ms bs : List Int) (k : Nat) : Int := (bs[((xs[k]?).getD (0, 0, 0)).1.toNat]?).getD 0 + msAt ms k * 2 ^ (lvAt xs k).toNat
/-- The quotient of a flux, before it is held back. -/
def quoN (a b la lb : Int) : Int := ((a - b) * widthOf (max la lb)).tdiv (32 * (widthOf la + widthOf lb))
/-- The flux between two leaves. -/
def fluxN (a b ma mb la lb : Int) : Int := max (-(mb / 4)) (min (quoN a b la lb) (ma / 4))
def fluxAt (xs : List C3) (ms bs : List Int) (k : Nat) : Int := fluxN (surf xs ms bs k) (surf xs ms bs (k + 1)) (msAt ms k) (msAt ms (k + 1)) (lvAt xs k) (lvAt xs (k + 1))
/-- How far the surfaces of a face's leaves lie apart. -/
def gapN (a b : Int) : Int := max (a - b) (-(a - b))
def gapF (xs : List C3) (ms bs : List Int) (k : Nat) : Int := gapN (surf xs ms bs k) (surf xs ms bs (k + 1))
/-- The steepest of the first k faces, and how steep it is. -/
def steep (xs : List C3) (ms bs : List Int) : Nat → Int × Int
  | 0 => (-1, -1)
  | k + 1 => if (steep xs ms bs k).2 < gapF xs ms bs k then ((k : Int), gapF xs ms bs k) else steep xs ms bs k
def fluxes (xs : List C3) (ms bs : List Int) : List Int := (List.range (xs.length - 1)).map (fluxAt xs ms bs)

theorem fluxes_len (xs : List C3) (ms bs : List Int) : (fluxes xs ms bs).length = xs.length - 1 := by simp [fluxes]
theorem fluxes_at {xs : List C3} {ms bs : List Int} {k : Nat} (h : k + 1 < xs.length) : (fluxes xs ms bs)[k]? = some (fluxAt xs ms bs k) := by
  have hk : k < xs.length - 1 := by omega
  simp [fluxes, hk]

/-- What a leaf of a valid state has. -/
theorem leaf_at {R : Int} {xs : List C3} {ms ts bs : List Int} (h : stOk R xs ms ts bs = true) {k : Nat} (hk : k < xs.length) :
    ∃ (rn : Nat) (l i m b : Int), xs[k]? = some ((rn : Int), l, i) ∧ ms[k]? = some m ∧ bs[rn]? = some b ∧ 0 ≤ l ∧ l ≤ 4 ∧ 0 ≤ m ∧ m ≤ 10000000 ∧ 0 ≤ b ∧ b ≤ 1000000 ∧ rn < bs.length ∧ surf xs ms bs k = b + m * 2 ^ l.toNat ∧ lvAt xs k = l ∧ msAt ms k = m := by
  obtain ⟨p1, ⟨p2, p3, p4⟩, p5, p6, -⟩ := stOk_parts h
  have hm : meshOk R xs = true := by unfold balanced at p1; simp only [Bool.and_eq_true] at p1; exact p1.1
  obtain ⟨⟨r, l, i⟩, hx⟩ : ∃ x, xs[k]? = some x := ⟨_, List.getElem?_eq_getElem hk⟩
  obtain ⟨y0, y1, y2, y3⟩ := root_lt hm hx
  dsimp only at y0 y1 y2 y3
  obtain ⟨rn, rfl⟩ := Int.eq_ofNat_of_zero_le y0
  have hrn : rn < bs.length := by omega
  obtain ⟨m, hmm⟩ : ∃ m, ms[k]? = some m := ⟨_, List.getElem?_eq_getElem (by omega)⟩
  obtain ⟨b, hb⟩ : ∃ b, bs[rn]? = some b := ⟨_, List.getElem?_eq_getElem hrn⟩
  obtain ⟨m0, m1⟩ := mass_bounds p5 p3 (List.mem_of_getElem? hmm)
  obtain ⟨b0, b1⟩ := bed_bounds p6 (List.mem_of_getElem? hb)
  exact ⟨rn, l, i, m, b, hx, hmm, hb, y2, y3, m0, m1, b0, b1, hrn, by simp [surf, lvAt, msAt, hx, hmm, hb], by simp [lvAt, hx], by simp [msAt, hmm]⟩

theorem pow_small {l : Int} (h0 : 0 ≤ l) (h1 : l ≤ 4) : 1 ≤ (2 : Int) ^ l.toNat ∧ (2 : Int) ^ l.toNat ≤ 16 := by
  rcases lvl h0 h1 with rfl | rfl | rfl | rfl | rfl <;> decide
theorem width_pos {l : Int} (h0 : 0 ≤ l) (h1 : l ≤ 4) : 1 ≤ widthOf l ∧ widthOf l ≤ 16 := by
  rcases lvl h0 h1 with rfl | rfl | rfl | rfl | rfl <;> decide
/-- The bounds that a leaf's numbers keep. -/
theorem leaf_bounds {R : Int} {xs : List C3} {ms ts bs : List Int} (h : stOk R xs ms ts bs = true) {k : Nat} (hk : k < xs.length) :
    0 ≤ surf xs ms bs k ∧ surf xs ms bs k ≤ 161000000 ∧ 0 ≤ msAt ms k ∧ msAt ms k ≤ 10000000 ∧ 0 ≤ lvAt xs k ∧ lvAt xs k ≤ 4 := by
  obtain ⟨rn, l, i, m, b, -, -, -, l0, l1, m0, m1, b0, b1, -, es, el, em⟩ := leaf_at h hk
  rw [es, el, em]
  obtain ⟨q0, q1⟩ := pow_small l0 l1
  have h2 : m * 2 ^ l.toNat ≤ m * 16 := Int.mul_le_mul_of_nonneg_left q1 m0
  have h3 : 0 ≤ m * 2 ^ l.toNat := Int.mul_nonneg m0 (by omega)
  omega
/-- A product of a difference of surfaces and a width. -/
theorem prod_small {d p : Int} (h0 : -161000000 ≤ d) (h1 : d ≤ 161000000) (p0 : 0 ≤ p) (p1 : p ≤ 16) : -2576000000 ≤ d * p ∧ d * p ≤ 2576000000 := by
  have a := Int.mul_le_mul_of_nonneg_right h1 p0
  have b := Int.mul_le_mul_of_nonneg_right h0 p0
  omega
theorem quo_small {a b la lb : Int} (ha0 : 0 ≤ a) (ha1 : a ≤ 161000000) (hb0 : 0 ≤ b) (hb1 : b ≤ 161000000) (l0 : 0 ≤ la) (l1 : la ≤ 4) (k0 : 0 ≤ lb) (k1 : lb ≤ 4) : -2576000000 ≤ quoN a b la lb ∧ quoN a b la lb ≤ 2576000000 := by
  obtain ⟨d0, d1⟩ := width_pos (l := max la lb) (by omega) (by omega)
  obtain ⟨a0, a1⟩ := width_pos l0 l1
  obtain ⟨b0, b1⟩ := width_pos k0 k1
  obtain ⟨p0, p1⟩ := prod_small (d := a - b) (p := widthOf (max la lb)) (by omega) (by omega) (by omega) d1
  unfold quoN
  have hp : 0 < 32 * (widthOf la + widthOf lb) := by omega
  generalize (a - b) * widthOf (max la lb) = n at *
  generalize 32 * (widthOf la + widthOf lb) = q at *
  have e : n.tdiv q * q + n.tmod q = n := by rw [Int.mul_comm]; exact Int.mul_tdiv_add_tmod n q
  rcases Int.le_total 0 n with hn | hn
  · have t0 := Int.tdiv_nonneg (a := n) (b := q) hn (by omega)
    have t1 := Int.tdiv_le_self (a := n) q hn
    omega
  · have t0 := Int.tdiv_nonneg (a := -n) (b := q) (by omega) (by omega)
    have t1 := Int.tdiv_le_self (a := -n) q (by omega)
    rw [Int.neg_tdiv] at t0 t1
    omega
theorem quo_sign {a b la lb : Int} (l0 : 0 ≤ la) (l1 : la ≤ 4) (k0 : 0 ≤ lb) (k1 : lb ≤ 4) : (b ≤ a → 0 ≤ quoN a b la lb) ∧ (a ≤ b → quoN a b la lb ≤ 0) := by
  obtain ⟨d0, d1⟩ := width_pos (l := max la lb) (by omega) (by omega)
  obtain ⟨a0, a1⟩ := width_pos l0 l1
  obtain ⟨b0, b1⟩ := width_pos k0 k1
  unfold quoN
  have hp : 0 ≤ 32 * (widthOf la + widthOf lb) := by omega
  refine ⟨fun h => Int.tdiv_nonneg (Int.mul_nonneg (by omega) (by omega)) hp, fun h => ?_⟩
  have q := Int.tdiv_nonneg (a := (b - a) * widthOf (max la lb)) (Int.mul_nonneg (by omega) (by omega)) hp
  rw [show (b - a) * widthOf (max la lb) = -((a - b) * widthOf (max la lb)) by rw [← Int.neg_mul, Int.neg_sub], Int.neg_tdiv] at q
  omega
/-- A flux: what holds it back, and its sign. -/
theorem flux_facts {R : Int} {xs : List C3} {ms ts bs : List Int} (h : stOk R xs ms ts bs = true) {k : Nat} (hk : k + 1 < xs.length) :
    fluxAt xs ms bs k ≤ msAt ms k / 4 ∧ -(fluxAt xs ms bs k) ≤ msAt ms (k + 1) / 4 ∧ (surf xs ms bs (k + 1) ≤ surf xs ms bs k → 0 ≤ fluxAt xs ms bs k) ∧ (surf xs ms bs k ≤ surf xs ms bs (k + 1) → fluxAt xs ms bs k ≤ 0) := by
  obtain ⟨-, -, m0, -, l0, l1⟩ := leaf_bounds h (show k < xs.length by omega)
  obtain ⟨-, -, n0, -, k0, k1⟩ := leaf_bounds h hk
  obtain ⟨q0, q1⟩ := quo_sign (a := surf xs ms bs k) (b := surf xs ms bs (k + 1)) l0 l1 k0 k1
  unfold fluxAt fluxN
  refine ⟨by omega, by omega, fun g => ?_, fun g => ?_⟩
  · have := q0 g; omega
  · have := q1 g; omega

theorem gap_nonneg (a b : Int) : 0 ≤ gapN a b := by unfold gapN; omega
/-- The steepest face: of all the first, and the greatest. -/
theorem steep_is (xs : List C3) (ms bs : List Int) : ∀ n, 0 < n → ∃ b : Nat, steep xs ms bs n = ((b : Int), gapF xs ms bs b) ∧ b < n ∧ ∀ i, i < n → gapF xs ms bs i ≤ gapF xs ms bs b ∧ (gapF xs ms bs i = gapF xs ms bs b → b ≤ i) := by
  intro n
  induction n with
  | zero => intro h; omega
  | succ n ih =>
    intro _
    by_cases hn : 0 < n
    · obtain ⟨b, e, hb, hi⟩ := ih hn
      by_cases hg : gapF xs ms bs b < gapF xs ms bs n
      · refine ⟨n, by rw [steep, e, if_pos hg], by omega, fun i hin => ?_⟩
        by_cases hii : i = n
        · subst hii; exact ⟨Int.le_refl _, fun _ => Nat.le_refl _⟩
        · have := (hi i (by omega)).1
          exact ⟨by omega, fun _ => by omega⟩
      · refine ⟨b, by rw [steep, e, if_neg hg], by omega, fun i hin => ?_⟩
        by_cases hii : i = n
        · subst hii; exact ⟨by omega, fun _ => by omega⟩
        · exact hi i (by omega)
    · obtain rfl : n = 0 := by omega
      have := gap_nonneg (surf xs ms bs 0) (surf xs ms bs (0 + 1))
      refine ⟨0, by rw [steep, steep, if_pos (by unfold gapF; omega)], by omega, fun i hin => ?_⟩
      obtain rfl : i = 0 := by omega
      exact ⟨Int.le_refl _, fun _ => Nat.le_refl _⟩
theorem steep_bounds {R : Int} {xs : List C3} {ms ts bs : List Int} (h : stOk R xs ms ts bs = true) : ∀ n, n + 1 ≤ xs.length → -1 ≤ (steep xs ms bs n).1 ∧ (steep xs ms bs n).1 < n ∧ -1 ≤ (steep xs ms bs n).2 ∧ (steep xs ms bs n).2 ≤ 161000000 := by
  intro n
  induction n with
  | zero => intro _; simp [steep]
  | succ n ih =>
    intro hn
    obtain ⟨s0, s1, -⟩ := leaf_bounds h (show n < xs.length by omega)
    obtain ⟨r0, r1, -⟩ := leaf_bounds h (show n + 1 < xs.length by omega)
    have q := ih (by omega)
    rw [steep]
    split
    · have := gap_nonneg (surf xs ms bs n) (surf xs ms bs (n + 1))
      have e : gapF xs ms bs n = max (surf xs ms bs n - surf xs ms bs (n + 1)) (-(surf xs ms bs n - surf xs ms bs (n + 1))) := rfl
      have e2 : gapN (surf xs ms bs n) (surf xs ms bs (n + 1)) = gapF xs ms bs n := rfl
      dsimp only
      omega
    · omega

/-- SurfaceOf, FaceFlux, AllFluxes, SteepestFace. -/
def surfG (R : Int) (xs : List C3) (ms ts bs : List Int) (i : Int) : Int := if stOk R xs ms ts bs = true ∧ 0 ≤ i ∧ i < xs.length then surf xs ms bs i.toNat else 0
def faceG (R : Int) (xs : List C3) (ms ts bs : List Int) (i : Int) : Int := if stOk R xs ms ts bs = true ∧ 0 ≤ i ∧ i + 1 < xs.length then fluxAt xs ms bs i.toNat else 0
def fluxesG (R : Int) (xs : List C3) (ms ts bs : List Int) : List Int := if stOk R xs ms ts bs = true then fluxes xs ms bs else []
def steepG (R : Int) (xs : List C3) (ms ts bs : List Int) : Int := if stOk R xs ms ts bs = true then (steep xs ms bs (xs.length - 1)).1 else -1
end Go.Proofs.Ytaccigmkddomaaa.State
