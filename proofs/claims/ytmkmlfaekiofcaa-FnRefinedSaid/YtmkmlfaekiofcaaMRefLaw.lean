/- Meshes: what the law of refined meshes holds between its calls, and what is known of a drawn leaf.
   Conditions: none. -/
import Derived.Test.YtmkmlfaekiofcaaMCoLaw
import Derived.Test.YtmkmlfaekiofcaaPlaces
namespace Go.Proofs.Ytmkmlfaekiofcaa.Mesh
open Go.ChangeShapes Go.WideShapes Go.ChangeAt Go.RowKit Go.Proofs.Ytmkmlfaekiofcaa.Cell

theorem bytes_up {B B' : Nat} {w : World} {a : Option Addr} {len : Nat} (h : Draw.Bytes B w a len) (hB : B ≤ B') : Draw.Bytes B' w a len := fun k hk => by
  obtain ⟨b, off, n, h1, h2, h3⟩ := h k hk
  exact ⟨b, off, n, h1, by omega, h3⟩
/-- A third mesh. -/
structure Three (w wr : World) (R : Int) (B3 B4 B5 g1 n c1 g2 nb c2 g3 nd c3 : Nat) (xs bs ds : List C3) : Prop where
  t : Two w wr R B3 B4 g1 n c1 g2 nb c2 xs bs
  m5 : MBox wr B5 R (.slice (some ⟨g3, 0, none⟩) nd c3)
  r3 : Reads wr (some ⟨g3, 0, none⟩) nd ds
theorem Three.on {w wr wy : World} {R : Int} {B3 B4 B5 g1 n c1 g2 nb c2 g3 nd c3 : Nat} {xs bs ds : List C3} (h : Three w wr R B3 B4 B5 g1 n c1 g2 nb c2 g3 nd c3 xs bs ds) (hg : wr.grownBy wy none) : Three w wy R B3 B4 B5 g1 n c1 g2 nb c2 g3 nd c3 xs bs ds :=
  ⟨h.t.on hg, h.m5.kept hg (by simp), h.r3.on hg⟩
theorem Two.three {w wr w2 : World} {R : Int} {B3 B4 g1 n c1 g2 nb c2 g3 nd c3 : Nat} {xs bs ds : List C3} (h : Two w wr R B3 B4 g1 n c1 g2 nb c2 xs bs) (hg : wr.grownBy w2 none) {base : Nat} (ho : w2.ownsRow base 33 3 (.slice (some ⟨g3, 0, none⟩) nd c3) nd (flatC ds)) :
    Three w (w2.alloc (.cells #[.int .i64 R, .slice (some ⟨g3, 0, none⟩) nd c3] 26)) R B3 B4 w2.heap.size g1 n c1 g2 nb c2 g3 nd c3 xs bs ds :=
  ⟨(h.on hg).on (World.grownBy_alloc _ _ none), MBox.new w2 _ _, (own_reads ho).past _⟩
theorem same_self (R : Int) (xs : List C3) : sameB R xs R xs = true := decide_eq_true ⟨rfl, rfl⟩
/-- A leaf of the greatest level is not refined. -/
theorem ref_deep {R : Int} {n g1 c1 k : Nat} {xs : List C3} {x : C3} (hm : meshOk R xs = true) (hl : xs.length = n) (hx : xs[k]? = some x) (h4 : x.2.1 = 4) :
    (∀ u : World, Reads u (some ⟨g1, 0, none⟩) n xs → Calls Try.prog 15 #[.agg #[.int .i64 R, .slice (some ⟨g1, 0, none⟩) n c1], .int .i64 k] u (GivesT R false n xs u))
    ∧ (∀ u : World, Reads u (some ⟨g1, 0, none⟩) n xs → Calls Try.prog 17 #[.agg #[.int .i64 R, .slice (some ⟨g1, 0, none⟩) n c1], .int .i64 k] u fun e w' => e = .returned (.bool false) ∧ u.grownBy w' none) := by
  obtain ⟨-, hl1, hl2⟩ := mesh_parts hm
  have hf : mayRef R xs k = false := by rw [mayRef_in hm hx]; exact decide_eq_false (by omega)
  have he : refOf R xs k = xs := by simp [refOf, hf]
  refine ⟨fun u hr => ?_, fun u hr => ?_⟩
  · have q := (refine_is R k g1 n c1 xs u hr (by omega)).mono gives_t
    rw [hf, he, hl] at q
    exact q
  · have q := mayRef_is R k _ n c1 xs u hr (by omega)
    rw [hf] at q
    exact q
/-- Another leaf is refined, and coarsening undoes it. -/
theorem ref_facts {R : Int} {n g1 c1 k : Nat} {xs : List C3} {x : C3} (hm : meshOk R xs = true) (hg : firstGap xs < 0) (hl : xs.length = n) (hx : xs[k]? = some x) (h4 : x.2.1 < 4) : ∃ (zs : List C3), zs.length = n + 1
    ∧ (∀ u : World, Reads u (some ⟨g1, 0, none⟩) n xs → Calls Try.prog 15 #[.agg #[.int .i64 R, .slice (some ⟨g1, 0, none⟩) n c1], .int .i64 k] u (GivesT R true (n + 1) zs u))
    ∧ (∀ u : World, Reads u (some ⟨g1, 0, none⟩) n xs → Calls Try.prog 17 #[.agg #[.int .i64 R, .slice (some ⟨g1, 0, none⟩) n c1], .int .i64 k] u fun e w' => e = .returned (.bool true) ∧ u.grownBy w' none)
    ∧ (∀ (u : World) (g c : Nat), n + 1 ≤ c → Reads u (some ⟨g, 0, none⟩) (n + 1) zs → Calls Try.prog 18 #[.agg #[.int .i64 R, .slice (some ⟨g, 0, none⟩) (n + 1) c], .int .i64 k] u (GivesT R true n xs u))
    ∧ (∀ (u : World) (g c : Nat), Reads u (some ⟨g, 0, none⟩) (n + 1) zs → Calls Try.prog 19 #[.agg #[.int .i64 R, .slice (some ⟨g, 0, none⟩) (n + 1) c], .int .i64 k] u fun e w' => e = .returned (.bool true) ∧ u.grownBy w' none)
    ∧ (∀ (u : World) (g c : Nat), Reads u (some ⟨g, 0, none⟩) (n + 1) zs → Calls Try.prog 20 #[.agg #[.int .i64 R, .slice (some ⟨g, 0, none⟩) (n + 1) c]] u fun e w' => e = .returned (.bool true) ∧ u.grownBy w' none)
    ∧ sameB R zs R xs = false := by
  obtain ⟨-, hl1, hl2⟩ := mesh_parts hm
  have ht : mayRef R xs k = true := by rw [mayRef_in hm hx]; exact decide_eq_true h4
  have he : refOf R xs k = split2 xs k := by rw [show refOf R xs k = split2 xs (k : Int).toNat from if_pos ht, Int.toNat_natCast]
  have hs := split2_len hx
  obtain ⟨hc1, hc2⟩ := mayCo_split hx hm hg h4
  have hok := meshOk_split hx h4 hm
  refine ⟨split2 xs k, by omega, fun u hr => ?_, fun u hr => ?_, fun u g c hc hr => ?_, fun u g c hr => ?_, fun u g c hr => ?_, same_len (by omega)⟩
  · have q := (refine_is R k g1 n c1 xs u hr (by omega)).mono gives_t
    rw [ht, he, show (split2 xs k).length = n + 1 by omega] at q
    exact q
  · have q := mayRef_is R k _ n c1 xs u hr (by omega)
    rw [ht] at q
    exact q
  · have q := (coarsen_is R k g (n + 1) c (split2 xs k) u hr (by omega) hc).mono gives_t
    rw [hc1, hc2, hl] at q
    exact q
  · have q := mayCo_is R k _ (n + 1) c (split2 xs k) u hr (by omega)
    rw [hc1] at q
    exact q
  · have q := specMeshOk_is R _ (n + 1) c (split2 xs k) u hr (by omega)
    rw [hok] at q
    exact q
end Go.Proofs.Ytmkmlfaekiofcaa.Mesh
