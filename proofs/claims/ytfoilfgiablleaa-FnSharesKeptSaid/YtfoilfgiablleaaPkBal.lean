/- States: a change that is refused. Plain lemmas. States: the balancing of a state, step by step; the addresses of a state of the call's own. Plain lemmas.
   Conditions: as each says. -/
import Derived.Test.YtfoilfgiablleaaStTrPure
import Derived.Test.YtfoilfgiablleaaStRoom
set_option maxRecDepth 100000
namespace Go.Proofs.Ytfoilfgiablleaa.State
open Go.ChangeShapes Go.WideShapes Go.ChangeAt Go.RowKit Go.Proofs.Ytfoilfgiablleaa.Cell Go.Proofs.Ytfoilfgiablleaa.Mesh

theorem ref_no {R : Int} {xs : List C3} {ms ts bs : List Int} {i : Int} (h : refB R xs ms ts bs i = false) : refX R xs ms ts bs i = xs ∧ refM R xs ms ts bs i = ms ∧ refT R xs ms ts bs i = ts := by simp [refX, refM, refT, h]
theorem co_no {R : Int} {xs : List C3} {ms ts bs : List Int} {i : Int} (h : coB R xs ms ts bs i = false) : coX R xs ms ts bs i = xs ∧ coM R xs ms ts bs i = ms ∧ coT R xs ms ts bs i = ts := by simp [coX, coM, coT, h]

theorem br_no {R : Int} {xs : List C3} {ms ts bs : List Int} {i : Int} (h : brB R xs ms ts bs i = false) : brS R xs ms ts bs i = (xs, ms, ts) := by simp [brS, h]
end Go.Proofs.Ytfoilfgiablleaa.State

namespace Go.Proofs.Ytfoilfgiablleaa.State
open Go.ChangeShapes Go.WideShapes Go.ChangeAt Go.RowKit Go.Joins Go.Proofs.Ytfoilfgiablleaa.Cell Go.Proofs.Ytfoilfgiablleaa.Mesh Go.Proofs.Ytfoilfgiablleaa.Law Go.Proofs.Ytfoilfgiablleaa.Ints Go.Deep

theorem bal_moreS {R : Int} {s : Tr} {bs : List Int} {f : Nat} (h : PreS R s.1 s.2.1 s.2.2 bs) (hf : 128 ≤ f + s.1.length) (hg : ¬ firstGap s.1 < 0) :
    ∃ f', f = f' + 1 ∧ PreS R (stepS s).1 (stepS s).2.1 (stepS s).2.2 bs ∧ (stepS s).1.length = s.1.length + 1 ∧ balS f s = balS f' (stepS s) := by
  obtain ⟨q1, q2, -⟩ := step_pre h hg
  obtain ⟨-, -, q3⟩ := mesh_parts q1.mesh
  obtain ⟨f', rfl⟩ : ∃ f', f = f' + 1 := ⟨f - 1, by omega⟩
  exact ⟨f', rfl, q1, q2, balS_next hg f'⟩
theorem stepS_at {s : Tr} {j : Nat} (h : firstGap s.1 = j) : stepS s = (split2 s.1 (coarser s.1 j), splitM s.2.1 (coarser s.1 j), splitT s.2.1 s.2.2 (coarser s.1 j)) := by
  unfold stepS cutAt; rw [h, Int.toNat_natCast]
theorem OwnS.addr {w : World} {base n1 n2 n3 n4 c1 c2 c3 c4 : Nat} {a1 a2 a3 a4 : Option Addr} {xs : List C3} {ms ts bs : List Int} (h : OwnS w base (.slice a1 n1 c1) (.slice a2 n2 c2) (.slice a3 n3 c3) (.slice a4 n4 c4) n1 n2 n3 n4 xs ms ts bs) (h1 : 1 ≤ n1) (h2 : 1 ≤ n2) (h3 : 1 ≤ n3) (h4 : 1 ≤ n4) :
    ∃ g1 g2 g3 g4 : Nat, a1 = some ⟨g1, 0, none⟩ ∧ a2 = some ⟨g2, 0, none⟩ ∧ a3 = some ⟨g3, 0, none⟩ ∧ a4 = some ⟨g4, 0, none⟩ := by
  obtain ⟨g1, c, e⟩ := own_at1 h.l h1
  cases e
  obtain ⟨g2, rfl, -, -⟩ := own_atI h.m h2
  obtain ⟨g3, rfl, -, -⟩ := own_atI h.t h3
  obtain ⟨g4, rfl, -, -⟩ := own_atI h.b h4
  exact ⟨g1, g2, g3, g4, rfl, rfl, rfl, rfl⟩
theorem Held.pick {w W : World} {gs gs' : List Grp} (h : Held w W gs) (hs : gs'.Sublist gs) : Held w W gs' :=
  ⟨fun g hg => h.p g (hs.subset hg), fun g hg => h.lo g (hs.subset hg), h.dis.sublist hs, h.gr⟩
theorem Held.perm {w W : World} {gs gs' : List Grp} (h : Held w W gs) (hp : gs.Perm gs') : Held w W gs' :=
  ⟨fun g hg => h.p g (hp.mem_iff.2 hg), fun g hg => h.lo g (hp.mem_iff.2 hg), (hp.pairwise_iff (fun hxy b hb hbx => hxy b hbx hb)).1 h.dis, h.gr⟩
/-- The last two change places. -/
theorem Held.swap4 {w W : World} {a b c d : Grp} (h : Held w W [a, b, c, d]) : Held w W [a, b, d, c] := Held.perm h (.cons _ (.cons _ (.swap _ _ _)))
end Go.Proofs.Ytfoilfgiablleaa.State
