/- States: a state read, its slices no longer than their room; groups gathered into one; a row's cells. Plain lemmas.
   Conditions: none. -/
import Derived.Test.YtfoilfgiablleaaStPutI
import Derived.Test.YtfoilfgiablleaaStTrPure
import Derived.Test.YtfoilfgiablleaaPkReg
set_option maxRecDepth 100000
namespace Go.Proofs.Ytfoilfgiablleaa.State
open Go.ChangeShapes Go.WideShapes Go.ChangeAt Go.RowKit Go.Joins Go.Proofs.Ytfoilfgiablleaa.Cell Go.Proofs.Ytfoilfgiablleaa.Mesh Go.Proofs.Ytfoilfgiablleaa.Law Go.Proofs.Ytfoilfgiablleaa.Ints Go.Deep

/-- A state read, with room. -/
structure RoomS (w : World) (a1 a2 a3 a4 : Option Addr) (n1 n2 n3 n4 c1 c2 c3 c4 : Nat) (xs : List C3) (ms ts bs : List Int) : Prop where
  r : ReadsS w a1 a2 a3 a4 n1 n2 n3 n4 xs ms ts bs
  k1 : n1 ≤ c1
  k2 : n2 ≤ c2
  k3 : n3 ≤ c3
  k4 : n4 ≤ c4
theorem RoomS.on {w w' : World} {a1 a2 a3 a4 : Option Addr} {n1 n2 n3 n4 c1 c2 c3 c4 : Nat} {xs : List C3} {ms ts bs : List Int} (h : RoomS w a1 a2 a3 a4 n1 n2 n3 n4 c1 c2 c3 c4 xs ms ts bs) (hg : w.grownBy w' none) : RoomS w' a1 a2 a3 a4 n1 n2 n3 n4 c1 c2 c3 c4 xs ms ts bs :=
  ⟨h.r.on hg, h.k1, h.k2, h.k3, h.k4⟩
theorem own_room {w : World} {base n s c : Nat} {t : TypeId} {a : Option Addr} {xs : List Value} (h : w.ownsRow base t s (.slice a n c) n xs) : n ≤ c := by
  rcases h.2 with ⟨h', -⟩ | ⟨g', cap', cur, h', hb, hg, hnc, -⟩
  · cases h'; exact Nat.le_refl 0
  · cases h'; exact hnc
theorem OwnS.room {w : World} {base n1 n2 n3 n4 c1 c2 c3 c4 : Nat} {a1 a2 a3 a4 : Option Addr} {xs : List C3} {ms ts bs : List Int} (h : OwnS w base (.slice a1 n1 c1) (.slice a2 n2 c2) (.slice a3 n3 c3) (.slice a4 n4 c4) n1 n2 n3 n4 xs ms ts bs) : RoomS w a1 a2 a3 a4 n1 n2 n3 n4 c1 c2 c3 c4 xs ms ts bs :=
  ⟨h.reads, own_room h.l, own_room h.m, own_room h.t, own_room h.b⟩
theorem readsI_cell {w : World} {g n k : Nat} {xs : List Int} {x : Int} (h : ReadsI w (some ⟨g, 0, none⟩) n xs) (hx : xs[k]? = some x) : w.cell? ⟨g, k, none⟩ = some (.int .i64 x) := by
  obtain ⟨g', o, e, hc⟩ := h.at_ k x hx
  cases e
  rw [Nat.zero_add] at hc
  exact hc
/-- Some groups, side by side, as one. -/
theorem Held.gather {w W : World} {gs1 hs gs2 : List Grp} {g : Grp} (h : Held w W (gs1 ++ hs ++ gs2)) (hB : ∀ b ∈ g.B, ∃ x ∈ hs, b ∈ x.B) (hp : g.P W) : Held w W (gs1 ++ g :: gs2) := by
  have hd := h.dis
  rw [List.append_assoc, List.pairwise_append, List.pairwise_append] at hd
  obtain ⟨d1, ⟨-, d2, d3⟩, d4⟩ := hd
  refine ⟨?_, ?_, ?_, h.gr⟩
  · intro x hx
    rcases List.mem_append.1 hx with hx | hx
    · exact h.p x (by simp [hx])
    · rcases List.mem_cons.1 hx with rfl | hx
      · exact hp
      · exact h.p x (by simp [hx])
  · intro x hx b hb
    rcases List.mem_append.1 hx with hx | hx
    · exact h.lo x (by simp [hx]) b hb
    · rcases List.mem_cons.1 hx with rfl | hx
      · obtain ⟨y, hy, hby⟩ := hB b hb
        exact h.lo y (by simp [hy]) b hby
      · exact h.lo x (by simp [hx]) b hb
  · refine List.pairwise_append.2 ⟨d1, List.pairwise_cons.2 ⟨fun y hy b hb => ?_, d2⟩, fun x hx y hy b hb => ?_⟩
    · obtain ⟨z, hz, hbz⟩ := hB b hb
      exact d3 z hz y hy b hbz
    · rcases List.mem_cons.1 hy with rfl | hy
      · intro hby
        obtain ⟨z, hz, hbz⟩ := hB b hby
        exact d4 x hx z (by simp [hz]) b hb hbz
      · exact d4 x hx y (by simp [hy]) b hb
/-- Four rows are a state. -/
theorem Held.asState {w W : World} {gs1 gs2 : List Grp} {v1 v2 v3 v4 : Value} {n1 n2 n3 n4 : Nat} {xs : List C3} {ms ts bs : List Int}
    (h : Held w W (gs1 ++ [rowG 36 3 v1 n1 (flatC xs), rowG 3 1 v2 n2 (vals ms), rowG 3 1 v3 n3 (vals ts), rowG 3 1 v4 n4 (vals bs)] ++ gs2)) : Held w W (gs1 ++ stateG v1 v2 v3 v4 n1 n2 n3 n4 xs ms ts bs :: gs2) := by
  have hl : gs1.length = gs1.length := rfl
  have ho : OwnS W w.heap.size v1 v2 v3 v4 n1 n2 n3 n4 xs ms ts bs := Held.ownS h gs1.length (by simp) (by simp) (by simp) (by simp)
  refine Held.gather h (fun b hb => ?_) (ho.from (Nat.zero_le _))
  rcases List.mem_append.1 hb with hb | hb
  · exact ⟨_, List.mem_cons_self .., hb⟩
  · rcases List.mem_append.1 hb with hb | hb
    · exact ⟨_, List.mem_cons_of_mem _ (List.mem_cons_self ..), hb⟩
    · rcases List.mem_append.1 hb with hb | hb
      · exact ⟨_, List.mem_cons_of_mem _ (List.mem_cons_of_mem _ (List.mem_cons_self ..)), hb⟩
      · exact ⟨_, List.mem_cons_of_mem _ (List.mem_cons_of_mem _ (List.mem_cons_of_mem _ (List.mem_cons_self ..))), hb⟩
end Go.Proofs.Ytfoilfgiablleaa.State
