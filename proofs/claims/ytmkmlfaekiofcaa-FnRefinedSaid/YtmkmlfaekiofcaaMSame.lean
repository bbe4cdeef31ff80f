/- Meshes: the reference model's SameMesh at two meshes that are one, as a contract.
   Conditions: at most 2^20 leaves. -/
import Derived.Test.YtmkmlfaekiofcaaMOk
namespace Go.Proofs.Ytmkmlfaekiofcaa.Mesh
open Go.ChangeShapes Go.WideShapes Go.ChangeAt Go.RowKit Go.Proofs.Ytmkmlfaekiofcaa.Cell

set_option maxHeartbeats 4000000 in
theorem same_is (R : Int) (a b : Option Addr) (n c1 c2 : Nat) (xs : List C3) (w : World) (hx : Reads w a n xs) (hy : Reads w b n xs) (hn : n ≤ 1048576) :
    Calls Try.prog 22 #[.agg #[.int .i64 R, .slice a n c1], .agg #[.int .i64 R, .slice b n c2]] w fun e w' => e = .returned (.bool true) ∧ w.grownBy w' none := by
  have hni : (n : Int) ≤ 1048576 := by omega
  clear hn
  have hb1 := (boxM_new w 26 R (.slice a n c1)).on (World.grownBy_alloc _ (.cells #[.int .i64 R, .slice b n c2] 26) none)
  have hb2 := boxM_new (w.alloc (.cells #[.int .i64 R, .slice a n c1] 26)) 26 R (.slice b n c2)
  simp only [World.size_alloc] at hb2
  have hg : w.grownBy ((w.alloc (.cells #[.int .i64 R, .slice a n c1] 26)).alloc (.cells #[.int .i64 R, .slice b n c2] 26)) none := g_alloc (g_alloc (grown_refl _) _) _
  have HA := Lib.hid (hx.on hg); have HB := Lib.hid (hy.on hg); have HB1 := Lib.hid hb1; have HB2 := Lib.hid hb2; have HG := Lib.hid hg
  clear hx hy hb1 hb2 hg
  obtain ⟨W0, hW0⟩ : ∃ W0, W0 = (w.alloc (.cells #[.int .i64 R, .slice a n c1] 26)).alloc (.cells #[.int .i64 R, .slice b n c2] 26) := ⟨_, rfl⟩
  rw [← hW0] at HA HB HB1 HB2 HG
  go_enter Try.func22, Try.ntmps22
  go_wp2_with fail
  rw [← hW0]
  clear hW0
  go_loopw [5] (fun i wr => ∃ k : Nat, (k : Int) ≤ n ∧ i = .int .i64 k ∧ Hid (W0.grownBy wr none)) (fun i _ => n - (intOf i).toNat)
  case atStart => exact ⟨0, by omega, rfl, Lib.hid (grown_refl _)⟩
  case round =>
    obtain ⟨k, hk, rfl, HW⟩ := hrel
    have e1 := (HB1.out.on HW.out).c1
    have e2 := (HB2.out.on HW.out).c1
    by_cases hlt : (k : Int) < n
    · obtain ⟨r, l, i, hx⟩ := get_of_lt HA.out.len (k := k) (by omega)
      obtain ⟨g1, rfl, -, d0, d1, d2⟩ := (HA.out.on HW.out).at_ k _ hx
      obtain ⟨g2, rfl, -, f0, f1, f2⟩ := (HB.out.on HW.out).at_ k _ hx
      clear hx
      dsimp only at d0 d1 d2 f0 f1 f2
      go_wp2_with fail
      go_quiet (fail)
      go_wp2_with fail
      exact ⟨⟨k + 1, by omega, by go_num, Lib.hid (g_drewN HW.out _)⟩, by simp [intOf]; omega⟩
    · go_wp2_with fail
      go_ret
      exact ⟨rfl, grown_trans HG.out HW.out⟩
end Go.Proofs.Ytmkmlfaekiofcaa.Mesh
