/- Meshes: the method clone of the program, as a contract: a mesh of its own memory.
   Conditions: at most 2^20 leaves. -/
import Derived.Test.YtcdkhapepabpkaaMCopy
import Derived.Deep.RegionWith
set_option maxRecDepth 100000
namespace Go.Proofs.Ytcdkhapepabpkaa.Mesh
open Go.ChangeShapes Go.WideShapes Go.ChangeAt Go.RowKit Go.Proofs.Ytcdkhapepabpkaa.Cell

set_option maxHeartbeats 4000000 in
theorem mclone_is (R : Int) (g n cap : Nat) (xs : List C3) (w : World) (hr : Reads w (some ⟨g, 0, none⟩) n xs) (hn : n ≤ 1048576) :
    Calls Try.prog 41 #[.agg #[.int .i64 R, .slice (some ⟨g, 0, none⟩) n cap]] w fun e w' => ∃ v, e = .returned (.agg #[.int .i64 R, v]) ∧ w'.ownsRow w.heap.size 36 3 v n (flatC xs) ∧ w.grownBy w' none := by
  go_enter Try.func41, Try.ntmps41
  go_wp2_with fail
  have HG := Lib.hid (show w.grownBy ((w.alloc (.cells #[.int .i64 R, .slice (some ⟨g, 0, none⟩) n cap] 26)).alloc (.cells #[.int .i64 0, .slice none 0 0] 26)) none from g_alloc (g_alloc (grown_refl _) _) _)
  have hb := (boxM_new w 26 R (.slice (some ⟨g, 0, none⟩) n cap)).on (World.grownBy_alloc _ (.cells #[.int .i64 0, .slice none 0 0] 26) none)
  have b0 := hb.c0
  have b1 := hb.c1
  have hm := MBox.new (w.alloc (.cells #[.int .i64 R, .slice (some ⟨g, 0, none⟩) n cap] 26)) 0 (.slice none 0 0)
  rw [World.size_alloc] at hm
  have hsz : w.heap.size + 2 ≤ ((w.alloc (.cells #[.int .i64 R, .slice (some ⟨g, 0, none⟩) n cap] 26)).alloc (.cells #[.int .i64 0, .slice none 0 0] 26)).heap.size := by simp
  have hr0 := hr.on HG.out
  generalize (w.alloc (.cells #[.int .i64 R, .slice (some ⟨g, 0, none⟩) n cap] 26)).alloc (.cells #[.int .i64 0, .slice none 0 0] 26) = W0 at *
  have HM := Lib.hid hm
  have HR0 := Lib.hid hr0
  have HB0 := Lib.hid hb
  have HN := Lib.hid hn
  clear hr hr0 hm hb hn
  go_region_with (go_at_call 67; ((with_reducible refine (clone_is w.heap.size g n cap xs _ (HR0.out.on (gr_drew (grown_refl W0))) HN.out (by simp; omega)).mono ?_); rintro e w1 ⟨v, rfl, ho, hg⟩; obtain ⟨a', cap', rfl⟩ := own_shape ho; have hm := HM.out.kept (grown_trans (gr_drew (grown_refl W0)) hg) (by simp); have d0 := hm.c0; have d1 := hm.c1; have e0 := hm.f0; have e1 := hm.f1; have d2 := (HB0.out.on (grown_trans (gr_drew (grown_refl W0)) hg)).c0; have HM1 := Lib.hid hm; have HO1 := Lib.hid ho; have HG1 := Lib.hid hg; clear ho hg hm))
  all_goals
    go_wp2_with fail
    obtain ⟨hm, ho, hg⟩ := out_set (w := w) (R := R) (by omega) HM1.out HO1.out (grown_trans (gr_drew HG.out) HG1.out)
    exact bodyPost_ret_by (results_cell_row (fn := Try.f41) rfl _ _ (w.heap.size + 1) _ _ (0, 0) _ rfl hm Try.underlying26 rfl (by kernel_rfl)) rfl ⟨_, rfl, ho, hg⟩
end Go.Proofs.Ytcdkhapepabpkaa.Mesh
