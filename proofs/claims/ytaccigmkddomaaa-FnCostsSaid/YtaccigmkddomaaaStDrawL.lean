/- States: the reference model's DrawState and DrawLake, as contracts: a valid state; a balanced mesh, its beds and a surface; in memory of the call's own.
   Conditions: at most 2^20 bytes; none of them lies in the call's own memory. -/
import Derived.Test.YtaccigmkddomaaaStDraw
import Derived.Test.YtaccigmkddomaaaStPutI
import Derived.Deep.RegionWith
set_option maxRecDepth 100000
namespace Go.Proofs.Ytaccigmkddomaaa.State
open Go.ChangeShapes Go.WideShapes Go.ChangeAt Go.RowKit Go.Joins Go.Proofs.Ytaccigmkddomaaa.Cell Go.Proofs.Ytaccigmkddomaaa.Mesh Go.Proofs.Ytaccigmkddomaaa.Law Go.Proofs.Ytaccigmkddomaaa.Ints Go.Deep

theorem results_row_tmps {P : Program} {fn : Func} {p u v : Tmp} {ty : TypeId} (h : fn.results = #[.cell p ty, .tmp u, .tmp v]) (tmps : Array Value) (w : World) (g : Nat) (t : TypeId) (cs : Array Value) (fr : Nat × Nat) (d : TypeDesc)
    (hp : tmps.getD p undef = .pointer (some ⟨g, 0, none⟩)) (hg : w.heap[g]? = some (.cells cs t fr))
    (hu : P.underlying ty = some d) (hd : (match d with | .struct _ | .array _ _ => true | _ => false) = true) (hi : (P.info? ty).map (·.size) = some cs.size) :
    (results fn tmps).run P w = .ok (.tuple #[.agg cs, tmps.getD u undef, tmps.getD v undef]) w := by
  have hp' : tmps[p]?.getD undef = .pointer (some ⟨g, 0, none⟩) := by simpa using hp
  simp [results, h, hp', asAddr, run_loadVar_row w g t ty cs fr d hg hu hd hi]
/-- A cursor that l01New has made, as a group. -/
theorem Held.newCur {w W W' : World} {gs : List Grp} {B : Nat} {a : Option Addr} {len cap : Nat} (h : Held w W gs) (hg : W.grownBy W' none) (hC : Draw.Cur B W' W.heap.size a len cap) (hl : W.heap.size < W'.heap.size) : Held w W' (gs ++ [curG W.heap.size a len cap]) :=
  h.add hg hC.blk (fun b hb => by rw [List.mem_singleton.1 hb]; exact ⟨Nat.le_refl _, hl⟩)
theorem grown_past {a b c : World} {N : Nat} (h : a.grownBy b none) (k : b.grownBy c (some N)) (hN : a.heap.size ≤ N) : a.grownBy c none :=
  ⟨k.os.trans h.os, k.tape.trans h.tape, k.output.trans h.output, Nat.le_trans h.size k.size, fun i hi _ => (k.block i (Nat.lt_of_lt_of_le hi h.size) (fun e => by cases e; omega)).trans (h.block i hi (by simp))⟩

/-- What DrawState leaves. -/
def StNew (w : World) (e : Ending) (w' : World) : Prop :=
  ∃ (R : Int) (n1 n2 : Nat) (xs : List C3) (ms ts bs : List Int) (x1 : Option Addr) (c1 : Nat) (x2 : Option Addr) (c2 : Nat) (x3 : Option Addr) (c3 : Nat) (x4 : Option Addr) (c4 : Nat),
    e = .returned (.agg #[.int .i64 R, .slice x1 n1 c1, .slice x2 n1 c2, .slice x3 n1 c3, .slice x4 n2 c4]) ∧ DrawnS R n1 n2 xs ms ts bs ∧ OwnS w' w.heap.size (.slice x1 n1 c1) (.slice x2 n1 c2) (.slice x3 n1 c3) (.slice x4 n2 c4) n1 n1 n1 n2 xs ms ts bs ∧ w.grownBy w' none

set_option maxHeartbeats 2000000 in
theorem drawState_is {B : Nat} {w : World} {a : Option Addr} {len cap : Nat} (hlen : len ≤ 1048576) (hy : Draw.Bytes B w a len) (hB : B ≤ w.heap.size) :
    Calls Try.prog 11 #[.slice a len cap] w (StNew w) := by
  have HY := Lib.hid hy; clear hy
  have HE := Lib.hid ((Held.nil w).box 29 #[.int .i64 0, .slice none 0 0, .slice none 0 0, .slice none 0 0, .slice none 0 0])
  go_enter Try.func11, Try.ntmps11
  go_upto_region 1 with fail
  have HS0 := Lib.hid (show (w.alloc (.cells #[.int .i64 0, .slice none 0 0, .slice none 0 0, .slice none 0 0, .slice none 0 0] 29)).heap.size = w.heap.size + 1 by simp)
  have HY0 := Lib.hid (HY.out.kept fun k hk => Below.heap_alloc w (.cells #[.int .i64 0, .slice none 0 0, .slice none 0 0, .slice none 0 0, .slice none 0 0] 29) k (Nat.lt_of_lt_of_le hk hB))
  generalize w.alloc (.cells #[.int .i64 0, .slice none 0 0, .slice none 0 0, .slice none 0 0, .slice none 0 0] 29) = W0 at *
  go_wp2_with fail
  refine (Draw.new_any hlen HY0.out (by have := HS0.out; omega)).mono ?_; rintro e w1 ⟨rfl, hC1, hg1, hlt1⟩
  have HG1 := Lib.hid hg1; have HC1 := Lib.hid hC1
  clear hg1 hC1 hlt1
  go_wp2_with fail
  refine (stDraw_is HC1.out).mono ?_
  rintro e w2 ⟨R, n1, n2, xs, ms, ts, bs, x1, c1, x2, c2, x3, c3, x4, c4, rfl, hd, ho, -, hg⟩
  have HE2 := Lib.hid (State.Held.state HE.out (grown_past HG1.out hg (Nat.le_refl _)) (OwnS.from ho HG1.out.size))
  have HD := Lib.hid hd
  clear ho hg hd
  obtain ⟨r0, r1, r2, r3, r4⟩ := box5 (HE2.out.nth 0 rfl)
  obtain ⟨f0, f1, f2, f3, f4⟩ := free5 (HE2.out.nth 0 rfl)
  go_wp2_with fail
  have he := HE2.out.put5 0 rfl (.int .i64 R) (.slice x1 n1 c1) (.slice x2 n1 c2) (.slice x3 n1 c3) (.slice x4 n2 c4)
  exact bodyPost_ret_by (results_cell_row (fn := Try.f11) rfl _ _ w.heap.size _ _ (0, 0) _ rfl (he.nth 0 rfl) Try.underlying29 rfl (by kernel_rfl)) rfl
    ⟨R, n1, n2, xs, ms, ts, bs, x1, c1, x2, c2, x3, c3, x4, c4, rfl, HD.out, Held.stateOwn he 1 rfl, he.gr⟩

/-- What DrawLake leaves. -/
def LakeNew (w : World) (e : Ending) (w' : World) : Prop :=
  ∃ (R : Int) (n1 n2 : Nat) (xs : List C3) (bs : List Int) (h : Int) (x1 : Option Addr) (c1 : Nat) (x4 : Option Addr) (c4 : Nat),
    e = .returned (.tuple #[.agg #[.int .i64 R, .slice x1 n1 c1], .slice x4 n2 c4, .int .i64 h]) ∧ meshOk R xs = true ∧ firstGap xs < 0 ∧ xs.length = n1 ∧ (n2 : Int) = R ∧ bs.length = n2 ∧ (∀ b ∈ bs, 0 ≤ b ∧ b ≤ 8999) ∧ 0 ≤ h ∧ h ≤ 11999
    ∧ w'.ownsRow w.heap.size 35 3 (.slice x1 n1 c1) n1 (flatC xs) ∧ w'.ownsRow w.heap.size 3 1 (.slice x4 n2 c4) n2 (vals bs) ∧ Apart (.slice x1 n1 c1) (.slice x4 n2 c4) ∧ w.grownBy w' none

end Go.Proofs.Ytaccigmkddomaaa.State
