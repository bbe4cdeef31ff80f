/- States: l07Copy of the reference model, as a contract: its statement draws the order of its four copies; by an invariant.
   Conditions: at most 2^20 leaves and numbers. -/
import Derived.Test.YtcboogodphpjbaaPkReg
import Derived.Test.YtcboogodphpjbaaStAns
import Derived.Deep.DrawnRows
import Derived.Maps.AppendAt
set_option maxRecDepth 100000
namespace Go.Proofs.Ytcboogodphpjbaa.State
open Go.ChangeShapes Go.WideShapes Go.ChangeAt Go.RowKit Go.Joins Go.Proofs.Ytcboogodphpjbaa.Cell Go.Proofs.Ytcboogodphpjbaa.Mesh Go.Proofs.Ytcboogodphpjbaa.Law Go.Proofs.Ytcboogodphpjbaa.Ints Go.Proofs.Ytcboogodphpjbaa.Draws Go.Deep

/-- One copied row of ints: not begun, begun (an empty row in slot s), done (slot d). -/
structure Part (a : Act) (began done : Bool) (s d : Nat) (v : Value) (n : Nat) (xs : List Int) (G : Grp) : Prop where
  no : began = false → done = false ∧ G = emptyG
  mid : began = true → done = false → ∃ u, At a s u ∧ G = rowG 3 1 u 0 []
  yes : done = true → At a d v ∧ G = rowG 3 1 v n (vals xs)
theorem Part.off {a : Act} {began done : Bool} {s d : Nat} {v : Value} {n : Nat} {xs : List Int} {G : Grp} (h : Part a began done s d v n xs G) {e : Nat} {u : Value} (h1 : s ≠ e) (h2 : d ≠ e) : Part (a.put (some e) u) began done s d v n xs G :=
  ⟨h.no, fun h3 h4 => let ⟨x, hx, hg⟩ := h.mid h3 h4; ⟨x, hx.off h1, hg⟩, fun h3 => ⟨(h.yes h3).1.off h2, (h.yes h3).2⟩⟩
theorem readsI_news {w : World} {g n : Nat} {xs : List Int} (h : ReadsI w (some ⟨g, 0, none⟩) n xs) : ∀ j u, (vals xs)[j]? = some u → w.cell? ((⟨g, 0, none⟩ : Addr).add j) = some u := by
  intro j u hu
  obtain ⟨x, hx, rfl⟩ : ∃ x, xs[j]? = some x ∧ Value.int .i64 x = u := by
    rw [vals, List.getElem?_map] at hu
    cases hx : xs[j]? with
    | none => rw [hx] at hu; cases hu
    | some x => rw [hx] at hu; exact ⟨x, rfl, by simpa using hu⟩
  obtain ⟨g', o, e, hc⟩ := h.at_ j x hx
  cases e
  rw [Addr.add_lit]; exact hc
theorem vals_one (xs : List Int) : ∀ u ∈ vals xs, u.oneCell' = true := by
  intro u hu
  obtain ⟨x, _, rfl⟩ := List.mem_map.1 hu
  rfl
theorem own_shapeAny {w : World} {base n s : Nat} {t : TypeId} {v : Value} {xs : List Value} (h : w.ownsRow base t s v n xs) : ∃ a cap, v = .slice a n cap := by
  rcases h.2 with ⟨rfl, rfl⟩ | ⟨g, cap, cur, rfl, -⟩
  · exact ⟨none, 0, rfl⟩
  · exact ⟨_, _, rfl⟩
theorem own_emptyI (W : World) (base : Nat) (hb : base ≤ W.heap.size) : (W.alloc (.cells #[] 3)).ownsRow base 3 1 (.slice (some ⟨W.heap.size, 0, none⟩) 0 0) 0 [] := World.ownsRow_lit W #[] 0 hb (by unfold maxLen; omega) rfl

theorem wp_value {P : Program} {o : Oper} {a : Act} {w w' : World} {K : Act → World → Prop} {Q : Exit → Act → World → Prop} {v : Value} (hr : (execOp a.eval o).run P w = .ok (.value v) w') (h : K (a.put o.dst v) w') : o.wp P a w K Q := by
  unfold Oper.wp; rw [hr]; exact h
theorem wp_skip {P : Program} {o : Oper} {a : Act} {w w' : World} {K : Act → World → Prop} {Q : Exit → Act → World → Prop} (hr : (execOp a.eval o).run P w = .ok .skip w') (h : K (a.put o.dst undef) w') : o.wp P a w K Q := by
  unfold Oper.wp; rw [hr]; exact h

/-- One append of a slice of ints to a row of ints of the call's own, as an operation. -/
theorem wp_append_ints {w : World} {o : Oper} {a : Act} {K : Act → World → Prop} {Q : Exit → Act → World → Prop} {s x : Operand} (ho : o.op = .call { callee := .builtin .append, args := #[s, x], argTypes := #[27, 27] })
    {u : Value} {g n m c : Nat} {xs : List Value} {ys : List Int} (hs : a.eval s = u) (hu : w.ownsRow 0 3 1 u n xs) (hx : a.eval x = .slice (some ⟨g, 0, none⟩) m c) (hy : ReadsI w (some ⟨g, 0, none⟩) m ys) (hn : n + m ≤ 2097152)
    (go : ∀ (u' : Value) (w' : World), w'.ownsRow 0 3 1 u' (n + m) (xs ++ vals ys) → w.grownBy w' u.ownBlock → (u'.ownBlock = u.ownBlock ∨ u'.ownBlock = some w.heap.size) → K (a.put o.dst u') w') : o.wp Try.prog a w K Q := by
  obtain ⟨i0, hi0, hz0, hz1, hz2⟩ := info_parts infoInt
  obtain ⟨u', w', hr, h2, h3, -, h4⟩ := run_append_own_at (P := Try.prog) w 0 27 o.type 3 i0 (.int .i64 0) 1 8 Try.underlying27 hi0 hz0 hz1 hz2 rfl (by decide) u n xs hu ⟨g, 0, none⟩ m c (vals ys) (by rw [vals_len, hy.len, Nat.mul_one]) (readsI_news hy) (vals_one ys) (by unfold maxLen; omega) (by omega) (Nat.zero_le _)
  refine wp_value (v := u') ?_ (go u' w' h2 h3 h4)
  simp only [execOp, ho, resolve, invoke, builtin, Sem.run_bind, Sem.run_pure, Result.andThen_ok, List.map_toArray, List.map_cons, List.map_nil, hs, hx, hr]

/-- What stands in the midst of the copying. -/
structure CopyI (R : Int) (g1 g2 g3 g4 n1 n2 n3 n4 c1 c2 c3 c4 : Nat) (xs : List C3) (ms ts bs : List Int) (w : World) (L : Nat → Bool) (a : Act) (W : World) : Prop where
  sz : a.tmps.size = 19
  df : a.defers = []
  t1 : At a 1 (.pointer (some ⟨w.heap.size, 0, none⟩))
  t2 : At a 2 (.pointer (some ⟨w.heap.size + 1, 0, none⟩))
  p0 : L 0 = true → At a 3 (.pointer (some ⟨w.heap.size, 0, none⟩))
  p1 : L 1 = true → At a 4 (.agg #[.int .i64 R, .slice (some ⟨g1, 0, none⟩) n1 c1])
  p4 : L 4 = true → At a 7 (.pointer (some ⟨w.heap.size, 2, none⟩))
  p5 : L 5 = true → At a 8 (.slice (some ⟨g2, 0, none⟩) n2 c2)
  p8 : L 8 = true → At a 11 (.pointer (some ⟨w.heap.size, 3, none⟩))
  p9 : L 9 = true → At a 12 (.slice (some ⟨g3, 0, none⟩) n3 c3)
  p12 : L 12 = true → At a 15 (.pointer (some ⟨w.heap.size, 4, none⟩))
  p13 : L 13 = true → At a 16 (.slice (some ⟨g4, 0, none⟩) n4 c4)
  body : ∃ (b1 b2 b3 b4 : Option Addr) (d1 d2 d3 d4 : Nat) (G0 G1 G2 G3 G4 : Grp), Held w W [boxG w.heap.size 29 #[.int .i64 R, .slice (some ⟨g1, 0, none⟩) n1 c1, .slice (some ⟨g2, 0, none⟩) n2 c2, .slice (some ⟨g3, 0, none⟩) n3 c3, .slice (some ⟨g4, 0, none⟩) n4 c4], G0, G1, G2, G3, G4]
    ∧ (L 2 = false → G1 = emptyG) ∧ (L 2 = true → At a 5 (.agg #[.int .i64 R, .slice b1 n1 d1]) ∧ G1 = rowG 96 3 (.slice b1 n1 d1) n1 (flatC xs))
    ∧ Part a (L 3) (L 6) 6 9 (.slice b2 n2 d2) n2 ms G2 ∧ Part a (L 7) (L 10) 10 13 (.slice b3 n3 d3) n3 ts G3 ∧ Part a (L 11) (L 14) 14 17 (.slice b4 n4 d4) n4 bs G4
    ∧ (L 15 = true → (L 2 = true ∧ L 6 = true ∧ L 10 = true ∧ L 14 = true) ∧ At a 18 (.agg #[.int .i64 R, .slice b1 n1 d1, .slice b2 n2 d2, .slice b3 n3 d3, .slice b4 n4 d4])) ∧ (L 16 = false → G0 = boxG (w.heap.size + 1) 29 #[.int .i64 0, .slice none 0 0, .slice none 0 0, .slice none 0 0, .slice none 0 0]) ∧ (L 16 = true → L 15 = true ∧ G0 = boxG (w.heap.size + 1) 29 #[.int .i64 R, .slice b1 n1 d1, .slice b2 n2 d2, .slice b3 n3 d3, .slice b4 n4 d4])


set_option maxHeartbeats 16000000 in
theorem specStCopy_is (R : Int) (g1 g2 g3 g4 n1 n2 n3 n4 c1 c2 c3 c4 : Nat) (xs : List C3) (ms ts bs : List Int) (w : World) (h : ReadsS w (some ⟨g1, 0, none⟩) (some ⟨g2, 0, none⟩) (some ⟨g3, 0, none⟩) (some ⟨g4, 0, none⟩) n1 n2 n3 n4 xs ms ts bs) (h1 : n1 ≤ 1048576) (h2 : n2 ≤ 1048576) (h3 : n3 ≤ 1048576) (h4 : n4 ≤ 1048576) :
    Calls Try.prog 41 #[.agg #[.int .i64 R, .slice (some ⟨g1, 0, none⟩) n1 c1, .slice (some ⟨g2, 0, none⟩) n2 c2, .slice (some ⟨g3, 0, none⟩) n3 c3, .slice (some ⟨g4, 0, none⟩) n4 c4]] w (GivesS R n1 n2 n3 n4 xs ms ts bs w) := by
  have HR := Lib.hid h; have H1 := Lib.hid h1; have H2 := Lib.hid h2; have H3 := Lib.hid h3; have H4 := Lib.hid h4
  clear h h1 h2 h3 h4
  have he := ((Held.nil w).box 29 #[.int .i64 R, .slice (some ⟨g1, 0, none⟩) n1 c1, .slice (some ⟨g2, 0, none⟩) n2 c2, .slice (some ⟨g3, 0, none⟩) n3 c3, .slice (some ⟨g4, 0, none⟩) n4 c4]).box 29 #[.int .i64 0, .slice none 0 0, .slice none 0 0, .slice none 0 0, .slice none 0 0]
  simp only [World.size_alloc] at he
  have HE := Lib.hid he; clear he
  go_enter Try.func41, Try.ntmps41
  go_upto_region 1 with fail
  generalize (w.alloc (.cells #[.int .i64 R, .slice (some ⟨g1, 0, none⟩) n1 c1, .slice (some ⟨g2, 0, none⟩) n2 c2, .slice (some ⟨g3, 0, none⟩) n3 c3, .slice (some ⟨g4, 0, none⟩) n4 c4] 29)).alloc (.cells #[.int .i64 0, .slice none 0 0, .slice none 0 0, .slice none 0 0, .slice none 0 0] 29) = W0 at *
  rename_i K hK
  refine wp_region_inv rfl (by kernel_rfl) (CopyI R g1 g2 g3 g4 n1 n2 n3 n4 c1 c2 c3 c4 xs ms ts bs w) ?start ?step ?last
  case start =>
    refine ⟨rfl, rfl, rfl, rfl, (fun h => nomatch h), (fun h => nomatch h), (fun h => nomatch h), (fun h => nomatch h), (fun h => nomatch h), (fun h => nomatch h), (fun h => nomatch h), (fun h => nomatch h), none, none, none, none, 0, 0, 0, 0, _, emptyG, emptyG, emptyG, emptyG, ?_, fun _ => rfl, (fun h => nomatch h), ⟨fun _ => ⟨rfl, rfl⟩, (fun h => nomatch h), (fun h => nomatch h)⟩, ⟨fun _ => ⟨rfl, rfl⟩, (fun h => nomatch h), (fun h => nomatch h)⟩, ⟨fun _ => ⟨rfl, rfl⟩, (fun h => nomatch h), (fun h => nomatch h)⟩, (fun h => nomatch h), fun _ => rfl, (fun h => nomatch h)⟩
    exact ((((HE.out.on (gr_drew (grown_refl _))).addE).addE).addE).addE
  case step =>
    intro L a W i o hI ho hL hd
    have hi : i < 17 := by have := (Array.getElem?_eq_some_iff.1 ho).1; simpa using this
    rcases (show i = 0 ∨ i = 1 ∨ i = 2 ∨ i = 3 ∨ i = 4 ∨ i = 5 ∨ i = 6 ∨ i = 7 ∨ i = 8 ∨ i = 9 ∨ i = 10 ∨ i = 11 ∨ i = 12 ∨ i = 13 ∨ i = 14 ∨ i = 15 ∨ i = 16 by omega) with rfl | rfl | rfl | rfl | rfl | rfl | rfl | rfl | rfl | rfl | rfl | rfl | rfl | rfl | rfl | rfl | rfl
    · obtain rfl := Option.some.inj ho
      obtain ⟨b1, b2, b3, b4, d1, d2, d3, d4, G0, G1, G2, G3, G4, hH, f1, f2, qM, qT, qB, f15, f16a, f16b⟩ := hI.body
      obtain ⟨z0, z1, z2, z3, z4⟩ := box5 (hH.nth 0 rfl)
      have e1 := hI.t1.get
      refine wpOp_of (by rfl) rfl (wp_value (v := .pointer (some ⟨w.heap.size, 0, none⟩)) (w' := W) ?_ ?_)
      · simp only [execOp]
        go_simp
      exact ⟨by simpa [Act.put] using hI.sz, hI.df, hI.t1.off (by decide), hI.t2.off (by decide), (fun _ => At.here (by rw [hI.sz]; decide)), (fun hl => (hI.p1 hl).off (by decide)), (fun hl => (hI.p4 hl).off (by decide)), (fun hl => (hI.p5 hl).off (by decide)), (fun hl => (hI.p8 hl).off (by decide)), (fun hl => (hI.p9 hl).off (by decide)), (fun hl => (hI.p12 hl).off (by decide)), (fun hl => (hI.p13 hl).off (by decide)), ⟨b1, b2, b3, b4, d1, d2, d3, d4, G0, G1, G2, G3, G4, hH, (fun hl => f1 hl), (fun hl => ⟨(f2 hl).1.off (by decide), (f2 hl).2⟩), qM.off (by decide) (by decide), qT.off (by decide) (by decide), qB.off (by decide) (by decide), (fun hl => ⟨(f15 hl).1, (f15 hl).2.off (by decide)⟩), (fun hl => f16a hl), (fun hl => f16b hl)⟩⟩
    · obtain rfl := Option.some.inj ho
      have l0 : L 0 = true := by first | exact hd ⟨0, .data⟩ (by simp) rfl | exact hd ⟨0, .chain⟩ (by simp) rfl | exact hd ⟨0, .phase⟩ (by simp) rfl
      obtain ⟨b1, b2, b3, b4, d1, d2, d3, d4, G0, G1, G2, G3, G4, hH, f1, f2, qM, qT, qB, f15, f16a, f16b⟩ := hI.body
      obtain ⟨z0, z1, z2, z3, z4⟩ := box5 (hH.nth 0 rfl)
      have e1 := (hI.p0 l0).get
      refine wpOp_of (by rfl) rfl (wp_value (v := .agg #[.int .i64 R, .slice (some ⟨g1, 0, none⟩) n1 c1]) (w' := W) ?_ ?_)
      · simp only [execOp]
        go_simp
      exact ⟨by simpa [Act.put] using hI.sz, hI.df, hI.t1.off (by decide), hI.t2.off (by decide), (fun hl => (hI.p0 hl).off (by decide)), (fun _ => At.here (by rw [hI.sz]; decide)), (fun hl => (hI.p4 hl).off (by decide)), (fun hl => (hI.p5 hl).off (by decide)), (fun hl => (hI.p8 hl).off (by decide)), (fun hl => (hI.p9 hl).off (by decide)), (fun hl => (hI.p12 hl).off (by decide)), (fun hl => (hI.p13 hl).off (by decide)), ⟨b1, b2, b3, b4, d1, d2, d3, d4, G0, G1, G2, G3, G4, hH, (fun hl => f1 hl), (fun hl => ⟨(f2 hl).1.off (by decide), (f2 hl).2⟩), qM.off (by decide) (by decide), qT.off (by decide) (by decide), qB.off (by decide) (by decide), (fun hl => ⟨(f15 hl).1, (f15 hl).2.off (by decide)⟩), (fun hl => f16a hl), (fun hl => f16b hl)⟩⟩
    · obtain rfl := Option.some.inj ho
      have l1 : L 1 = true := by first | exact hd ⟨1, .data⟩ (by simp) rfl | exact hd ⟨1, .chain⟩ (by simp) rfl | exact hd ⟨1, .phase⟩ (by simp) rfl
      obtain ⟨b1, b2, b3, b4, d1, d2, d3, d4, G0, G1, G2, G3, G4, hH, f1, f2, qM, qT, qB, f15, f16a, f16b⟩ := hI.body
      have e1 := (hI.p1 l1).get
      obtain rfl := f1 hL
      refine wpOp_of (by rfl) rfl ?_
      unfold Oper.wp
      simp only [execOp]
      go_simp
      refine Calls.mono (P := Try.prog) (specCopy_is R g1 n1 c1 xs W (HR.out.l.on hH.gr) H1.out) ?_
      rintro e w1 ⟨v, rfl, ho, hg⟩
      obtain ⟨b1, d1, rfl⟩ := own_shapeAny ho
      have hH2 := hH.fill 2 rfl (g' := rowG 96 3 (.slice b1 n1 d1) n1 (flatC xs)) hg (own_zero ho) (fun b hb => ho.lt b (by simpa [rowG] using hb))
      exact ⟨by simpa [Act.put] using hI.sz, hI.df, hI.t1.off (by decide), hI.t2.off (by decide), (fun hl => (hI.p0 hl).off (by decide)), (fun hl => (hI.p1 hl).off (by decide)), (fun hl => (hI.p4 hl).off (by decide)), (fun hl => (hI.p5 hl).off (by decide)), (fun hl => (hI.p8 hl).off (by decide)), (fun hl => (hI.p9 hl).off (by decide)), (fun hl => (hI.p12 hl).off (by decide)), (fun hl => (hI.p13 hl).off (by decide)), ⟨b1, b2, b3, b4, d1, d2, d3, d4, G0, _, G2, G3, G4, hH2, (fun hl => nomatch (show true = false from hl)), (fun _ => ⟨At.here (by rw [hI.sz]; decide), rfl⟩), qM.off (by decide) (by decide), qT.off (by decide) (by decide), qB.off (by decide) (by decide), (fun hl => absurd (f15 hl).1.1 (by rw [hL]; decide)), (fun hl => f16a hl), (fun hl => absurd (f15 (f16b hl).1).1.1 (by rw [hL]; decide))⟩⟩
    · obtain rfl := Option.some.inj ho
      obtain ⟨b1, b2, b3, b4, d1, d2, d3, d4, G0, G1, G2, G3, G4, hH, f1, f2, qM, qT, qB, f15, f16a, f16b⟩ := hI.body
      obtain ⟨hk, rfl⟩ := qM.no hL
      refine wpOp_of (by rfl) rfl (wp_value (v := .slice (some ⟨W.heap.size, 0, none⟩) 0 0) (w' := W.alloc (.cells #[] 3)) ?_ ?_)
      · simp only [execOp]
        go_simp
      have hH2 := hH.fill 3 rfl (g' := rowG 3 1 (.slice (some ⟨W.heap.size, 0, none⟩) 0 0) 0 []) (World.grownBy_alloc W _ none) (own_emptyI W 0 (Nat.zero_le _)) (fun b hb => by have : b = W.heap.size := (by simpa [rowG, Value.ownBlock] using hb); subst this; simp)
      exact ⟨by simpa [Act.put] using hI.sz, hI.df, hI.t1.off (by decide), hI.t2.off (by decide), (fun hl => (hI.p0 hl).off (by decide)), (fun hl => (hI.p1 hl).off (by decide)), (fun hl => (hI.p4 hl).off (by decide)), (fun hl => (hI.p5 hl).off (by decide)), (fun hl => (hI.p8 hl).off (by decide)), (fun hl => (hI.p9 hl).off (by decide)), (fun hl => (hI.p12 hl).off (by decide)), (fun hl => (hI.p13 hl).off (by decide)), ⟨b1, b2, b3, b4, d1, d2, d3, d4, G0, G1, _, G3, G4, hH2, (fun hl => f1 hl), (fun hl => ⟨(f2 hl).1.off (by decide), (f2 hl).2⟩), ⟨(fun hl => nomatch (show true = false from hl)), (fun _ _ => ⟨_, At.here (by rw [hI.sz]; decide), rfl⟩), (fun hl => absurd (show L 6 = true from hl) (by rw [hk]; decide))⟩, qT.off (by decide) (by decide), qB.off (by decide) (by decide), (fun hl => ⟨(f15 hl).1, (f15 hl).2.off (by decide)⟩), (fun hl => f16a hl), (fun hl => f16b hl)⟩⟩
    · obtain rfl := Option.some.inj ho
      obtain ⟨b1, b2, b3, b4, d1, d2, d3, d4, G0, G1, G2, G3, G4, hH, f1, f2, qM, qT, qB, f15, f16a, f16b⟩ := hI.body
      obtain ⟨z0, z1, z2, z3, z4⟩ := box5 (hH.nth 0 rfl)
      have e1 := hI.t1.get
      refine wpOp_of (by rfl) rfl (wp_value (v := .pointer (some ⟨w.heap.size, 2, none⟩)) (w' := W) ?_ ?_)
      · simp only [execOp]
        go_simp
      exact ⟨by simpa [Act.put] using hI.sz, hI.df, hI.t1.off (by decide), hI.t2.off (by decide), (fun hl => (hI.p0 hl).off (by decide)), (fun hl => (hI.p1 hl).off (by decide)), (fun _ => At.here (by rw [hI.sz]; decide)), (fun hl => (hI.p5 hl).off (by decide)), (fun hl => (hI.p8 hl).off (by decide)), (fun hl => (hI.p9 hl).off (by decide)), (fun hl => (hI.p12 hl).off (by decide)), (fun hl => (hI.p13 hl).off (by decide)), ⟨b1, b2, b3, b4, d1, d2, d3, d4, G0, G1, G2, G3, G4, hH, (fun hl => f1 hl), (fun hl => ⟨(f2 hl).1.off (by decide), (f2 hl).2⟩), qM.off (by decide) (by decide), qT.off (by decide) (by decide), qB.off (by decide) (by decide), (fun hl => ⟨(f15 hl).1, (f15 hl).2.off (by decide)⟩), (fun hl => f16a hl), (fun hl => f16b hl)⟩⟩
    · obtain rfl := Option.some.inj ho
      have l4 : L 4 = true := by first | exact hd ⟨4, .data⟩ (by simp) rfl | exact hd ⟨4, .chain⟩ (by simp) rfl | exact hd ⟨4, .phase⟩ (by simp) rfl
      obtain ⟨b1, b2, b3, b4, d1, d2, d3, d4, G0, G1, G2, G3, G4, hH, f1, f2, qM, qT, qB, f15, f16a, f16b⟩ := hI.body
      obtain ⟨z0, z1, z2, z3, z4⟩ := box5 (hH.nth 0 rfl)
      have e1 := (hI.p4 l4).get
      refine wpOp_of (by rfl) rfl (wp_value (v := .slice (some ⟨g2, 0, none⟩) n2 c2) (w' := W) ?_ ?_)
      · simp only [execOp]
        go_simp
      exact ⟨by simpa [Act.put] using hI.sz, hI.df, hI.t1.off (by decide), hI.t2.off (by decide), (fun hl => (hI.p0 hl).off (by decide)), (fun hl => (hI.p1 hl).off (by decide)), (fun hl => (hI.p4 hl).off (by decide)), (fun _ => At.here (by rw [hI.sz]; decide)), (fun hl => (hI.p8 hl).off (by decide)), (fun hl => (hI.p9 hl).off (by decide)), (fun hl => (hI.p12 hl).off (by decide)), (fun hl => (hI.p13 hl).off (by decide)), ⟨b1, b2, b3, b4, d1, d2, d3, d4, G0, G1, G2, G3, G4, hH, (fun hl => f1 hl), (fun hl => ⟨(f2 hl).1.off (by decide), (f2 hl).2⟩), qM.off (by decide) (by decide), qT.off (by decide) (by decide), qB.off (by decide) (by decide), (fun hl => ⟨(f15 hl).1, (f15 hl).2.off (by decide)⟩), (fun hl => f16a hl), (fun hl => f16b hl)⟩⟩
    · obtain rfl := Option.some.inj ho
      have l3 : L 3 = true := by first | exact hd ⟨3, .data⟩ (by simp) rfl | exact hd ⟨3, .chain⟩ (by simp) rfl | exact hd ⟨3, .phase⟩ (by simp) rfl
      have l5 : L 5 = true := by first | exact hd ⟨5, .data⟩ (by simp) rfl | exact hd ⟨5, .chain⟩ (by simp) rfl | exact hd ⟨5, .phase⟩ (by simp) rfl
      obtain ⟨b1, b2, b3, b4, d1, d2, d3, d4, G0, G1, G2, G3, G4, hH, f1, f2, qM, qT, qB, f15, f16a, f16b⟩ := hI.body
      obtain ⟨u, hu, rfl⟩ := qM.mid l3 hL
      refine wpOp_of (by rfl) rfl (wp_append_ints rfl hu.ev (hH.nth 3 rfl) (hI.p5 l5).ev (HR.out.m.on hH.gr) (by have := H2.out; omega) ?_)
      intro v' w1 hown hg hb
      rw [Nat.zero_add, List.nil_append] at hown
      obtain ⟨b2, d2, rfl⟩ := own_shapeAny hown
      have hH2 := hH.renew 3 rfl (g' := rowG 3 1 (.slice b2 n2 d2) n2 (vals ms)) (Turned.of hg) hown (fun b hb' => ⟨by rcases hb with e | e; exact .inl (by have hb'' : b ∈ (Value.slice b2 n2 d2).ownBlock.toList := hb'; rw [e] at hb''; exact hb''); exact .inr (by have hb'' : b ∈ (Value.slice b2 n2 d2).ownBlock.toList := hb'; rw [e] at hb''; simp at hb''; omega), (hown.lt b (by simpa [rowG] using hb')).2⟩)
      exact ⟨by simpa [Act.put] using hI.sz, hI.df, hI.t1.off (by decide), hI.t2.off (by decide), (fun hl => (hI.p0 hl).off (by decide)), (fun hl => (hI.p1 hl).off (by decide)), (fun hl => (hI.p4 hl).off (by decide)), (fun hl => (hI.p5 hl).off (by decide)), (fun hl => (hI.p8 hl).off (by decide)), (fun hl => (hI.p9 hl).off (by decide)), (fun hl => (hI.p12 hl).off (by decide)), (fun hl => (hI.p13 hl).off (by decide)), ⟨b1, b2, b3, b4, d1, d2, d3, d4, G0, G1, _, G3, G4, hH2, (fun hl => f1 hl), (fun hl => ⟨(f2 hl).1.off (by decide), (f2 hl).2⟩), ⟨(fun hl => absurd (show L 3 = false from hl) (by rw [l3]; decide)), (fun _ hl => nomatch (show true = false from hl)), (fun _ => ⟨At.here (by rw [hI.sz]; decide), rfl⟩)⟩, qT.off (by decide) (by decide), qB.off (by decide) (by decide), (fun hl => absurd (f15 hl).1.2.1 (by rw [hL]; decide)), (fun hl => f16a hl), (fun hl => absurd (f15 (f16b hl).1).1.2.1 (by rw [hL]; decide))⟩⟩
    · obtain rfl := Option.some.inj ho
      obtain ⟨b1, b2, b3, b4, d1, d2, d3, d4, G0, G1, G2, G3, G4, hH, f1, f2, qM, qT, qB, f15, f16a, f16b⟩ := hI.body
      obtain ⟨hk, rfl⟩ := qT.no hL
      refine wpOp_of (by rfl) rfl (wp_value (v := .slice (some ⟨W.heap.size, 0, none⟩) 0 0) (w' := W.alloc (.cells #[] 3)) ?_ ?_)
      · simp only [execOp]
        go_simp
      have hH2 := hH.fill 4 rfl (g' := rowG 3 1 (.slice (some ⟨W.heap.size, 0, none⟩) 0 0) 0 []) (World.grownBy_alloc W _ none) (own_emptyI W 0 (Nat.zero_le _)) (fun b hb => by have : b = W.heap.size := (by simpa [rowG, Value.ownBlock] using hb); subst this; simp)
      exact ⟨by simpa [Act.put] using hI.sz, hI.df, hI.t1.off (by decide), hI.t2.off (by decide), (fun hl => (hI.p0 hl).off (by decide)), (fun hl => (hI.p1 hl).off (by decide)), (fun hl => (hI.p4 hl).off (by decide)), (fun hl => (hI.p5 hl).off (by decide)), (fun hl => (hI.p8 hl).off (by decide)), (fun hl => (hI.p9 hl).off (by decide)), (fun hl => (hI.p12 hl).off (by decide)), (fun hl => (hI.p13 hl).off (by decide)), ⟨b1, b2, b3, b4, d1, d2, d3, d4, G0, G1, G2, _, G4, hH2, (fun hl => f1 hl), (fun hl => ⟨(f2 hl).1.off (by decide), (f2 hl).2⟩), qM.off (by decide) (by decide), ⟨(fun hl => nomatch (show true = false from hl)), (fun _ _ => ⟨_, At.here (by rw [hI.sz]; decide), rfl⟩), (fun hl => absurd (show L 10 = true from hl) (by rw [hk]; decide))⟩, qB.off (by decide) (by decide), (fun hl => ⟨(f15 hl).1, (f15 hl).2.off (by decide)⟩), (fun hl => f16a hl), (fun hl => f16b hl)⟩⟩
    · obtain rfl := Option.some.inj ho
      obtain ⟨b1, b2, b3, b4, d1, d2, d3, d4, G0, G1, G2, G3, G4, hH, f1, f2, qM, qT, qB, f15, f16a, f16b⟩ := hI.body
      obtain ⟨z0, z1, z2, z3, z4⟩ := box5 (hH.nth 0 rfl)
      have e1 := hI.t1.get
      refine wpOp_of (by rfl) rfl (wp_value (v := .pointer (some ⟨w.heap.size, 3, none⟩)) (w' := W) ?_ ?_)
      · simp only [execOp]
        go_simp
      exact ⟨by simpa [Act.put] using hI.sz, hI.df, hI.t1.off (by decide), hI.t2.off (by decide), (fun hl => (hI.p0 hl).off (by decide)), (fun hl => (hI.p1 hl).off (by decide)), (fun hl => (hI.p4 hl).off (by decide)), (fun hl => (hI.p5 hl).off (by decide)), (fun _ => At.here (by rw [hI.sz]; decide)), (fun hl => (hI.p9 hl).off (by decide)), (fun hl => (hI.p12 hl).off (by decide)), (fun hl => (hI.p13 hl).off (by decide)), ⟨b1, b2, b3, b4, d1, d2, d3, d4, G0, G1, G2, G3, G4, hH, (fun hl => f1 hl), (fun hl => ⟨(f2 hl).1.off (by decide), (f2 hl).2⟩), qM.off (by decide) (by decide), qT.off (by decide) (by decide), qB.off (by decide) (by decide), (fun hl => ⟨(f15 hl).1, (f15 hl).2.off (by decide)⟩), (fun hl => f16a hl), (fun hl => f16b hl)⟩⟩
    · obtain rfl := Option.some.inj ho
      have l8 : L 8 = true := by first | exact hd ⟨8, .data⟩ (by simp) rfl | exact hd ⟨8, .chain⟩ (by simp) rfl | exact hd ⟨8, .phase⟩ (by simp) rfl
      obtain ⟨b1, b2, b3, b4, d1, d2, d3, d4, G0, G1, G2, G3, G4, hH, f1, f2, qM, qT, qB, f15, f16a, f16b⟩ := hI.body
      obtain ⟨z0, z1, z2, z3, z4⟩ := box5 (hH.nth 0 rfl)
      have e1 := (hI.p8 l8).get
      refine wpOp_of (by rfl) rfl (wp_value (v := .slice (some ⟨g3, 0, none⟩) n3 c3) (w' := W) ?_ ?_)
      · simp only [execOp]
        go_simp
      exact ⟨by simpa [Act.put] using hI.sz, hI.df, hI.t1.off (by decide), hI.t2.off (by decide), (fun hl => (hI.p0 hl).off (by decide)), (fun hl => (hI.p1 hl).off (by decide)), (fun hl => (hI.p4 hl).off (by decide)), (fun hl => (hI.p5 hl).off (by decide)), (fun hl => (hI.p8 hl).off (by decide)), (fun _ => At.here (by rw [hI.sz]; decide)), (fun hl => (hI.p12 hl).off (by decide)), (fun hl => (hI.p13 hl).off (by decide)), ⟨b1, b2, b3, b4, d1, d2, d3, d4, G0, G1, G2, G3, G4, hH, (fun hl => f1 hl), (fun hl => ⟨(f2 hl).1.off (by decide), (f2 hl).2⟩), qM.off (by decide) (by decide), qT.off (by decide) (by decide), qB.off (by decide) (by decide), (fun hl => ⟨(f15 hl).1, (f15 hl).2.off (by decide)⟩), (fun hl => f16a hl), (fun hl => f16b hl)⟩⟩
    · obtain rfl := Option.some.inj ho
      have l7 : L 7 = true := by first | exact hd ⟨7, .data⟩ (by simp) rfl | exact hd ⟨7, .chain⟩ (by simp) rfl | exact hd ⟨7, .phase⟩ (by simp) rfl
      have l9 : L 9 = true := by first | exact hd ⟨9, .data⟩ (by simp) rfl | exact hd ⟨9, .chain⟩ (by simp) rfl | exact hd ⟨9, .phase⟩ (by simp) rfl
      obtain ⟨b1, b2, b3, b4, d1, d2, d3, d4, G0, G1, G2, G3, G4, hH, f1, f2, qM, qT, qB, f15, f16a, f16b⟩ := hI.body
      obtain ⟨u, hu, rfl⟩ := qT.mid l7 hL
      refine wpOp_of (by rfl) rfl (wp_append_ints rfl hu.ev (hH.nth 4 rfl) (hI.p9 l9).ev (HR.out.t.on hH.gr) (by have := H3.out; omega) ?_)
      intro v' w1 hown hg hb
      rw [Nat.zero_add, List.nil_append] at hown
      obtain ⟨b3, d3, rfl⟩ := own_shapeAny hown
      have hH2 := hH.renew 4 rfl (g' := rowG 3 1 (.slice b3 n3 d3) n3 (vals ts)) (Turned.of hg) hown (fun b hb' => ⟨by rcases hb with e | e; exact .inl (by have hb'' : b ∈ (Value.slice b3 n3 d3).ownBlock.toList := hb'; rw [e] at hb''; exact hb''); exact .inr (by have hb'' : b ∈ (Value.slice b3 n3 d3).ownBlock.toList := hb'; rw [e] at hb''; simp at hb''; omega), (hown.lt b (by simpa [rowG] using hb')).2⟩)
      exact ⟨by simpa [Act.put] using hI.sz, hI.df, hI.t1.off (by decide), hI.t2.off (by decide), (fun hl => (hI.p0 hl).off (by decide)), (fun hl => (hI.p1 hl).off (by decide)), (fun hl => (hI.p4 hl).off (by decide)), (fun hl => (hI.p5 hl).off (by decide)), (fun hl => (hI.p8 hl).off (by decide)), (fun hl => (hI.p9 hl).off (by decide)), (fun hl => (hI.p12 hl).off (by decide)), (fun hl => (hI.p13 hl).off (by decide)), ⟨b1, b2, b3, b4, d1, d2, d3, d4, G0, G1, G2, _, G4, hH2, (fun hl => f1 hl), (fun hl => ⟨(f2 hl).1.off (by decide), (f2 hl).2⟩), qM.off (by decide) (by decide), ⟨(fun hl => absurd (show L 7 = false from hl) (by rw [l7]; decide)), (fun _ hl => nomatch (show true = false from hl)), (fun _ => ⟨At.here (by rw [hI.sz]; decide), rfl⟩)⟩, qB.off (by decide) (by decide), (fun hl => absurd (f15 hl).1.2.2.1 (by rw [hL]; decide)), (fun hl => f16a hl), (fun hl => absurd (f15 (f16b hl).1).1.2.2.1 (by rw [hL]; decide))⟩⟩
    · obtain rfl := Option.some.inj ho
      obtain ⟨b1, b2, b3, b4, d1, d2, d3, d4, G0, G1, G2, G3, G4, hH, f1, f2, qM, qT, qB, f15, f16a, f16b⟩ := hI.body
      obtain ⟨hk, rfl⟩ := qB.no hL
      refine wpOp_of (by rfl) rfl (wp_value (v := .slice (some ⟨W.heap.size, 0, none⟩) 0 0) (w' := W.alloc (.cells #[] 3)) ?_ ?_)
      · simp only [execOp]
        go_simp
      have hH2 := hH.fill 5 rfl (g' := rowG 3 1 (.slice (some ⟨W.heap.size, 0, none⟩) 0 0) 0 []) (World.grownBy_alloc W _ none) (own_emptyI W 0 (Nat.zero_le _)) (fun b hb => by have : b = W.heap.size := (by simpa [rowG, Value.ownBlock] using hb); subst this; simp)
      exact ⟨by simpa [Act.put] using hI.sz, hI.df, hI.t1.off (by decide), hI.t2.off (by decide), (fun hl => (hI.p0 hl).off (by decide)), (fun hl => (hI.p1 hl).off (by decide)), (fun hl => (hI.p4 hl).off (by decide)), (fun hl => (hI.p5 hl).off (by decide)), (fun hl => (hI.p8 hl).off (by decide)), (fun hl => (hI.p9 hl).off (by decide)), (fun hl => (hI.p12 hl).off (by decide)), (fun hl => (hI.p13 hl).off (by decide)), ⟨b1, b2, b3, b4, d1, d2, d3, d4, G0, G1, G2, G3, _, hH2, (fun hl => f1 hl), (fun hl => ⟨(f2 hl).1.off (by decide), (f2 hl).2⟩), qM.off (by decide) (by decide), qT.off (by decide) (by decide), ⟨(fun hl => nomatch (show true = false from hl)), (fun _ _ => ⟨_, At.here (by rw [hI.sz]; decide), rfl⟩), (fun hl => absurd (show L 14 = true from hl) (by rw [hk]; decide))⟩, (fun hl => ⟨(f15 hl).1, (f15 hl).2.off (by decide)⟩), (fun hl => f16a hl), (fun hl => f16b hl)⟩⟩
    · obtain rfl := Option.some.inj ho
      obtain ⟨b1, b2, b3, b4, d1, d2, d3, d4, G0, G1, G2, G3, G4, hH, f1, f2, qM, qT, qB, f15, f16a, f16b⟩ := hI.body
      obtain ⟨z0, z1, z2, z3, z4⟩ := box5 (hH.nth 0 rfl)
      have e1 := hI.t1.get
      refine wpOp_of (by rfl) rfl (wp_value (v := .pointer (some ⟨w.heap.size, 4, none⟩)) (w' := W) ?_ ?_)
      · simp only [execOp]
        go_simp
      exact ⟨by simpa [Act.put] using hI.sz, hI.df, hI.t1.off (by decide), hI.t2.off (by decide), (fun hl => (hI.p0 hl).off (by decide)), (fun hl => (hI.p1 hl).off (by decide)), (fun hl => (hI.p4 hl).off (by decide)), (fun hl => (hI.p5 hl).off (by decide)), (fun hl => (hI.p8 hl).off (by decide)), (fun hl => (hI.p9 hl).off (by decide)), (fun _ => At.here (by rw [hI.sz]; decide)), (fun hl => (hI.p13 hl).off (by decide)), ⟨b1, b2, b3, b4, d1, d2, d3, d4, G0, G1, G2, G3, G4, hH, (fun hl => f1 hl), (fun hl => ⟨(f2 hl).1.off (by decide), (f2 hl).2⟩), qM.off (by decide) (by decide), qT.off (by decide) (by decide), qB.off (by decide) (by decide), (fun hl => ⟨(f15 hl).1, (f15 hl).2.off (by decide)⟩), (fun hl => f16a hl), (fun hl => f16b hl)⟩⟩
    · obtain rfl := Option.some.inj ho
      have l12 : L 12 = true := by first | exact hd ⟨12, .data⟩ (by simp) rfl | exact hd ⟨12, .chain⟩ (by simp) rfl | exact hd ⟨12, .phase⟩ (by simp) rfl
      obtain ⟨b1, b2, b3, b4, d1, d2, d3, d4, G0, G1, G2, G3, G4, hH, f1, f2, qM, qT, qB, f15, f16a, f16b⟩ := hI.body
      obtain ⟨z0, z1, z2, z3, z4⟩ := box5 (hH.nth 0 rfl)
      have e1 := (hI.p12 l12).get
      refine wpOp_of (by rfl) rfl (wp_value (v := .slice (some ⟨g4, 0, none⟩) n4 c4) (w' := W) ?_ ?_)
      · simp only [execOp]
        go_simp
      exact ⟨by simpa [Act.put] using hI.sz, hI.df, hI.t1.off (by decide), hI.t2.off (by decide), (fun hl => (hI.p0 hl).off (by decide)), (fun hl => (hI.p1 hl).off (by decide)), (fun hl => (hI.p4 hl).off (by decide)), (fun hl => (hI.p5 hl).off (by decide)), (fun hl => (hI.p8 hl).off (by decide)), (fun hl => (hI.p9 hl).off (by decide)), (fun hl => (hI.p12 hl).off (by decide)), (fun _ => At.here (by rw [hI.sz]; decide)), ⟨b1, b2, b3, b4, d1, d2, d3, d4, G0, G1, G2, G3, G4, hH, (fun hl => f1 hl), (fun hl => ⟨(f2 hl).1.off (by decide), (f2 hl).2⟩), qM.off (by decide) (by decide), qT.off (by decide) (by decide), qB.off (by decide) (by decide), (fun hl => ⟨(f15 hl).1, (f15 hl).2.off (by decide)⟩), (fun hl => f16a hl), (fun hl => f16b hl)⟩⟩
    · obtain rfl := Option.some.inj ho
      have l11 : L 11 = true := by first | exact hd ⟨11, .data⟩ (by simp) rfl | exact hd ⟨11, .chain⟩ (by simp) rfl | exact hd ⟨11, .phase⟩ (by simp) rfl
      have l13 : L 13 = true := by first | exact hd ⟨13, .data⟩ (by simp) rfl | exact hd ⟨13, .chain⟩ (by simp) rfl | exact hd ⟨13, .phase⟩ (by simp) rfl
      obtain ⟨b1, b2, b3, b4, d1, d2, d3, d4, G0, G1, G2, G3, G4, hH, f1, f2, qM, qT, qB, f15, f16a, f16b⟩ := hI.body
      obtain ⟨u, hu, rfl⟩ := qB.mid l11 hL
      refine wpOp_of (by rfl) rfl (wp_append_ints rfl hu.ev (hH.nth 5 rfl) (hI.p13 l13).ev (HR.out.b.on hH.gr) (by have := H4.out; omega) ?_)
      intro v' w1 hown hg hb
      rw [Nat.zero_add, List.nil_append] at hown
      obtain ⟨b4, d4, rfl⟩ := own_shapeAny hown
      have hH2 := hH.renew 5 rfl (g' := rowG 3 1 (.slice b4 n4 d4) n4 (vals bs)) (Turned.of hg) hown (fun b hb' => ⟨by rcases hb with e | e; exact .inl (by have hb'' : b ∈ (Value.slice b4 n4 d4).ownBlock.toList := hb'; rw [e] at hb''; exact hb''); exact .inr (by have hb'' : b ∈ (Value.slice b4 n4 d4).ownBlock.toList := hb'; rw [e] at hb''; simp at hb''; omega), (hown.lt b (by simpa [rowG] using hb')).2⟩)
      exact ⟨by simpa [Act.put] using hI.sz, hI.df, hI.t1.off (by decide), hI.t2.off (by decide), (fun hl => (hI.p0 hl).off (by decide)), (fun hl => (hI.p1 hl).off (by decide)), (fun hl => (hI.p4 hl).off (by decide)), (fun hl => (hI.p5 hl).off (by decide)), (fun hl => (hI.p8 hl).off (by decide)), (fun hl => (hI.p9 hl).off (by decide)), (fun hl => (hI.p12 hl).off (by decide)), (fun hl => (hI.p13 hl).off (by decide)), ⟨b1, b2, b3, b4, d1, d2, d3, d4, G0, G1, G2, G3, _, hH2, (fun hl => f1 hl), (fun hl => ⟨(f2 hl).1.off (by decide), (f2 hl).2⟩), qM.off (by decide) (by decide), qT.off (by decide) (by decide), ⟨(fun hl => absurd (show L 11 = false from hl) (by rw [l11]; decide)), (fun _ hl => nomatch (show true = false from hl)), (fun _ => ⟨At.here (by rw [hI.sz]; decide), rfl⟩)⟩, (fun hl => absurd (f15 hl).1.2.2.2 (by rw [hL]; decide)), (fun hl => f16a hl), (fun hl => absurd (f15 (f16b hl).1).1.2.2.2 (by rw [hL]; decide))⟩⟩
    · obtain rfl := Option.some.inj ho
      have l2 : L 2 = true := by first | exact hd ⟨2, .data⟩ (by simp) rfl | exact hd ⟨2, .chain⟩ (by simp) rfl
      have l6 : L 6 = true := by first | exact hd ⟨6, .data⟩ (by simp) rfl | exact hd ⟨6, .chain⟩ (by simp) rfl
      have l10 : L 10 = true := by first | exact hd ⟨10, .data⟩ (by simp) rfl | exact hd ⟨10, .chain⟩ (by simp) rfl
      have l14 : L 14 = true := by first | exact hd ⟨14, .data⟩ (by simp) rfl | exact hd ⟨14, .chain⟩ (by simp) rfl
      obtain ⟨b1, b2, b3, b4, d1, d2, d3, d4, G0, G1, G2, G3, G4, hH, f1, f2, qM, qT, qB, f15, f16a, f16b⟩ := hI.body
      have e5 := (f2 l2).1.get
      have e9 := (qM.yes l6).1.get
      have e13 := (qT.yes l10).1.get
      have e17 := (qB.yes l14).1.get
      refine wpOp_of (by rfl) rfl (wp_value (v := .agg #[.int .i64 R, .slice b1 n1 d1, .slice b2 n2 d2, .slice b3 n3 d3, .slice b4 n4 d4]) (w' := W) ?_ ?_)
      · simp only [execOp]
        go_simp
      exact ⟨by simpa [Act.put] using hI.sz, hI.df, hI.t1.off (by decide), hI.t2.off (by decide), (fun hl => (hI.p0 hl).off (by decide)), (fun hl => (hI.p1 hl).off (by decide)), (fun hl => (hI.p4 hl).off (by decide)), (fun hl => (hI.p5 hl).off (by decide)), (fun hl => (hI.p8 hl).off (by decide)), (fun hl => (hI.p9 hl).off (by decide)), (fun hl => (hI.p12 hl).off (by decide)), (fun hl => (hI.p13 hl).off (by decide)), ⟨b1, b2, b3, b4, d1, d2, d3, d4, G0, G1, G2, G3, G4, hH, (fun hl => f1 hl), (fun hl => ⟨(f2 hl).1.off (by decide), (f2 hl).2⟩), qM.off (by decide) (by decide), qT.off (by decide) (by decide), qB.off (by decide) (by decide), (fun _ => ⟨⟨l2, l6, l10, l14⟩, At.here (by rw [hI.sz]; decide)⟩), (fun hl => f16a hl), (fun hl => absurd (f16b hl).1 (by rw [hL]; decide))⟩⟩
    · obtain rfl := Option.some.inj ho
      have l15 : L 15 = true := by first | exact hd ⟨15, .data⟩ (by simp) rfl | exact hd ⟨15, .chain⟩ (by simp) rfl | exact hd ⟨15, .phase⟩ (by simp) rfl
      obtain ⟨b1, b2, b3, b4, d1, d2, d3, d4, G0, G1, G2, G3, G4, hH, f1, f2, qM, qT, qB, f15, f16a, f16b⟩ := hI.body
      obtain rfl := f16a hL
      obtain ⟨z0, z1, z2, z3, z4⟩ := box5 (hH.nth 1 rfl)
      obtain ⟨y0, y1, y2, y3, y4⟩ := free5 (hH.nth 1 rfl)
      have e2 := hI.t2.get
      have e18 := (f15 l15).2.get
      refine wpOp_of (by rfl) rfl (wp_skip (w' := ((((W.setCell ⟨w.heap.size + 1, 0, none⟩ (.int .i64 R)).setCell ⟨w.heap.size + 1, 1, none⟩ (.slice b1 n1 d1)).setCell ⟨w.heap.size + 1, 2, none⟩ (.slice b2 n2 d2)).setCell ⟨w.heap.size + 1, 3, none⟩ (.slice b3 n3 d3)).setCell ⟨w.heap.size + 1, 4, none⟩ (.slice b4 n4 d4)) ?_ ?_)
      · simp only [execOp]
        go_simp
      have hH2 := hH.put5 1 rfl (.int .i64 R) (.slice b1 n1 d1) (.slice b2 n2 d2) (.slice b3 n3 d3) (.slice b4 n4 d4)
      exact ⟨by simpa [Act.put] using hI.sz, hI.df, hI.t1.none, hI.t2.none, (fun hl => (hI.p0 hl).none), (fun hl => (hI.p1 hl).none), (fun hl => (hI.p4 hl).none), (fun hl => (hI.p5 hl).none), (fun hl => (hI.p8 hl).none), (fun hl => (hI.p9 hl).none), (fun hl => (hI.p12 hl).none), (fun hl => (hI.p13 hl).none), ⟨b1, b2, b3, b4, d1, d2, d3, d4, _, G1, G2, G3, G4, hH2, (fun hl => f1 hl), (fun hl => ⟨(f2 hl).1.none, (f2 hl).2⟩), ⟨fun hl => qM.no hl, fun hl hk => qM.mid hl hk, fun hl => qM.yes hl⟩, ⟨fun hl => qT.no hl, fun hl hk => qT.mid hl hk, fun hl => qT.yes hl⟩, ⟨fun hl => qB.no hl, fun hl hk => qB.mid hl hk, fun hl => qB.yes hl⟩, (fun hl => ⟨(f15 hl).1, (f15 hl).2.none⟩), (fun hl => nomatch (show true = false from hl)), (fun _ => ⟨l15, rfl⟩)⟩⟩
  case last =>
    intro L a W hI hall
    have al : ∀ i, i < 17 → L i = true := fun i hi => hall i (by simpa using hi)
    obtain ⟨b1, b2, b3, b4, d1, d2, d3, d4, G0, G1, G2, G3, G4, hH, f1, f2, qM, qT, qB, f15, f16a, f16b⟩ := hI.body
    obtain ⟨-, rfl⟩ := f2 (al 2 (by decide))
    obtain ⟨-, rfl⟩ := qM.yes (al 6 (by decide))
    obtain ⟨-, rfl⟩ := qT.yes (al 10 (by decide))
    obtain ⟨-, rfl⟩ := qB.yes (al 14 (by decide))
    obtain ⟨-, rfl⟩ := f16b (al 16 (by decide))
    refine hK _ _ (wp_ret ?_)
    exact bodyPost_ret_by (results_cell_row (fn := Try.f41) rfl _ _ (w.heap.size + 1) _ #[.int .i64 R, .slice b1 n1 d1, .slice b2 n2 d2, .slice b3 n3 d3, .slice b4 n4 d4] (0, 0) _ hI.t2.ev (hH.nth 1 rfl) Try.underlying29 rfl (by kernel_rfl)) hI.df
      ⟨b1, d1, b2, d2, b3, d3, b4, d4, rfl, Held.ownS hH 2 rfl rfl rfl rfl, hH.gr⟩
end Go.Proofs.Ytcboogodphpjbaa.State
