/- Two reliefs side by side: the program's pair of reliefs, its seam and its gap. -/
import Derived.Test.YtjllmidagcniaaaGpS
import Derived.RegionTactic
import Derived.BigRegion
import Derived.Deep.RegionHeld3
namespace Go.Proofs.Ytjllmidagcniaaa
open Go.RowKit
set_option linter.unusedVariables false

theorem results_cell2_tmp {fn : Func} {P : Program} {p q u : Tmp} {ty : TypeId} (h : fn.results = #[.cell p ty, .cell q ty, .tmp u]) (tmps : Array Value) (w : World) (g1 g2 : Nat) (t1 t2 : TypeId) (cs ds : Array Value) (f1 f2 : Nat × Nat) (d : TypeDesc)
    (hp : tmps.getD p undef = .pointer (some ⟨g1, 0, none⟩)) (hg : w.heap[g1]? = some (.cells cs t1 f1)) (hq : tmps.getD q undef = .pointer (some ⟨g2, 0, none⟩)) (hr : w.heap[g2]? = some (.cells ds t2 f2))
    (hu : P.underlying ty = some d) (hd : (match d with | .struct _ | .array _ _ => true | _ => false) = true) (hi : (P.info? ty).map (·.size) = some cs.size) (hj : (P.info? ty).map (·.size) = some ds.size) (v : Value) (hv : tmps.getD u undef = v) :
    (results fn tmps).run P w = .ok (.tuple #[.agg cs, .agg ds, v]) w := by
  have hp' : tmps[p]?.getD undef = .pointer (some ⟨g1, 0, none⟩) := by simpa using hp
  have hq' : tmps[q]?.getD undef = .pointer (some ⟨g2, 0, none⟩) := by simpa using hq
  have hv' : tmps[u]?.getD undef = v := by simpa using hv
  simp [results, h, hp', hq', hv', asAddr, run_loadVar_row w g1 t1 ty cs f1 d hg hu hd hi, run_loadVar_row w g2 t2 ty ds f2 d hr hu hd hj]

theorem own_rowIs {w : World} {base gg n cap : Nat} {xs : List Value} {Z : Nat → Int} {t : TypeId} (h : w.ownsRow base t 1 (.slice (some ⟨gg, 0, none⟩) n cap) n xs) (hv : ∀ i, i < n → xs[i]? = some (.int .i64 (Z i))) :
    ∃ N F, w.rowIs gg t N F ∧ n ≤ N ∧ n ≤ cap ∧ base ≤ gg ∧ gg < w.heap.size ∧ ∀ i, i < n → F i = .int .i64 (Z i) := by
  have hl := h.lt gg rfl
  rcases h.2 with ⟨h', _⟩ | ⟨g, c, cur, hv', _, hb, hle, _, hs, ht⟩
  · simp at h'
  · simp only [Value.slice.injEq, Option.some.injEq, Addr.mk.injEq, and_true, true_and] at hv'
    obtain ⟨rfl, rfl⟩ := hv'
    refine ⟨cur.size, fun i => cur.getD i undef, ⟨cur, hb, rfl, fun i hi => by simp [hi]⟩, by omega, hle, hl.1, hl.2, fun i hi => ?_⟩
    have h1 := hv i hi
    rw [← ht, List.getElem?_take_of_lt (by omega)] at h1
    simp only [Array.getElem?_toList] at h1
    simp [h1]

/-- what reliefOf answers in any case -/
def RoPost (g : G) (w : World) (e : Ending) (w' : World) : Prop :=
  ∃ (X Y : Int) (A : Option Addr) (n c : Nat), e = .returned (.tuple #[.agg #[.int .i64 X, .int .i64 Y, .slice A n c], .bool g.vB]) ∧ Below w.heap.size w w' ∧
    (g.Valid → ∃ gg N F, X = g.n ∧ Y = g.len 0 ∧ A = some ⟨gg, 0, none⟩ ∧ n = g.n * g.len 0 ∧ n ≤ c ∧ w.heap.size ≤ gg ∧ w'.rowIs gg 3 N F ∧ n ≤ N ∧ ∀ i, i < n → F i = .int .i64 (g.flat i))
theorem reliefOf_all (v : Value) (lo hi : Nat) (g : G) (w : World) (hv : RdM lo hi w v g) (hh : hi ≤ w.heap.size) :
    Calls Try.prog 57 #[v] w (RoPost g w) := by
  by_cases h : g.Valid
  · refine (reliefOf_yes v lo hi g w hv hh h).mono ?_
    rintro e w' ⟨n, gg, cap, xs, hn, rfl, hown, hval, hb⟩
    obtain ⟨N, F, h1, h2, h3, h4, _, h5⟩ := own_rowIs hown hval
    exact ⟨_, _, _, _, _, by rw [G.vB_yes h], hb, fun _ => ⟨gg, N, F, rfl, rfl, rfl, hn, h3, h4, h1, h2, h5⟩⟩
  · refine (reliefOf_no v lo hi g w hv hh h).mono ?_
    rintro e w' ⟨rfl, hb⟩
    exact ⟨_, _, _, _, _, by rw [G.vB_no h], hb, fun h' => absurd h' h⟩

/-- six stores into two boxes beside each other, and a draw -/
def rbW (wx : World) (B : Nat) (x1 y1 z1 x2 y2 z2 : Value) : World := ((((((wx.setCell ⟨B, 0, none⟩ x1).setCell ⟨B, 1, none⟩ y1).setCell ⟨B, 2, none⟩ z1).setCell ⟨B + 1, 0, none⟩ x2).setCell ⟨B + 1, 1, none⟩ y2).setCell ⟨B + 1, 2, none⟩ z2).drew
theorem set3_other (w : World) {x y : Nat} (h : y ≠ x) (a b c : Value) : (((w.setCell ⟨x, 0, none⟩ a).setCell ⟨x, 1, none⟩ b).setCell ⟨x, 2, none⟩ c).heap[y]? = w.heap[y]? := by
  rw [Below.heap_setCell _ _ _ _ h, Below.heap_setCell _ _ _ _ h, Below.heap_setCell _ _ _ _ h]
theorem drew_heap (W : World) : W.drew.heap = W.heap := rfl
theorem rb_four {wx : World} {B : Nat} {a b c x1 y1 z1 x2 y2 z2 : Value} {t : TypeId} (h : wx.heap[B]? = some (.cells #[a, b, c] t (0, 0))) :
    (rbW wx B x1 y1 z1 x2 y2 z2).heap[B]? = some (.cells #[x1, y1, z1] t (0, 0)) := by
  unfold rbW; rw [drew_heap]
  exact (set3_other ((((wx.setCell ⟨B, 0, none⟩ x1).setCell ⟨B, 1, none⟩ y1).setCell ⟨B, 2, none⟩ z1)) (x := B + 1) (by omega) x2 y2 z2).trans (three_set wx B a b c x1 y1 z1 h)
theorem rb_five {wx : World} {B : Nat} {a b c x1 y1 z1 x2 y2 z2 : Value} {t : TypeId} (h : wx.heap[B + 1]? = some (.cells #[a, b, c] t (0, 0))) :
    (rbW wx B x1 y1 z1 x2 y2 z2).heap[B + 1]? = some (.cells #[x2, y2, z2] t (0, 0)) := by
  unfold rbW; rw [drew_heap]
  exact three_set (((wx.setCell ⟨B, 0, none⟩ x1).setCell ⟨B, 1, none⟩ y1).setCell ⟨B, 2, none⟩ z1) (B + 1) a b c x2 y2 z2 ((set3_other wx (x := B) (y := B + 1) (by omega) x1 y1 z1).trans h)
theorem rb_below {w wx : World} {B : Nat} {B0 : Nat} (h : Below B0 w wx) (hB : B0 ≤ B) (x1 y1 z1 x2 y2 z2 : Value) : Below B0 w (rbW wx B x1 y1 z1 x2 y2 z2) :=
  below_drewN (below3 (below3 h hB x1 y1 z1) (show B0 ≤ B + 1 by omega) x2 y2 z2) 1
theorem rb_row {wx : World} {B g : Nat} {t : TypeId} {N : Nat} {F : Nat → Value} (h : wx.rowIs g t N F) (h1 : g ≠ B) (h2 : g ≠ B + 1) (x1 y1 z1 x2 y2 z2 : Value) : (rbW wx B x1 y1 z1 x2 y2 z2).rowIs g t N F := by
  refine h.of_block ?_
  unfold rbW; rw [drew_heap]
  exact ((set3_other ((((wx.setCell ⟨B, 0, none⟩ x1).setCell ⟨B, 1, none⟩ y1).setCell ⟨B, 2, none⟩ z1)) (x := B + 1) h2 x2 y2 z2).trans (set3_other wx h1 x1 y1 z1))
/-- two rows of their own, the first ahead of the second -/
def RbRows (a b : G) (B : Nat) (X1 Y1 : Int) (A1 : Option Addr) (n1 c1 : Nat) (X2 Y2 : Int) (A2 : Option Addr) (n2 c2 : Nat) (W : World) : Prop :=
  ∃ g1 N1 F1 g2 N2 F2, (X1 = a.n ∧ Y1 = a.len 0 ∧ A1 = some ⟨g1, 0, none⟩ ∧ n1 = a.n * a.len 0 ∧ n1 ≤ c1 ∧ B ≤ g1 ∧ W.rowIs g1 3 N1 F1 ∧ n1 ≤ N1 ∧ ∀ i, i < n1 → F1 i = .int .i64 (a.flat i)) ∧
      (X2 = b.n ∧ Y2 = b.len 0 ∧ A2 = some ⟨g2, 0, none⟩ ∧ n2 = b.n * b.len 0 ∧ n2 ≤ c2 ∧ g1 < g2 ∧ W.rowIs g2 3 N2 F2 ∧ n2 ≤ N2 ∧ ∀ i, i < n2 → F2 i = .int .i64 (b.flat i))
theorem rb_yes {a b : G} {B : Nat} {X1 Y1 : Int} {A1 : Option Addr} {n1 c1 : Nat} {X2 Y2 : Int} {A2 : Option Addr} {n2 c2 : Nat} {wx : World} (h : RbRows a b (B + 2) X1 Y1 A1 n1 c1 X2 Y2 A2 n2 c2 wx) {x1 y1 z1 x2 y2 z2 : Value} :
    RbRows a b B X1 Y1 A1 n1 c1 X2 Y2 A2 n2 c2 (rbW wx B x1 y1 z1 x2 y2 z2) := by
  obtain ⟨g1, N1, F1, g2, N2, F2, ⟨e1, e2, e3, e4, e5, e6, e7, e8, e9⟩, d1, d2, d3, d4, d5, d6, d7, d8, d9⟩ := h
  exact ⟨g1, N1, F1, g2, N2, F2, ⟨e1, e2, e3, e4, e5, by omega, rb_row e7 (by omega) (by omega) _ _ _ _ _ _, e8, e9⟩, d1, d2, d3, d4, d5, d6, rb_row d7 (by omega) (by omega) _ _ _ _ _ _, d8, d9⟩

/-- the two reliefs of two grids of as many rows, each with heights of its own -/
def RbPost (a b : G) (w : World) (e : Ending) (w' : World) : Prop :=
  ∃ (X1 Y1 : Int) (A1 : Option Addr) (n1 c1 : Nat) (X2 Y2 : Int) (A2 : Option Addr) (n2 c2 : Nat), e = .returned (.tuple #[.agg #[.int .i64 X1, .int .i64 Y1, .slice A1 n1 c1], .agg #[.int .i64 X2, .int .i64 Y2, .slice A2 n2 c2], .bool (rwB a b)]) ∧ Below w.heap.size w w' ∧
    (RwOk a b → RbRows a b w.heap.size X1 Y1 A1 n1 c1 X2 Y2 A2 n2 c2 w')

theorem cells3_of {w w' : World} {b : Nat} {x y z : Value} {t : TypeId} {B : Nat} (h : w.heap[b]? = some (.cells #[x, y, z] t (0, 0))) (hb : Below B w w') (hB : b < B) : w'.heap[b]? = some (.cells #[x, y, z] t (0, 0)) := (hb.block b hB).trans h

set_option maxHeartbeats 8000000 in
set_option maxRecDepth 20000 in
theorem reliefsBeside_any (v u : Value) (lo hi : Nat) (a b : G) (w : World) (hv : RdM lo hi w v a) (hu : RdM lo hi w u b) (hh : hi ≤ w.heap.size) :
    Calls Try.prog 53 #[v, u] w (RbPost a b w) := by
  obtain ⟨W0, hW0⟩ : ∃ W0, W0 = (w.alloc (.cells #[.int .i64 0, .int .i64 0, .slice none 0 0] 58)).alloc (.cells #[.int .i64 0, .int .i64 0, .slice none 0 0] 58) := ⟨_, rfl⟩
  have hs0 : W0.heap.size = w.heap.size + 2 := by rw [hW0]; simp
  have hb0 : Below w.heap.size w W0 := by rw [hW0]; exact ((Below.refl _ _).alloc (Nat.le_refl _) _).alloc (by simp) _
  have h4 : W0.heap[w.heap.size]? = some (.cells #[.int .i64 0, .int .i64 0, .slice none 0 0] 58 (0, 0)) := by rw [hW0]; exact heap_alloc2_old _ _ _
  have h5 : W0.heap[w.heap.size + 1]? = some (.cells #[.int .i64 0, .int .i64 0, .slice none 0 0] 58 (0, 0)) := by rw [hW0]; exact heap_alloc2_new _ _ _
  have HC := Lib.hid (reliefOf_all v lo hi a W0 (hv.same (SameIn.below hb0 hh)) (by omega))
  have HD := Lib.hid (fun (W : World) (hB : Below w.heap.size w W) => reliefOf_all u lo hi b W (hu.same (SameIn.below hB hh)) (Nat.le_trans hh hB.size))
  have HW0 := Lib.hid hW0
  have HB0 := Lib.hid hb0
  have H4 := Lib.hid h4
  have H5 := Lib.hid h5
  clear hv hu hW0 hb0 h4 h5
  go_enter Try.func53, Try.ntmps53
  go_wp2_with fail
  rw [← HW0.out]
  refine HC.out.mono ?_
  rintro e w1 ⟨X1, Y1, A1, n1, c1, rfl, hb1, hy1⟩
  have hz1 := hb1.size
  have HY1 := Lib.hid hy1
  have HB1 := Lib.hid ((HB0.out.trans (hb1.mono (by omega))).alloc (show w.heap.size ≤ w1.heap.size by omega) (.cells #[.int .i64 X1, .int .i64 Y1, .slice A1 n1 c1] 58))
  have HBB1 := Lib.hid (hb1.alloc hz1 (.cells #[.int .i64 X1, .int .i64 Y1, .slice A1 n1 c1] 58))
  have HN1 := Lib.hid (heap_alloc_new w1 (.cells #[.int .i64 X1, .int .i64 Y1, .slice A1 n1 c1] 58))
  clear hb1 hy1
  go_wp2_with fail
  refine (HD.out _ HB1.out).mono ?_
  rintro e w2 ⟨X2, Y2, A2, n2, c2, rfl, hb2, hy2⟩
  have hz2 : w1.heap.size + 1 ≤ w2.heap.size := by have := hb2.size; simpa using this
  have hba : Below w2.heap.size w2 (w2.alloc (.cells #[.int .i64 X2, .int .i64 Y2, .slice A2 n2 c2] 58)) := (Below.refl _ _).alloc (Nat.le_refl _) _
  have L7 := (hba.block w1.heap.size (by omega)).trans ((hb2.block w1.heap.size (by simp)).trans HN1.out)
  have L9 := heap_alloc_new w2 (.cells #[.int .i64 X2, .int .i64 Y2, .slice A2 n2 c2] 58)
  have L4 := (hba.block w.heap.size (by omega)).trans ((hb2.block w.heap.size (by simp; omega)).trans ((HBB1.out.block w.heap.size (by omega)).trans H4.out))
  have L5 := (hba.block (w.heap.size + 1) (by omega)).trans ((hb2.block (w.heap.size + 1) (by simp; omega)).trans ((HBB1.out.block (w.heap.size + 1) (by omega)).trans H5.out))
  have HB2 := Lib.hid ((HB1.out.trans (hb2.mono (by simp; omega))).trans (hba.mono (by omega)))
  have HY2 := Lib.hid hy2
  have HR := Lib.hid (show RwOk a b → RbRows a b (w.heap.size + 2) X1 Y1 A1 n1 c1 X2 Y2 A2 n2 c2 (w2.alloc (.cells #[.int .i64 X2, .int .i64 Y2, .slice A2 n2 c2] 58)) from fun h => by
    obtain ⟨g1, N1, F1, e1, e2, e3, e4, e5, e6, e7, e8, e9⟩ := HY1.out h.1
    obtain ⟨g2, N2, F2, d1, d2, d3, d4, d5, d6, d7, d8, d9⟩ := HY2.out h.2.1
    have l1 := e7.lt
    refine ⟨g1, N1, F1, g2, N2, F2, ⟨e1, e2, e3, e4, e5, by omega, ?_, e8, e9⟩, d1, d2, d3, d4, d5, by simp at d6; omega, d7.of_block (hba.block g2 d7.lt), d8, d9⟩
    exact e7.of_block ((hba.block g1 (by omega)).trans ((hb2.block g1 (by simp; omega)).trans (Below.heap_alloc w1 _ g1 l1)))
    )
  clear hb2 hy2
  generalize hwx : w2.alloc (.cells #[.int .i64 X2, .int .i64 Y2, .slice A2 n2 c2] 58) = wx at L7 L9 L4 L5 HB2 HR hba
  have HWX := Lib.hid hwx
  obtain ⟨s0, s1, s2, _, _, _⟩ := cells3 L7
  obtain ⟨t0, t1, t2, _, _, _⟩ := cells3 L9
  obtain ⟨_, _, _, f0, f1, f2⟩ := cells3 L4
  obtain ⟨_, _, _, k0, k1, k2⟩ := cells3 L5
  have HL4 := Lib.hid L4
  have HL5 := Lib.hid L5
  clear hba L4 L5 L7 L9 hwx
  obtain ⟨fa, hfa⟩ : ∃ fa, a.vB = fa := ⟨_, rfl⟩
  obtain ⟨fb, hfb⟩ : ∃ fb, b.vB = fb := ⟨_, rfl⟩
  go_wp2_with fail
  rw [HWX.out]
  have n1a : w1.heap.size ≠ w.heap.size := by omega
  have n1b : w1.heap.size ≠ w.heap.size + 1 := by omega
  have n2a : w2.heap.size ≠ w.heap.size := by omega
  have n2b : w2.heap.size ≠ w.heap.size + 1 := by omega
  have HYA := Lib.hid (fun h : a.Valid => (show X1 = a.n from by obtain ⟨_, _, _, e, _⟩ := HY1.out h; exact e))
  have HYB := Lib.hid (fun h : b.Valid => (show X2 = b.n from by obtain ⟨_, _, _, e, _⟩ := HY2.out h; exact e))
  clear HY1 HY2 HBB1 HN1 HC HD HW0 HB0 H4 H5 HB1 hz1 hz2 hs0 HWX
  generalize w1.heap.size = P1 at *
  generalize w2.heap.size = P2 at *
  cases fa with
  | false =>
    have hno : ¬ RwOk a b := fun h => by have := G.vB_yes h.1; rw [hfa] at this; cases this
    have HNO := Lib.hid hno
    have HF := Lib.hid (rwB_no hno)
    clear hno hfa
    go_region
    go_wp2
    exact bodyPost_ret (results_cell2_tmp rfl _ _ w.heap.size (w.heap.size + 1) _ _ #[.int .i64 X1, .int .i64 Y1, .slice A1 n1 c1] #[.int .i64 X2, .int .i64 Y2, .slice A2 n2 c2] _ _ _ rfl (rb_four HL4.out) rfl (rb_five HL5.out) Try.underlying58 rfl Try.sizeRel Try.sizeRel _ rfl) rfl
      ⟨X1, Y1, A1, n1, c1, X2, Y2, A2, n2, c2, by rw [HF.out]; rfl, rb_below HB2.out (Nat.le_refl _) _ _ _ _ _ _, fun h => absurd h HNO.out⟩
  | true =>
    cases fb with
    | false =>
      have hno : ¬ RwOk a b := fun h => by have := G.vB_yes h.2.1; rw [hfb] at this; cases this
      have HNO := Lib.hid hno
      have HF := Lib.hid (rwB_no hno)
      clear hno hfb hfa
      go_region
      go_wp2
      exact bodyPost_ret (results_cell2_tmp rfl _ _ w.heap.size (w.heap.size + 1) _ _ #[.int .i64 X1, .int .i64 Y1, .slice A1 n1 c1] #[.int .i64 X2, .int .i64 Y2, .slice A2 n2 c2] _ _ _ rfl (rb_four HL4.out) rfl (rb_five HL5.out) Try.underlying58 rfl Try.sizeRel Try.sizeRel _ rfl) rfl
        ⟨X1, Y1, A1, n1, c1, X2, Y2, A2, n2, c2, by rw [HF.out]; rfl, rb_below HB2.out (Nat.le_refl _) _ _ _ _ _ _, fun h => absurd h HNO.out⟩
    | true =>
      have ha : a.Valid := Classical.byContradiction fun h => by have := G.vB_no h; rw [hfa] at this; cases this
      have hb : b.Valid := Classical.byContradiction fun h => by have := G.vB_no h; rw [hfb] at this; cases this
      have hX1 := (HYA.out ha)
      have hX2 := (HYB.out hb)
      by_cases hn : a.n = b.n
      · have HF := Lib.hid (rwB_yes ⟨ha, hb, hn⟩)
        have hx : (X1 == X2) = true := by rw [beq_iff_eq, hX1, hX2, hn]
        clear hfa hfb ha hb hn hX1 hX2
        go_region
        go_wp2
        exact bodyPost_ret (results_cell2_tmp rfl _ _ w.heap.size (w.heap.size + 1) _ _ #[.int .i64 X1, .int .i64 Y1, .slice A1 n1 c1] #[.int .i64 X2, .int .i64 Y2, .slice A2 n2 c2] _ _ _ rfl (rb_four HL4.out) rfl (rb_five HL5.out) Try.underlying58 rfl Try.sizeRel Try.sizeRel _ rfl) rfl
          ⟨X1, Y1, A1, n1, c1, X2, Y2, A2, n2, c2, by rw [HF.out]; rfl, rb_below HB2.out (Nat.le_refl _) _ _ _ _ _ _, fun h => rb_yes (HR.out h)⟩
      · have hno : ¬ RwOk a b := fun h => hn h.2.2
        have HNO := Lib.hid hno
        have HF := Lib.hid (rwB_no hno)
        have hx : (X1 == X2) = false := by rw [beq_eq_false_iff_ne, hX1, hX2]; omega
        clear hfa hfb ha hb hn hX1 hX2 hno
        go_region
        go_wp2
        exact bodyPost_ret (results_cell2_tmp rfl _ _ w.heap.size (w.heap.size + 1) _ _ #[.int .i64 X1, .int .i64 Y1, .slice A1 n1 c1] #[.int .i64 X2, .int .i64 Y2, .slice A2 n2 c2] _ _ _ rfl (rb_four HL4.out) rfl (rb_five HL5.out) Try.underlying58 rfl Try.sizeRel Try.sizeRel _ rfl) rfl
          ⟨X1, Y1, A1, n1, c1, X2, Y2, A2, n2, c2, by rw [HF.out]; rfl, rb_below HB2.out (Nat.le_refl _) _ _ _ _ _ _, fun h => absurd h HNO.out⟩

end Go.Proofs.Ytjllmidagcniaaa
