/- Two reliefs side by side: the program's pair of reliefs, its seam and its gap. -/
import Derived.Test.YteoncpifjifjlaaDoorGpS
import Derived.RegionTactic
import Derived.BigRegion
import Derived.Deep.RegionHeld3
namespace Go.Proofs.YteoncpifjifjlaaDoor
open Go.RowKit
set_option linter.unusedVariables false

theorem results_cell2_tmp {fn : Func} {P : Program} {p q u : Tmp} {ty : TypeId} (h : fn.results = #[.cell p ty, .cell q ty, .tmp u]) (tmps : Array Value) (w : World) (g1 g2 : Nat) (t1 t2 : TypeId) (cs ds : Array Value) (f1 f2 : Nat × Nat) (d : TypeDesc)
    (hp : tmps.getD p undef = .pointer (some ⟨g1, 0, none⟩)) (hg : w.heap[g1]? = some (.cells cs t1 f1)) (hq : tmps.getD q undef = .pointer (some ⟨g2, 0, none⟩)) (hr : w.heap[g2]? = some (.cells ds t2 f2))
    (hu : P.underlying ty = some d) (hd : (match d with | .struct _ | .array _ _ => true | _ => false) = true) (hi : (P.info? ty).map (·.size) = some cs.size) (hj : (P.info? ty).map (·.size) = some ds.size) (v : Value) (hv : tmps.getD u undef = v) :
    (results fn tmps).run P w = .ok (.tuple #[.agg cs, .agg ds, v]) w := by
  have hp' : tmps[p]?.getD undef = .pointer (some ⟨g1, 0, none⟩) := by simpa using hp
  have hq' : tmps[q]?.getD undef = .pointer (some ⟨g2, 0, none⟩) := by simpa using hq
  have hv' : tmps[u]?.getD undef = v := by simpa using hv
  simp [results, h, hp', hq', hv', asAddr, run_loadVar_row w g1 t1 ty cs f1 d hg hu hd hi, run_loadVar_row w g2 t2 ty ds f2 d hr hu hd hj]

theorem own_rowIs {w : World} {base gg n cap : Nat} {xs : List Value} {Z : Nat → Int} {t : TypeId} (h : w.ownsRow base t 1 (.slice (some ⟨gg, 0, none⟩) n cap) n xs) (hv : ∀ i, i < n → xs[i]? = some (.int .i64 (Z i))) :
    ∃ N F, w.rowIs gg t N F ∧ n ≤ N ∧ n ≤ cap ∧ base ≤ gg ∧ gg < w.heap.size ∧ ∀ i, i < n → F i = .int .i64 (Z i) := by
  have hl := h.lt gg rfl
  rcases h.2 with ⟨h', _⟩ | ⟨g, c, cur, hv', _, hb, hle, _, hs, ht⟩
  · simp at h'
  · simp only [Value.slice.injEq, Option.some.injEq, Addr.mk.injEq, and_true, true_and] at hv'
    obtain ⟨rfl, rfl⟩ := hv'
    refine ⟨cur.size, fun i => cur.getD i undef, ⟨cur, hb, rfl, fun i hi => by simp [hi]⟩, by omega, hle, hl.1, hl.2, fun i hi => ?_⟩
    have h1 := hv i hi
    rw [← ht, List.getElem?_take_of_lt (by omega)] at h1
    simp only [Array.getElem?_toList] at h1
    simp [h1]

/-- what reliefOf answers in any case -/
def RoPost (g : G) (w : World) (e : Ending) (w' : World) : Prop :=
  ∃ (X Y : Int) (A : Option Addr) (n c : Nat), e = .returned (.tuple #[.agg #[.int .i64 X, .int .i64 Y, .slice A n c], .bool g.vB]) ∧ Below w.heap.size w w' ∧
    (g.Valid → ∃ gg N F, X = g.n ∧ Y = g.len 0 ∧ A = some ⟨gg, 0, none⟩ ∧ n = g.n * g.len 0 ∧ n ≤ c ∧ w.heap.size ≤ gg ∧ w'.rowIs gg 3 N F ∧ n ≤ N ∧ ∀ i, i < n → F i = .int .i64 (g.flat i))
theorem reliefOf_all (v : Value) (lo hi : Nat) (g : G) (w : World) (hv : RdM lo hi w v g) (hh : hi ≤ w.heap.size) :
    Calls Tryd.prog 52 #[v] w (RoPost g w) := by
  by_cases h : g.Valid
  · refine (reliefOf_yes v lo hi g w hv hh h).mono ?_
    rintro e w' ⟨n, gg, cap, xs, hn, rfl, hown, hval, hb⟩
    obtain ⟨N, F, h1, h2, h3, h4, _, h5⟩ := own_rowIs hown hval
    exact ⟨_, _, _, _, _, by rw [G.vB_yes h], hb, fun _ => ⟨gg, N, F, rfl, rfl, rfl, hn, h3, h4, h1, h2, h5⟩⟩
  · refine (reliefOf_no v lo hi g w hv hh h).mono ?_
    rintro e w' ⟨rfl, hb⟩
    exact ⟨_, _, _, _, _, by rw [G.vB_no h], hb, fun h' => absurd h' h⟩

/-- six stores into two boxes beside each other, and a draw -/
def rbW (wx : World) (B : Nat) (x1 y1 z1 x2 y2 z2 : Value) : World := ((((((wx.setCell ⟨B, 0, none⟩ x1).setCell ⟨B, 1, none⟩ y1).setCell ⟨B, 2, none⟩ z1).setCell ⟨B + 1, 0, none⟩ x2).setCell ⟨B + 1, 1, none⟩ y2).setCell ⟨B + 1, 2, none⟩ z2).drew
theorem set3_other (w : World) {x y : Nat} (h : y ≠ x) (a b c : Value) : (((w.setCell ⟨x, 0, none⟩ a).setCell ⟨x, 1, none⟩ b).setCell ⟨x, 2, none⟩ c).heap[y]? = w.heap[y]? := by
  rw [Below.heap_setCell _ _ _ _ h, Below.heap_setCell _ _ _ _ h, Below.heap_setCell _ _ _ _ h]
theorem drew_heap (W : World) : W.drew.heap = W.heap := rfl
theorem rb_four {wx : World} {B : Nat} {a b c x1 y1 z1 x2 y2 z2 : Value} {t : TypeId} (h : wx.heap[B]? = some (.cells #[a, b, c] t (0, 0))) :
    (rbW wx B x1 y1 z1 x2 y2 z2).heap[B]? = some (.cells #[x1, y1, z1] t (0, 0)) := by
  unfold rbW; rw [drew_heap]
  exact (set3_other ((((wx.setCell ⟨B, 0, none⟩ x1).setCell ⟨B, 1, none⟩ y1).setCell ⟨B, 2, none⟩ z1)) (x := B + 1) (by omega) x2 y2 z2).trans (three_set wx B a b c x1 y1 z1 h)
theorem rb_five {wx : World} {B : Nat} {a b c x1 y1 z1 x2 y2 z2 : Value} {t : TypeId} (h : wx.heap[B + 1]? = some (.cells #[a, b, c] t (0, 0))) :
    (rbW wx B x1 y1 z1 x2 y2 z2).heap[B + 1]? = some (.cells #[x2, y2, z2] t (0, 0)) := by
  unfold rbW; rw [drew_heap]
  exact three_set (((wx.setCell ⟨B, 0, none⟩ x1).setCell ⟨B, 1, none⟩ y1).setCell ⟨B, 2, none⟩ z1) (B + 1) a b c x2 y2 z2 ((set3_other wx (x := B) (y := B + 1) (by omega) x1 y1 z1).trans h)
theorem rb_below {w wx : World} {B : Nat} {B0 : Nat} (h : Below B0 w wx) (hB : B0 ≤ B) (x1 y1 z1 x2 y2 z2 : Value) : Below B0 w (rbW wx B x1 y1 z1 x2 y2 z2) :=
  below_drewN (below3 (below3 h hB x1 y1 z1) (show B0 ≤ B + 1 by omega) x2 y2 z2) 1
theorem rb_row {wx : World} {B g : Nat} {t : TypeId} {N : Nat} {F : Nat → Value} (h : wx.rowIs g t N F) (h1 : g ≠ B) (h2 : g ≠ B + 1) (x1 y1 z1 x2 y2 z2 : Value) : (rbW wx B x1 y1 z1 x2 y2 z2).rowIs g t N F := by
  refine h.of_block ?_
  unfold rbW; rw [drew_heap]
  exact ((set3_other ((((wx.setCell ⟨B, 0, none⟩ x1).setCell ⟨B, 1, none⟩ y1).setCell ⟨B, 2, none⟩ z1)) (x := B + 1) h2 x2 y2 z2).trans (set3_other wx h1 x1 y1 z1))
/-- two rows of their own, the first ahead of the second -/
def RbRows (a b : G) (B : Nat) (X1 Y1 : Int) (A1 : Option Addr) (n1 c1 : Nat) (X2 Y2 : Int) (A2 : Option Addr) (n2 c2 : Nat) (W : World) : Prop :=
  ∃ g1 N1 F1 g2 N2 F2, (X1 = a.n ∧ Y1 = a.len 0 ∧ A1 = some ⟨g1, 0, none⟩ ∧ n1 = a.n * a.len 0 ∧ n1 ≤ c1 ∧ B ≤ g1 ∧ W.rowIs g1 3 N1 F1 ∧ n1 ≤ N1 ∧ ∀ i, i < n1 → F1 i = .int .i64 (a.flat i)) ∧
      (X2 = b.n ∧ Y2 = b.len 0 ∧ A2 = some ⟨g2, 0, none⟩ ∧ n2 = b.n * b.len 0 ∧ n2 ≤ c2 ∧ g1 < g2 ∧ W.rowIs g2 3 N2 F2 ∧ n2 ≤ N2 ∧ ∀ i, i < n2 → F2 i = .int .i64 (b.flat i))
theorem rb_yes {a b : G} {B : Nat} {X1 Y1 : Int} {A1 : Option Addr} {n1 c1 : Nat} {X2 Y2 : Int} {A2 : Option Addr} {n2 c2 : Nat} {wx : World} (h : RbRows a b (B + 2) X1 Y1 A1 n1 c1 X2 Y2 A2 n2 c2 wx) {x1 y1 z1 x2 y2 z2 : Value} :
    RbRows a b B X1 Y1 A1 n1 c1 X2 Y2 A2 n2 c2 (rbW wx B x1 y1 z1 x2 y2 z2) := by
  obtain ⟨g1, N1, F1, g2, N2, F2, ⟨e1, e2, e3, e4, e5, e6, e7, e8, e9⟩, d1, d2, d3, d4, d5, d6, d7, d8, d9⟩ := h
  exact ⟨g1, N1, F1, g2, N2, F2, ⟨e1, e2, e3, e4, e5, by omega, rb_row e7 (by omega) (by omega) _ _ _ _ _ _, e8, e9⟩, d1, d2, d3, d4, d5, d6, rb_row d7 (by omega) (by omega) _ _ _ _ _ _, d8, d9⟩

/-- the two reliefs of two grids of as many rows, each with heights of its own -/
def RbPost (a b : G) (w : World) (e : Ending) (w' : World) : Prop :=
  ∃ (X1 Y1 : Int) (A1 : Option Addr) (n1 c1 : Nat) (X2 Y2 : Int) (A2 : Option Addr) (n2 c2 : Nat), e = .returned (.tuple #[.agg #[.int .i64 X1, .int .i64 Y1, .slice A1 n1 c1], .agg #[.int .i64 X2, .int .i64 Y2, .slice A2 n2 c2], .bool (rwB a b)]) ∧ Below w.heap.size w w' ∧
    (RwOk a b → RbRows a b w.heap.size X1 Y1 A1 n1 c1 X2 Y2 A2 n2 c2 w')

theorem cells3_of {w w' : World} {b : Nat} {x y z : Value} {t : TypeId} {B : Nat} (h : w.heap[b]? = some (.cells #[x, y, z] t (0, 0))) (hb : Below B w w') (hB : b < B) : w'.heap[b]? = some (.cells #[x, y, z] t (0, 0)) := (hb.block b hB).trans h

end Go.Proofs.YteoncpifjifjlaaDoor
