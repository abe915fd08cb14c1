/- An edition, in the program: FixesValid, FixesDo. -/
import Derived.Test.YtidlloelinmnnaaFj
namespace Go.Proofs.Ytidlloelinmnnaa
open Go.RowKit Go.Shelf
set_option linter.unusedVariables false
set_option linter.unusedSimpArgs false

theorem Try.sizeEd : (Try.prog.info? 72).map (·.size) = some 7 := by kernel_rfl
theorem seven_set (w : World) (b : Nat) (x0 x1 x2 x3 x4 x5 x6 y0 y1 y2 y3 y4 y5 y6 : Value) {t : TypeId} (h : w.heap[b]? = some (.cells #[x0, x1, x2, x3, x4, x5, x6] t (0, 0))) :
    (((((((w.setCell ⟨b, 0, none⟩ y0).setCell ⟨b, 1, none⟩ y1).setCell ⟨b, 2, none⟩ y2).setCell ⟨b, 3, none⟩ y3).setCell ⟨b, 4, none⟩ y4).setCell ⟨b, 5, none⟩ y5).setCell ⟨b, 6, none⟩ y6).heap[b]? = some (.cells #[y0, y1, y2, y3, y4, y5, y6] t (0, 0)) := by
  have h1 := heap_setCell_same w b 0 _ t y0 h
  have h2 := heap_setCell_same _ b 1 _ t y1 h1
  have h3 := heap_setCell_same _ b 2 _ t y2 h2
  have h4 := heap_setCell_same _ b 3 _ t y3 h3
  have h5 := heap_setCell_same _ b 4 _ t y4 h4
  have h6 := heap_setCell_same _ b 5 _ t y5 h5
  have h7 := heap_setCell_same _ b 6 _ t y6 h6
  rw [h7]
  simp
theorem below7 {B : Nat} {a w : World} (h : Below B a w) {x : Nat} (hx : B ≤ x) (y0 y1 y2 y3 y4 y5 y6 : Value) : Below B a (((((((w.setCell ⟨x, 0, none⟩ y0).setCell ⟨x, 1, none⟩ y1).setCell ⟨x, 2, none⟩ y2).setCell ⟨x, 3, none⟩ y3).setCell ⟨x, 4, none⟩ y4).setCell ⟨x, 5, none⟩ y5).setCell ⟨x, 6, none⟩ y6) :=
  ((((((h.setCell (p := ⟨x, 0, none⟩) hx y0).setCell (p := ⟨x, 1, none⟩) hx y1).setCell (p := ⟨x, 2, none⟩) hx y2).setCell (p := ⟨x, 3, none⟩) hx y3).setCell (p := ⟨x, 4, none⟩) hx y4).setCell (p := ⟨x, 5, none⟩) hx y5).setCell (p := ⟨x, 6, none⟩) hx y6
theorem rv_set7 {w : World} {R C n gg cap : Nat} {Z : Nat → Int} (h : Rv w R C n gg cap Z) {x : Nat} (hx : gg ≠ x) {y0 y1 y2 y3 y4 y5 y6 : Value} : Rv (((((((w.setCell ⟨x, 0, none⟩ y0).setCell ⟨x, 1, none⟩ y1).setCell ⟨x, 2, none⟩ y2).setCell ⟨x, 3, none⟩ y3).setCell ⟨x, 4, none⟩ y4).setCell ⟨x, 5, none⟩ y5).setCell ⟨x, 6, none⟩ y6) R C n gg cap Z :=
  ⟨h.n_eq, by simp [World.setCell]; exact h.lt, h.le, fun i hi => by
    have e : ∀ (W : World) (k : Nat) (u : Value), (W.setCell ⟨x, k, none⟩ u).cell? ⟨gg, i, none⟩ = W.cell? ⟨gg, i, none⟩ := fun W k u => World.cell?_setCell_far _ _ _ _ (by show x ≠ gg; omega)
    rw [e, e, e, e, e, e, e]; exact h.cell i hi⟩
theorem cells7 {w : World} {b : Nat} {x0 x1 x2 x3 x4 x5 x6 : Value} {t : TypeId} (h : w.heap[b]? = some (.cells #[x0, x1, x2, x3, x4, x5, x6] t (0, 0))) :
    (w.cell? ⟨b, 0, none⟩ = some x0 ∧ w.cell? ⟨b, 1, none⟩ = some x1 ∧ w.cell? ⟨b, 2, none⟩ = some x2 ∧ w.cell? ⟨b, 3, none⟩ = some x3 ∧ w.cell? ⟨b, 4, none⟩ = some x4 ∧ w.cell? ⟨b, 5, none⟩ = some x5 ∧ w.cell? ⟨b, 6, none⟩ = some x6) ∧
    (w.frozen? ⟨b, 0, none⟩ = false ∧ w.frozen? ⟨b, 1, none⟩ = false ∧ w.frozen? ⟨b, 2, none⟩ = false ∧ w.frozen? ⟨b, 3, none⟩ = false ∧ w.frozen? ⟨b, 4, none⟩ = false ∧ w.frozen? ⟨b, 5, none⟩ = false ∧ w.frozen? ⟨b, 6, none⟩ = false) :=
  ⟨⟨by simp [World.cell?, h], by simp [World.cell?, h], by simp [World.cell?, h], by simp [World.cell?, h], by simp [World.cell?, h], by simp [World.cell?, h], by simp [World.cell?, h]⟩,
   by simp [World.frozen?, h], by simp [World.frozen?, h], by simp [World.frozen?, h], by simp [World.frozen?, h], by simp [World.frozen?, h], by simp [World.frozen?, h], by simp [World.frozen?, h]⟩

def edV (g : G) (n0 g0 c0 n1 g1 c1 : Nat) (L : List Fx) : Value := .agg #[.int .i64 g.n, .int .i64 (g.len 0), .slice (some ⟨g0, 0, none⟩) n0 c0, .int .i64 g.n, .int .i64 (g.len 0), .slice (some ⟨g1, 0, none⟩) n1 c1, ckV L]
def edZ : Value := .agg #[.int .i64 0, .int .i64 0, .slice none 0 0, .int .i64 0, .int .i64 0, .slice none 0 0, .nilIface]
/-- what editionOf leaves -/
def EdP (g : G) (n : Nat) (Z : Nat → Int) (w : World) (e : Ending) (w' : World) : Prop := Below w.heap.size w w' ∧
  ((FxOk g n Z ∧ ∃ n0 g0 c0 n1 g1 c1, e = .returned (.tuple #[edV g n0 g0 c0 n1 g1 c1 (fxF Z 0 n), .bool true]) ∧ Rv w' g.n (g.len 0) n0 g0 c0 g.flat ∧ Rv w' g.n (g.len 0) n1 g1 c1 (edH g n Z)) ∨
   (¬ FxOk g n Z ∧ e = .returned (.tuple #[edZ, .bool false])))

set_option maxRecDepth 20000 in
set_option maxHeartbeats 4000000 in
theorem editionOf_any (v u : Value) (lo hi n : Nat) (g : G) (Z : Nat → Int) (w : World) (hv : RdM lo hi w v g) (hu : RdT lo hi w u n Z) (hh : hi ≤ w.heap.size) (hn : n ≤ 1048576) :
    Calls Try.prog 68 #[v, u] w (EdP g n Z w) := by
  obtain ⟨au, cu, rfl⟩ := hu.shape
  have HN := Lib.hid (heap_alloc_new w (.cells #[.int .i64 0, .int .i64 0, .slice none 0 0, .int .i64 0, .int .i64 0, .slice none 0 0, .nilIface] 72))
  have HB1 := Lib.hid (show Below w.heap.size w (w.alloc (.cells #[.int .i64 0, .int .i64 0, .slice none 0 0, .int .i64 0, .int .i64 0, .slice none 0 0, .nilIface] 72)) from (Below.refl _ _).alloc (Nat.le_refl _) _)
  have hs1 : (w.alloc (.cells #[.int .i64 0, .int .i64 0, .slice none 0 0, .int .i64 0, .int .i64 0, .slice none 0 0, .nilIface] 72)).heap.size = w.heap.size + 1 := by simp
  by_cases hval : g.Valid
  case neg =>
    have HC := Lib.hid (reliefOf_no v lo hi g _ (hv.same (SameIn.below HB1.out hh)) (by omega) hval)
    have HNO := Lib.hid (show ¬ FxOk g n Z from fun h => hval h.1)
    clear hv hu hval
    generalize hW1 : w.alloc (.cells #[.int .i64 0, .int .i64 0, .slice none 0 0, .int .i64 0, .int .i64 0, .slice none 0 0, .nilIface] 72) = W1 at HN HB1 hs1 HC
    go_enter Try.func68, Try.ntmps68
    go_wp2_with fail
    refine HC.out.mono ?_
    rintro e w2 ⟨rfl, hb2⟩
    have HB2 := Lib.hid ((HB1.out.trans (hb2.mono (by omega))).alloc (by have := hb2.size; omega) (.cells #[.int .i64 0, .int .i64 0, .slice none 0 0] 68))
    have HN2 := Lib.hid (((Below.heap_alloc w2 (.cells #[.int .i64 0, .int .i64 0, .slice none 0 0] 68) w.heap.size (by have := hb2.size; omega)).trans (hb2.block _ (by omega))).trans HN.out)
    obtain ⟨⟨q0, q1, q2, q3, q4, q5, q6⟩, f0, f1, f2, f3, f4, f5, f6⟩ := cells7 HN2.out
    have HE := Lib.hid (seven_set _ _ _ _ _ _ _ _ _ (.int .i64 0) (.int .i64 0) (.slice none 0 0) (.int .i64 0) (.int .i64 0) (.slice none 0 0) .nilIface HN2.out)
    have HB3 := Lib.hid (below7 HB2.out (x := w.heap.size) (Nat.le_refl _) (.int .i64 0) (.int .i64 0) (.slice none 0 0) (.int .i64 0) (.int .i64 0) (.slice none 0 0) .nilIface)
    clear hb2 hW1
    go_wp2
    exact bodyPost_ret (results_cell_row_tmp rfl _ _ w.heap.size _ #[.int .i64 0, .int .i64 0, .slice none 0 0, .int .i64 0, .int .i64 0, .slice none 0 0, .nilIface] _ _ rfl HE.out Try.underlying72 rfl Try.sizeEd _ rfl) rfl ⟨HB3.out, Or.inr ⟨HNO.out, rfl⟩⟩
  have HC := Lib.hid (reliefOf_yes v lo hi g _ (hv.same (SameIn.below HB1.out hh)) (by omega) hval)
  have HVL := Lib.hid hval
  have HU := Lib.hid hu
  clear hv hu hval
  generalize hW1 : w.alloc (.cells #[.int .i64 0, .int .i64 0, .slice none 0 0, .int .i64 0, .int .i64 0, .slice none 0 0, .nilIface] 72) = W1 at HN HB1 hs1 HC
  by_cases hn6 : n ≤ 60
  case neg =>
    have HNO := Lib.hid (show ¬ FxOk g n Z from fun h => hn6 h.2.1)
    have hn6' : (60 : Int) < n := by omega
    clear hn6
    go_enter Try.func68, Try.ntmps68
    go_wp2_with fail
    refine HC.out.mono ?_
    intro e w2 hq
    obtain ⟨n0, g0, c0, rfl, hrv, hb2⟩ := hq.rv
    have HB2 := Lib.hid ((HB1.out.trans (hb2.mono (by omega))).alloc (by have := hb2.size; omega) (.cells #[.int .i64 g.n, .int .i64 (g.len 0), .slice (some ⟨g0, 0, none⟩) n0 c0] 68))
    have HN2 := Lib.hid (((Below.heap_alloc w2 (.cells #[.int .i64 g.n, .int .i64 (g.len 0), .slice (some ⟨g0, 0, none⟩) n0 c0] 68) w.heap.size (by have := hb2.size; omega)).trans (hb2.block _ (by omega))).trans HN.out)
    obtain ⟨⟨q0, q1, q2, q3, q4, q5, q6⟩, f0, f1, f2, f3, f4, f5, f6⟩ := cells7 HN2.out
    have HE := Lib.hid (seven_set _ _ _ _ _ _ _ _ _ (.int .i64 0) (.int .i64 0) (.slice none 0 0) (.int .i64 0) (.int .i64 0) (.slice none 0 0) .nilIface HN2.out)
    have HB3 := Lib.hid (below7 HB2.out (x := w.heap.size) (Nat.le_refl _) (.int .i64 0) (.int .i64 0) (.slice none 0 0) (.int .i64 0) (.int .i64 0) (.slice none 0 0) .nilIface)
    clear hb2 hW1 hq hrv
    go_wp2
    exact bodyPost_ret (results_cell_row_tmp rfl _ _ w.heap.size _ #[.int .i64 0, .int .i64 0, .slice none 0 0, .int .i64 0, .int .i64 0, .slice none 0 0, .nilIface] _ _ rfl HE.out Try.underlying72 rfl Try.sizeEd _ rfl) rfl ⟨HB3.out, Or.inr ⟨HNO.out, rfl⟩⟩
  have hn6' : ¬ (60 : Int) < n := by omega
  obtain ⟨vt, eV, hme, hcf⟩ := dn_rest (fxF Z 0 n)
  have HEV := Lib.hid eV
  go_enter Try.func68, Try.ntmps68
  go_wp2_with fail
  refine HC.out.mono ?_
  intro e w2 hq
  obtain ⟨n0, g0, c0, xs0, hn0, rfl, ho0, hv0, hb2⟩ := hq
  have hrv := Rv.of_own ho0 hn0 hv0
  have hge0 : W1.heap.size ≤ g0 := (ho0.lt g0 rfl).1
  have hz2 := hb2.size
  have h49 : n0 ≤ 49 := by rw [hrv.n_eq]; exact mul_le_49 HVL.out.1.2 HVL.out.2.1.2
  have hbB : Below w2.heap.size w2 (w2.alloc (.cells #[.int .i64 g.n, .int .i64 (g.len 0), .slice (some ⟨g0, 0, none⟩) n0 c0] 68)) := (Below.refl _ _).alloc (Nat.le_refl _) _
  have HB2 := Lib.hid ((HB1.out.trans (hb2.mono (by omega))).trans (hbB.mono (by omega)))
  have HN2 := Lib.hid (((hbB.block w.heap.size (by omega)).trans (hb2.block _ (by omega))).trans HN.out)
  have HM2 := Lib.hid (heap_alloc_new w2 (.cells #[.int .i64 g.n, .int .i64 (g.len 0), .slice (some ⟨g0, 0, none⟩) n0 c0] 68))
  have HR2 := Lib.hid (hrv.keep hbB (Nat.le_refl _))
  have hz3 : (w2.alloc (.cells #[.int .i64 g.n, .int .i64 (g.len 0), .slice (some ⟨g0, 0, none⟩) n0 c0] 68)).heap.size = w2.heap.size + 1 := by simp
  have hg0 := hrv.lt
  have HG0 := Lib.hid hg0
  clear hW1 ho0 hn0 hv0 hrv hb2 hbB hg0
  go_wp2_with fail
  generalize w2.alloc (.cells #[.int .i64 g.n, .int .i64 (g.len 0), .slice (some ⟨g0, 0, none⟩) n0 c0] 68) = W3 at HB2 HN2 HM2 HR2 hz3 ⊢
  refine (correctionsOf_any _ lo hi n Z W3 (HU.out.same (SameIn.below HB2.out hh)) (by have := HB2.out.size; omega) (by omega)).mono ?_
  rintro e w4 ⟨rfl, hb4⟩
  have HN4 := Lib.hid ((hb4.block w.heap.size (by omega)).trans HN2.out)
  have hm4 := (hb4.block w2.heap.size (by omega)).trans HM2.out
  have HM4 := Lib.hid hm4
  obtain ⟨m0, m1, m2, _⟩ := cells3 hm4
  have HR4 := Lib.hid (HR2.out.keep hb4 (Nat.le_refl _))
  have HB4 := Lib.hid (HB2.out.trans (hb4.mono (by omega)))
  have hz4 := hb4.size
  have HDN := Lib.hid (doneOn_any g.n (g.len 0) HVL.out.1.2 HVL.out.2.1.2 (fxF Z 0 n) n0 g0 c0 g.flat w4 HR4.out (flat_range HVL.out))
  rw [eV]
  clear hb4 hm4
  go_wp2_with fail
  refine HDN.out.mono ?_
  rintro e w5 ⟨hb5, hcase⟩
  have hz5 := hb5.size
  clear hme hcf m0 m1 m2 HDN
  rcases hcase with ⟨hok, n1, g1, c1, rfl, hrv5, hg1⟩ | ⟨hno, rfl⟩
  · have HYES := Lib.hid (show FxOk g n Z from ⟨HVL.out, hn6, hok⟩)
    have hbB : Below w5.heap.size w5 (w5.alloc (.cells #[.int .i64 g.n, .int .i64 (g.len 0), .slice (some ⟨g1, 0, none⟩) n1 c1] 68)) := (Below.refl _ _).alloc (Nat.le_refl _) _
    have HB6 := Lib.hid ((HB4.out.trans (hb5.mono (by omega))).trans (hbB.mono (by omega)))
    have hN6 := ((hbB.block w.heap.size (by omega)).trans (hb5.block _ (by omega))).trans HN4.out
    have hM6 := ((hbB.block w2.heap.size (by omega)).trans (hb5.block _ (by omega))).trans HM4.out
    have hP6 := heap_alloc_new w5 (.cells #[.int .i64 g.n, .int .i64 (g.len 0), .slice (some ⟨g1, 0, none⟩) n1 c1] 68)
    have HR6 := Lib.hid ((HR4.out.keep (hb5.trans (hbB.mono (by omega))) (Nat.le_refl _)))
    have HS6 := Lib.hid (hrv5.keep hbB (Nat.le_refl _))
    obtain ⟨⟨q0, q1, q2, q3, q4, q5, q6⟩, f0, f1, f2, f3, f4, f5, f6⟩ := cells7 hN6
    obtain ⟨m0, m1, m2, _⟩ := cells3 hM6
    obtain ⟨p0, p1, p2, _⟩ := cells3 hP6
    have HE := Lib.hid (seven_set _ _ _ _ _ _ _ _ _ (.int .i64 g.n) (.int .i64 (g.len 0)) (.slice (some ⟨g0, 0, none⟩) n0 c0) (.int .i64 g.n) (.int .i64 (g.len 0)) (.slice (some ⟨g1, 0, none⟩) n1 c1) (.iface vt (dnR (fxF Z 0 n))) hN6)
    have HB7 := Lib.hid (below7 HB6.out (x := w.heap.size) (Nat.le_refl _) (.int .i64 g.n) (.int .i64 (g.len 0)) (.slice (some ⟨g0, 0, none⟩) n0 c0) (.int .i64 g.n) (.int .i64 (g.len 0)) (.slice (some ⟨g1, 0, none⟩) n1 c1) (.iface vt (dnR (fxF Z 0 n))))
    have hgn0 : g0 ≠ w.heap.size := by omega
    have hgn1 : g1 ≠ w.heap.size := by rcases hg1 with h | h <;> omega
    clear hb5 hok hrv5 hg1 hbB hN6 hM6 hP6 HN4 HM4 HR4
    go_wp2
    exact bodyPost_ret (results_cell_row_tmp rfl _ _ w.heap.size _ #[.int .i64 g.n, .int .i64 (g.len 0), .slice (some ⟨g0, 0, none⟩) n0 c0, .int .i64 g.n, .int .i64 (g.len 0), .slice (some ⟨g1, 0, none⟩) n1 c1, .iface vt (dnR (fxF Z 0 n))] _ _ rfl HE.out Try.underlying72 rfl Try.sizeEd _ rfl) rfl ⟨HB7.out, Or.inl ⟨HYES.out, n0, g0, c0, n1, g1, c1, by rw [edV, HEV.out]; rfl, rv_set7 HR6.out hgn0, rv_set7 HS6.out hgn1⟩⟩
  · have HNO := Lib.hid (show ¬ FxOk g n Z from fun h => hno h.2.2)
    have hbB : Below w5.heap.size w5 (w5.alloc (.cells #[.int .i64 0, .int .i64 0, .slice none 0 0] 68)) := (Below.refl _ _).alloc (Nat.le_refl _) _
    have HB6 := Lib.hid ((HB4.out.trans (hb5.mono (by omega))).trans (hbB.mono (by omega)))
    have hN6 := ((hbB.block w.heap.size (by omega)).trans (hb5.block _ (by omega))).trans HN4.out
    obtain ⟨⟨q0, q1, q2, q3, q4, q5, q6⟩, f0, f1, f2, f3, f4, f5, f6⟩ := cells7 hN6
    have HE := Lib.hid (seven_set _ _ _ _ _ _ _ _ _ (.int .i64 0) (.int .i64 0) (.slice none 0 0) (.int .i64 0) (.int .i64 0) (.slice none 0 0) .nilIface hN6)
    have HB7 := Lib.hid (below7 HB6.out (x := w.heap.size) (Nat.le_refl _) (.int .i64 0) (.int .i64 0) (.slice none 0 0) (.int .i64 0) (.int .i64 0) (.slice none 0 0) .nilIface)
    clear hb5 hno hbB hN6 HN4 HM4 HR4
    go_wp2
    exact bodyPost_ret (results_cell_row_tmp rfl _ _ w.heap.size _ #[.int .i64 0, .int .i64 0, .slice none 0 0, .int .i64 0, .int .i64 0, .slice none 0 0, .nilIface] _ _ rfl HE.out Try.underlying72 rfl Try.sizeEd _ rfl) rfl ⟨HB7.out, Or.inr ⟨HNO.out, rfl⟩⟩

set_option maxRecDepth 20000 in
set_option maxHeartbeats 4000000 in
theorem implFixesValid_any (v u : Value) (lo hi n : Nat) (g : G) (Z : Nat → Int) (w : World) (hv : RdM lo hi w v g) (hu : RdT lo hi w u n Z) (hh : hi ≤ w.heap.size) (hn : n ≤ 1048576) :
    Calls Try.prog 36 #[v, u] w (BlPost (fxB g n Z) w) := by
  have HE := Lib.hid (editionOf_any v u lo hi n g Z w hv hu hh hn)
  clear hv hu
  go_enter Try.func36, Try.ntmps36
  go_wp2_with fail
  refine HE.out.mono ?_
  rintro e w2 ⟨hb2, hcase⟩
  rcases hcase with ⟨hok, n0, g0, c0, n1, g1, c1, rfl, _, _⟩ | ⟨hno, rfl⟩
  · have HY := Lib.hid (fxB_yes hok)
    obtain ⟨vt, eV, _⟩ := dn_rest (fxF Z 0 n)
    simp only [edV, eV]
    clear hok eV
    go_wp2
    go_ret
    exact ⟨by rw [HY.out]; rfl, hb2.alloc hb2.size _⟩
  · have HY := Lib.hid (fxB_no hno)
    simp only [edZ]
    clear hno
    go_wp2
    go_ret
    exact ⟨by rw [HY.out]; rfl, hb2.alloc hb2.size _⟩

set_option maxRecDepth 20000 in
set_option maxHeartbeats 4000000 in
theorem implFixesDo_any (v u : Value) (lo hi n : Nat) (g : G) (Z : Nat → Int) (w : World) (hv : RdM lo hi w v g) (hu : RdT lo hi w u n Z) (hh : hi ≤ w.heap.size) (hn : n ≤ 1048576) :
    Calls Try.prog 38 #[v, u] w (GPost (fxB g n Z) (exG g n Z) w) := by
  have HE := Lib.hid (editionOf_any v u lo hi n g Z w hv hu hh hn)
  clear hv hu
  go_enter Try.func38, Try.ntmps38
  go_wp2_with fail
  refine HE.out.mono ?_
  rintro e w2 ⟨hb2, hcase⟩
  rcases hcase with ⟨hok, n0, g0, c0, n1, g1, c1, rfl, hr0, hr1⟩ | ⟨hno, rfl⟩
  · have HY := Lib.hid (fxB_yes hok)
    have HX := Lib.hid (exG_yes hok)
    obtain ⟨vt, eV, _⟩ := dn_rest (fxF Z 0 n)
    have hbB : Below w2.heap.size w2 (w2.alloc (.cells #[.int .i64 g.n, .int .i64 (g.len 0), .slice (some ⟨g0, 0, none⟩) n0 c0, .int .i64 g.n, .int .i64 (g.len 0), .slice (some ⟨g1, 0, none⟩) n1 c1, .iface vt (dnR (fxF Z 0 n))] 72)) := (Below.refl _ _).alloc (Nat.le_refl _) _
    have HB3 := Lib.hid (hb2.trans (hbB.mono hb2.size))
    have HG := Lib.hid (grid_yes g.n (g.len 0) n1 g1 c1 (edH g n Z) _ (hr1.keep hbB (Nat.le_refl _)) ⟨hok.1.1, hok.1.2.1, fun i hi => edH_range hok i (by rw [← hr1.n_eq]; exact hi)⟩)
    have HQ := Lib.hid (show G.Eqv (gridOf g.n (g.len 0) (edH g n Z)) (edK g (edH g n Z)) from ⟨rfl, fun r hr => ⟨(hok.1.2.2 r hr).1.symm, fun c hc => rfl⟩⟩)
    simp only [edV, eV]
    clear hok hr0 hr1 hbB hb2 eV
    go_wp2_with fail
    refine HG.out.mono ?_
    rintro e w3 ⟨v3, rfl, ⟨a, l, c, rfl⟩, ho, hb4⟩
    have HP : Hid (GPost (fxB g n Z) (exG g n Z) w (.returned (.tuple #[.slice a l c, .bool true])) w3) := by rw [HY.out, HX.out]; exact GPost.up ⟨_, rfl, ⟨_, _, _, rfl⟩, ho, hb4⟩ HB3.out HQ.out
    clear ho hb4
    go_wp2
    go_ret2
    exact HP.out
  · have HY := Lib.hid (fxB_no hno)
    have HX := Lib.hid (exG_no hno)
    have HB3 := Lib.hid (hb2.alloc hb2.size (.cells #[.int .i64 0, .int .i64 0, .slice none 0 0, .int .i64 0, .int .i64 0, .slice none 0 0, .nilIface] 72))
    simp only [edZ]
    clear hno hb2
    go_wp2
    go_ret2
    refine ⟨.slice none 0 0, ?_, ⟨_, _, _, rfl⟩, ?_, HB3.out⟩
    · rw [HY.out]; rfl
    · rw [HX.out]; exact OwM.none _ _ _

end Go.Proofs.Ytidlloelinmnnaa
