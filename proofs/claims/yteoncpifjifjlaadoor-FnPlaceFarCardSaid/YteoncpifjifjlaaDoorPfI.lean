/- PlaceFar of the program. -/
import Derived.Test.YteoncpifjifjlaaDoorPf
import Derived.RegionTactic
import Derived.BigRegion
namespace Go.Proofs.YteoncpifjifjlaaDoor
open Go.RowKit
set_option linter.unusedVariables false

/-- two places and whether both are there -/
def PsPost (ax ay bx by' : Int) (w : World) (e : Ending) (w' : World) : Prop :=
  e = .returned (.tuple #[.agg #[.int .i64 ax, .int .i64 ay], .agg #[.int .i64 bx, .int .i64 by'], .bool (plB ax ay && plB bx by')]) ∧ Below w.heap.size w w'

/-- four stores into two boxes beside each other -/
def psW (wx : World) (B : Nat) (x1 y1 x2 y2 : Value) : World := (((wx.setCell ⟨B, 0, none⟩ x1).setCell ⟨B, 1, none⟩ y1).setCell ⟨B + 1, 0, none⟩ x2).setCell ⟨B + 1, 1, none⟩ y2
theorem two_set (w : World) (b : Nat) (x y x' y' : Value) {t : TypeId} (h : w.heap[b]? = some (.cells #[x, y] t (0, 0))) :
    ((w.setCell ⟨b, 0, none⟩ x').setCell ⟨b, 1, none⟩ y').heap[b]? = some (.cells #[x', y'] t (0, 0)) := by
  have h1 := heap_setCell_same w b 0 #[x, y] t x' h
  have h2 := heap_setCell_same _ b 1 _ t y' h1
  rw [h2]
  simp
theorem cell2_far {w : World} {x y o : Nat} (a b : Value) (i j : Nat) (h : y ≠ x) : ((w.setCell ⟨x, i, none⟩ a).setCell ⟨x, j, none⟩ b).cell? ⟨y, o, none⟩ = w.cell? ⟨y, o, none⟩ := by
  refine World.cell?_of_block (a := ⟨y, o, none⟩) ?_
  rw [Below.heap_setCell _ _ _ _ h, Below.heap_setCell _ _ _ _ h]
theorem ps_one {wx : World} {B : Nat} {a b x1 y1 x2 y2 : Value} {t : TypeId} (h : wx.heap[B]? = some (.cells #[a, b] t (0, 0))) : (psW wx B x1 y1 x2 y2).heap[B]? = some (.cells #[x1, y1] t (0, 0)) := by
  unfold psW
  rw [Below.heap_setCell _ _ _ _ (by show B ≠ B + 1; omega), Below.heap_setCell _ _ _ _ (by show B ≠ B + 1; omega)]
  exact two_set wx B a b x1 y1 h
theorem ps_two {wx : World} {B : Nat} {a b x1 y1 x2 y2 : Value} {t : TypeId} (h : wx.heap[B + 1]? = some (.cells #[a, b] t (0, 0))) : (psW wx B x1 y1 x2 y2).heap[B + 1]? = some (.cells #[x2, y2] t (0, 0)) := by
  unfold psW
  refine two_set _ (B + 1) a b x2 y2 ?_
  rw [Below.heap_setCell _ _ _ _ (by show B + 1 ≠ B; omega), Below.heap_setCell _ _ _ _ (by show B + 1 ≠ B; omega)]
  exact h
theorem ps_below {w wx : World} {B B0 : Nat} (h : Below B0 w wx) (hB : B0 ≤ B) (x1 y1 x2 y2 : Value) : Below B0 w (psW wx B x1 y1 x2 y2) :=
  (((h.setCell (p := ⟨B, 0, none⟩) hB x1).setCell (p := ⟨B, 1, none⟩) hB y1).setCell (p := ⟨B + 1, 0, none⟩) (show B0 ≤ B + 1 by omega) x2).setCell (p := ⟨B + 1, 1, none⟩) (show B0 ≤ B + 1 by omega) y2

set_option maxHeartbeats 4000000 in
set_option maxRecDepth 20000 in
theorem placesOf_any (ax ay bx by' : Int) (w : World) : Calls Tryd.prog 65 #[.int .i64 ax, .int .i64 ay, .int .i64 bx, .int .i64 by'] w (PsPost ax ay bx by' w) := by
  have HA := Lib.hid (fun W : World => placeValid_any ax ay W)
  have HB := Lib.hid (fun W : World => placeValid_any bx by' W)
  obtain ⟨W0, hW0⟩ : ∃ W0, W0 = (((w.alloc (.cells #[.int .i64 0, .int .i64 0] 81)).alloc (.cells #[.int .i64 0, .int .i64 0] 81)).alloc (.cells #[.int .i64 ax, .int .i64 ay] 81)).alloc (.cells #[.int .i64 bx, .int .i64 by'] 81) := ⟨_, rfl⟩
  have hs0 : W0.heap.size = w.heap.size + 4 := by rw [hW0]; simp
  have hb0 : Below w.heap.size w W0 := by rw [hW0]; exact ((((Below.refl _ _).alloc (Nat.le_refl _) _).alloc (by simp) _).alloc (by simp; omega) _).alloc (by simp; omega) _
  have e1 : W0.heap[w.heap.size]? = some (.cells #[.int .i64 0, .int .i64 0] 81 (0, 0)) := by
    rw [hW0, Below.heap_alloc _ _ _ (by simp; omega), Below.heap_alloc _ _ _ (by simp; omega)]; exact heap_alloc2_old _ _ _
  have e2 : W0.heap[w.heap.size + 1]? = some (.cells #[.int .i64 0, .int .i64 0] 81 (0, 0)) := by
    rw [hW0, Below.heap_alloc _ _ _ (by simp), Below.heap_alloc _ _ _ (by simp)]; exact heap_alloc2_new _ _ _
  have e3 : W0.heap[w.heap.size + 1 + 1]? = some (.cells #[.int .i64 ax, .int .i64 ay] 81 (0, 0)) := by
    rw [hW0, Below.heap_alloc _ _ _ (by simp)]
    have := heap_alloc_new ((w.alloc (.cells #[.int .i64 0, .int .i64 0] 81)).alloc (.cells #[.int .i64 0, .int .i64 0] 81)) (.cells #[.int .i64 ax, .int .i64 ay] 81)
    simpa using this
  have e4 : W0.heap[w.heap.size + 1 + 1 + 1]? = some (.cells #[.int .i64 bx, .int .i64 by'] 81 (0, 0)) := by
    rw [hW0]
    have := heap_alloc_new (((w.alloc (.cells #[.int .i64 0, .int .i64 0] 81)).alloc (.cells #[.int .i64 0, .int .i64 0] 81)).alloc (.cells #[.int .i64 ax, .int .i64 ay] 81)) (.cells #[.int .i64 bx, .int .i64 by'] 81)
    simpa using this
  have HE := Lib.hid (show (∀ W : World, Below W0.heap.size W0 W → (W.cell? ⟨w.heap.size + 1 + 1, 0, none⟩ = some (.int .i64 ax) ∧ W.cell? ⟨w.heap.size + 1 + 1, 1, none⟩ = some (.int .i64 ay) ∧ W.cell? ⟨w.heap.size + 1 + 1 + 1, 0, none⟩ = some (.int .i64 bx) ∧ W.cell? ⟨w.heap.size + 1 + 1 + 1, 1, none⟩ = some (.int .i64 by')) ∧ W.heap[w.heap.size]? = some (.cells #[.int .i64 0, .int .i64 0] 81 (0, 0)) ∧ W.heap[w.heap.size + 1]? = some (.cells #[.int .i64 0, .int .i64 0] 81 (0, 0))) from fun W hW => by
    obtain ⟨x0, x1, _, _⟩ := cellsPl ((hW.block _ (by omega)).trans e3)
    obtain ⟨y0, y1, _, _⟩ := cellsPl ((hW.block _ (by omega)).trans e4)
    exact ⟨⟨x0, x1, y0, y1⟩, (hW.block _ (by omega)).trans e1, (hW.block _ (by omega)).trans e2⟩)
  have HW0 := Lib.hid hW0
  have HB0 := Lib.hid hb0
  obtain ⟨⟨x0, x1, y0, y1⟩, _, _⟩ := HE.out W0 (Below.refl _ _)
  clear hW0 hb0 e1 e2 e3 e4
  by_cases hp : PlOk ax ay
  case pos =>
    have HP := Lib.hid (plB_yes hp)
    clear hp
    go_enter Tryd.func65, Tryd.ntmps65
    go_wp2_with fail
    rw [← HW0.out]
    clear HW0
    go_region_held3 (fun w' => w'.cell? ⟨w.heap.size + 1 + 1, 0, none⟩ = some (.int .i64 ax) ∧ w'.cell? ⟨w.heap.size + 1 + 1, 1, none⟩ = some (.int .i64 ay) ∧ w'.cell? ⟨w.heap.size + 1 + 1 + 1, 0, none⟩ = some (.int .i64 bx) ∧ w'.cell? ⟨w.heap.size + 1 + 1 + 1, 1, none⟩ = some (.int .i64 by'))
      (first | exact s2.out | exact s1.out | go_keep | exact ⟨(cell2_far _ _ _ _ (by omega)).trans s2.out.1, (cell2_far _ _ _ _ (by omega)).trans s2.out.2.1, (cell2_far _ _ _ _ (by omega)).trans s2.out.2.2.1, (cell2_far _ _ _ _ (by omega)).trans s2.out.2.2.2⟩ | exact ⟨(cell2_far _ _ _ _ (by omega)).trans ((cell2_far _ _ _ _ (by omega)).trans s2.out.1), (cell2_far _ _ _ _ (by omega)).trans ((cell2_far _ _ _ _ (by omega)).trans s2.out.2.1), (cell2_far _ _ _ _ (by omega)).trans ((cell2_far _ _ _ _ (by omega)).trans s2.out.2.2.1), (cell2_far _ _ _ _ (by omega)).trans ((cell2_far _ _ _ _ (by omega)).trans s2.out.2.2.2)⟩)
      (first
        | (go_at_call 82; have hs1 := s1.out; (with_reducible refine (HB.out _).mono ?_); rintro e w3 ⟨rfl, hb3⟩; have X2 := Lib.hid (X1.out.trans (hb3.mono X1.out.size)); have s2 := Lib.hid (HE.out w3 X2.out).1; obtain ⟨_, hh1, hh2⟩ := HE.out w3 X2.out; obtain ⟨_, _, f1, f2⟩ := cellsPl hh1; obtain ⟨_, _, f3, f4⟩ := cellsPl hh2; have HH1 := Lib.hid hh1; have HH2 := Lib.hid hh2; clear hb3 hs1 hh1 hh2)
        | (go_at_call 82; (with_reducible refine (HA.out _).mono ?_); rintro e w2 ⟨rfl, hb2⟩; rw [HP.out]; have X1 := Lib.hid (show Below W0.heap.size W0 w2 from hb2.undrew); have s1 := Lib.hid (HE.out w2 X1.out).1; clear hb2))
    all_goals go_wp2
    all_goals exact bodyPost_ret (results_cell2_tmp rfl _ _ w.heap.size (w.heap.size + 1) _ _ #[.int .i64 ax, .int .i64 ay] #[.int .i64 bx, .int .i64 by'] _ _ _ rfl (ps_one HH1.out) rfl (ps_two HH2.out) Tryd.underlying81 rfl Tryd.sizePl Tryd.sizePl _ rfl) rfl ⟨by rw [HP.out]; rfl, ps_below (HB0.out.trans (X2.out.mono (by omega))) (Nat.le_refl _) _ _ _ _⟩
  case neg =>
    have HP := Lib.hid (plB_no hp)
    clear hp
    go_enter Tryd.func65, Tryd.ntmps65
    go_wp2_with fail
    rw [← HW0.out]
    clear HW0
    go_region_with ((go_at_call 82; (with_reducible refine (HA.out _).mono ?_); rintro e w2 ⟨rfl, hb2⟩; rw [HP.out]; have X1 := Lib.hid (show Below W0.heap.size W0 w2 from hb2.undrew); have s1 := (HE.out w2 X1.out).1; obtain ⟨v0, v1, v2, v3⟩ := s1; obtain ⟨_, hh1, hh2⟩ := HE.out w2 X1.out; obtain ⟨_, _, f1, f2⟩ := cellsPl hh1; obtain ⟨_, _, f3, f4⟩ := cellsPl hh2; have HH1 := Lib.hid hh1; have HH2 := Lib.hid hh2; clear hb2 hh1 hh2))
    all_goals go_wp2
    all_goals exact bodyPost_ret (results_cell2_tmp rfl _ _ w.heap.size (w.heap.size + 1) _ _ #[.int .i64 ax, .int .i64 ay] #[.int .i64 bx, .int .i64 by'] _ _ _ rfl (ps_one HH1.out) rfl (ps_two HH2.out) Tryd.underlying81 rfl Tryd.sizePl Tryd.sizePl _ rfl) rfl ⟨by rw [HP.out]; rfl, ps_below (HB0.out.trans (X1.out.mono (by omega))) (Nat.le_refl _) _ _ _ _⟩

end Go.Proofs.YteoncpifjifjlaaDoor
