/- The draw of a label and a side. -/
import Derived.Test.YtiilbpkdkbakkaaLq
import Derived.Test.YtiilbpkdkbakkaaDrawA
import Derived.RegionTactic
namespace Go.Proofs.Ytiilbpkdkbakkaa
open Go.RowKit
set_option linter.unusedVariables false

theorem four_set (w : World) (b : Nat) (x y z u x' y' z' u' : Value) {t : TypeId} (h : w.heap[b]? = some (.cells #[x, y, z, u] t (0, 0))) :
    ((((w.setCell ⟨b, 0, none⟩ x').setCell ⟨b, 1, none⟩ y').setCell ⟨b, 2, none⟩ z').setCell ⟨b, 3, none⟩ u').heap[b]? = some (.cells #[x', y', z', u'] t (0, 0)) := by
  have h1 := heap_setCell_same w b 0 #[x, y, z, u] t x' h
  have h2 := heap_setCell_same _ b 1 _ t y' h1
  have h3 := heap_setCell_same _ b 2 _ t z' h2
  have h4 := heap_setCell_same _ b 3 _ t u' h3
  rw [h4]
  simp
theorem frozLb {w : World} {b : Nat} {x y z u : Value} {t : TypeId} (h : w.heap[b]? = some (.cells #[x, y, z, u] t (0, 0))) :
    w.frozen? ⟨b, 0, none⟩ = false ∧ w.frozen? ⟨b, 1, none⟩ = false ∧ w.frozen? ⟨b, 2, none⟩ = false ∧ w.frozen? ⟨b, 3, none⟩ = false :=
  ⟨by simp [World.frozen?, h], by simp [World.frozen?, h], by simp [World.frozen?, h], by simp [World.frozen?, h]⟩

/-- what is drawn: a label, seldom another one, and a side, seldom another number -/
def DlPost (w : World) (e : Ending) (w' : World) : Prop :=
  ∃ x y a g s : Int, e = .returned (.tuple #[.agg #[.int .i64 x, .int .i64 y, .int .i64 a, .int .i64 g], .int .i64 s]) ∧ ((0 ≤ x ∧ x ≤ 9) ∧ (0 ≤ y ∧ y ≤ 9) ∧ (1 ≤ a ∧ a ≤ 5) ∧ (0 ≤ g ∧ g ≤ 10) ∧ (-1 ≤ s ∧ s ≤ 4)) ∧ Below w.heap.size w w'

theorem chg_blk {lo hi : Nat} {a b : World} (h : Chg lo hi a b) {k : Nat} (hk : k < a.heap.size) (hn : k < lo ∨ hi ≤ k) : b.heap[k]? = a.heap[k]? := h.block k hk (by omega)

theorem cell4_far {w : World} {x y o : Nat} (a b c d : Value) (h : y ≠ x) : ((((w.setCell ⟨x, 0, none⟩ a).setCell ⟨x, 1, none⟩ b).setCell ⟨x, 2, none⟩ c).setCell ⟨x, 3, none⟩ d).cell? ⟨y, o, none⟩ = w.cell? ⟨y, o, none⟩ := by
  have hb : ((((w.setCell ⟨x, 0, none⟩ a).setCell ⟨x, 1, none⟩ b).setCell ⟨x, 2, none⟩ c).setCell ⟨x, 3, none⟩ d).heap[y]? = w.heap[y]? := (Below.heap_setCell _ _ _ _ h).trans ((Below.heap_setCell _ _ _ _ h).trans ((Below.heap_setCell _ _ _ _ h).trans (Below.heap_setCell _ _ _ _ h)))
  exact World.cell?_of_block (a := ⟨y, o, none⟩) hb

set_option maxHeartbeats 16000000 in
set_option maxRecDepth 100000 in
theorem draw_DrawLabelPlaces (v : Value) (n hi : Nat) (w : World) (hv : RdB hi w v n) (hh : hi ≤ w.heap.size) :
    Calls Try.prog 4 #[v] w (DlPost w) := by
  obtain ⟨W0, hW0⟩ : ∃ W0, w.alloc (.cells #[.int .i64 0, .int .i64 0, .int .i64 0, .int .i64 0] 24) = W0 := ⟨_, rfl⟩
  have hb0 : Below w.heap.size w W0 := by rw [← hW0]; exact (Below.refl _ _).alloc (Nat.le_refl _) _
  have hx0 : W0.heap[w.heap.size]? = some (.cells #[.int .i64 0, .int .i64 0, .int .i64 0, .int .i64 0] 24 (0, 0)) := by rw [← hW0]; exact heap_alloc_new w _
  have hs0 : W0.heap.size = w.heap.size + 1 := by rw [← hW0]; simp
  have hv0 : RdB hi W0 v n := by
    obtain ⟨ao, cap, cb, off, Z, h1, h2, h3, h4, h5⟩ := hv
    exact ⟨ao, cap, cb, off, Z, h1, h2, h3, h4, fun i hi' => ⟨(hb0.cell (p := ⟨cb, off + i, none⟩) (by have := (h4 (by omega)).2; show cb < _; omega)).trans (h5 i hi').1, (h5 i hi').2⟩⟩
  have HO := Lib.hid (open_any v n hi W0 hv0 (by omega))
  have HB0 := Lib.hid hb0
  have HX0 := Lib.hid hx0
  obtain ⟨ao, cap, cb, off, Z, rfl, _⟩ := hv
  obtain ⟨B, eB⟩ : ∃ B, W0.heap.size = B := ⟨_, rfl⟩
  have hBw : B = w.heap.size + 1 := by omega
  have EB := Lib.hid eB
  have HBw := Lib.hid hBw
  clear hb0 hx0 hv0 eB hBw
  go_enter Try.func4, Try.ntmps4
  go_wp2_with fail
  try rw [hW0]
  refine HO.out.mono ?_
  rintro e w1 ⟨rfl, hr, hb, hs⟩
  rw [EB.out] at hr hb hs
  try rw [EB.out]
  have HB1 := Lib.hid (HB0.out.trans (hb.mono (by have := HBw.out; omega)))
  have HX1 := Lib.hid ((hb.block w.heap.size (by have := HBw.out; omega)).trans HX0.out)
  have HR1 := Lib.hid hr
  clear hb hr hW0
  go_wp2_with fail
  refine (pick_any B 0 10 w1 HR1.out (by have := HBw.out; omega) (by have := HBw.out; omega) (by have := HBw.out; omega)).mono ?_
  rintro e w2 ⟨x, hx, rfl, hr2, hc2, hz2⟩
  have HR2 := Lib.hid hr2
  have HX2 := Lib.hid ((chg_blk hc2 (lt_of_block HX1.out) (by have := HBw.out; omega)).trans HX1.out)
  have HB2 := Lib.hid (HB1.out.trans (hc2.below (by have := HBw.out; omega) (by have := HBw.out; omega)))
  clear hr2 hc2
  go_wp2_with fail
  refine (pick_any B 1 10 w2 HR2.out (by have := HBw.out; omega) (by have := HBw.out; omega) (by have := HBw.out; omega)).mono ?_
  rintro e w3 ⟨y, hy, rfl, hr3, hc3, hz3⟩
  have HR3 := Lib.hid hr3
  have HX3 := Lib.hid ((chg_blk hc3 (lt_of_block HX2.out) (by have := HBw.out; omega)).trans HX2.out)
  have HB3 := Lib.hid (HB2.out.trans (hc3.below (by have := HBw.out; omega) (by have := HBw.out; omega)))
  clear hr3 hc3
  go_wp2_with fail
  refine (pick_any B 2 5 w3 HR3.out (by have := HBw.out; omega) (by have := HBw.out; omega) (by have := HBw.out; omega)).mono ?_
  rintro e w4 ⟨a, ha, rfl, hr4, hc4, hz4⟩
  have HR4 := Lib.hid hr4
  have HX4 := Lib.hid ((chg_blk hc4 (lt_of_block HX3.out) (by have := HBw.out; omega)).trans HX3.out)
  have HB4 := Lib.hid (HB3.out.trans (hc4.below (by have := HBw.out; omega) (by have := HBw.out; omega)))
  clear hr4 hc4
  go_wp2_with fail
  refine (pick_any B 3 9 w4 HR4.out (by have := HBw.out; omega) (by have := HBw.out; omega) (by have := HBw.out; omega)).mono ?_
  rintro e w5 ⟨g, hg, rfl, hr5, hc5, hz5⟩
  obtain ⟨W5, hW5⟩ : ∃ W5, w5.alloc (.cells #[.int .i64 x, .int .i64 y, .int .i64 (1 + (a : Int)), .int .i64 (1 + (g : Int))] 24) = W5 := ⟨_, rfl⟩
  have HX5 := Lib.hid (show W5.heap[w.heap.size]? = some (.cells #[.int .i64 0, .int .i64 0, .int .i64 0, .int .i64 0] 24 (0, 0)) from by rw [← hW5]; exact (Below.heap_alloc w5 _ _ (by have := lt_of_block HX4.out; omega)).trans ((chg_blk hc5 (lt_of_block HX4.out) (by have := HBw.out; omega)).trans HX4.out))
  have HB5 := Lib.hid (show Below w.heap.size w W5 from by rw [← hW5]; have h := HB4.out.trans (hc5.below (by have := HBw.out; omega) (by have := HBw.out; omega)); exact h.alloc h.size _)
  have HR5 := Lib.hid (show Rdr W5 B 4 from by rw [← hW5]; exact hr5.keep ((Below.refl w5.heap.size w5).alloc (Nat.le_refl _) _) (by have := HBw.out; omega))
  have HL5 := Lib.hid (show W5.heap[w5.heap.size]? = some (.cells #[.int .i64 x, .int .i64 y, .int .i64 (1 + (a : Int)), .int .i64 (1 + (g : Int))] 24 (0, 0)) from by rw [← hW5]; exact heap_alloc_new w5 _)
  have hs5 : W5.heap.size = w5.heap.size + 1 := by rw [← hW5]; simp
  clear hr5 hc5
  go_wp2_with fail
  try rw [hW5]
  refine (pick_any B 4 16 W5 HR5.out (by have := HBw.out; omega) (by have := HBw.out; omega) (by have := HBw.out; omega)).mono ?_
  rintro e w6 ⟨q, hq, rfl, hr6, hc6, hz6⟩
  have HR6 := Lib.hid hr6
  have HX6 := Lib.hid ((chg_blk hc6 (lt_of_block HX5.out) (by have := HBw.out; omega)).trans HX5.out)
  have HL6 := Lib.hid ((chg_blk hc6 (lt_of_block HL5.out) (by have := HBw.out; omega)).trans HL5.out)
  have HB6 := Lib.hid (HB5.out.trans (hc6.below (by have := HBw.out; omega) (by have := HBw.out; omega)))
  have eL : w5.heap.size = B + 1 := by omega
  rw [eL] at HL6
  clear hr6 hc6 hW5
  by_cases hq0 : q = 0
  · subst hq0
    have h7x := lt_of_block HX6.out
    have h7l := lt_of_block HL6.out
    have hs6 : w6.heap.size = B + 2 := by omega
    have HX7 := Lib.hid ((Below.heap_alloc w6 (.cells #[.int .i64 0, .int .i64 10] 3) _ h7x).trans HX6.out)
    have HL7 := Lib.hid ((Below.heap_alloc w6 (.cells #[.int .i64 0, .int .i64 10] 3) _ h7l).trans HL6.out)
    have HN7 := Lib.hid (heap_alloc_new w6 (.cells #[.int .i64 0, .int .i64 10] 3))
    have HB7 := Lib.hid (HB6.out.alloc HB6.out.size (.cells #[.int .i64 0, .int .i64 10] 3))
    have HR7 := Lib.hid (HR6.out.keep ((Below.refl w6.heap.size w6).alloc (Nat.le_refl _) (.cells #[.int .i64 0, .int .i64 10] 3)) (by omega))
    go_wp2_with fail
    refine (pick_any B 5 2 _ HR7.out (by omega) (by omega) (by omega)).mono ?_
    rintro e w8 ⟨z, hz, rfl, hr8, hc8, hz8⟩
    have HR8 := Lib.hid hr8
    have HX8 := Lib.hid ((chg_blk hc8 (lt_of_block HX7.out) (by have := HBw.out; omega)).trans HX7.out)
    have HL8 := Lib.hid ((chg_blk hc8 (lt_of_block HL7.out) (by omega)).trans HL7.out)
    have HN8 := Lib.hid ((chg_blk hc8 (lt_of_block HN7.out) (by omega)).trans HN7.out)
    have HB8 := Lib.hid (HB7.out.trans (hc8.below (by have := HBw.out; omega) (by have := HB7.out.size; omega)))
    have n8 := HN8.out
    rw [hs6] at n8
    obtain ⟨g0, g1, g2, g3⟩ := cellsLb HL8.out
    obtain ⟨k0, k1, k2, k3⟩ := frozLb HL8.out
    have d0 : w8.cell? ⟨B + 2, 0, none⟩ = some (.int .i64 0) := by simp [World.cell?, n8]
    have d1 : w8.cell? ⟨B + 2, 1, none⟩ = some (.int .i64 10) := by simp [World.cell?, n8]
    have n8 : True := trivial
    clear hr8 hc8
    rcases (by omega : z = 0 ∨ z = 1) with rfl | rfl
    · skip
      obtain ⟨W9, hW9⟩ : ∃ W9, w8.setCell ⟨B + 1, 3, none⟩ (.int .i64 (0)) = W9 := ⟨_, rfl⟩
      have HL9 := Lib.hid (show W9.heap[B + 1]? = some (.cells #[.int .i64 x, .int .i64 y, .int .i64 (1 + (a : Int)), .int .i64 (0)] 24 (0, 0)) from by rw [← hW9]; have h := heap_setCell_same w8 (B + 1) 3 _ _ (.int .i64 (0)) HL8.out; rw [h]; simp)
      have HXA := Lib.hid (show W9.heap[w.heap.size]? = some (.cells #[.int .i64 0, .int .i64 0, .int .i64 0, .int .i64 0] 24 (0, 0)) from by rw [← hW9]; exact (Below.heap_setCell _ _ _ _ (by have := HBw.out; show w.heap.size ≠ B + 1; omega)).trans HX8.out)
      have HRA := Lib.hid (show Rdr W9 B 6 from by rw [← hW9]; exact HR8.out.same (fun r hr => Below.heap_setCell _ _ _ _ (by show r ≠ B + 1; omega)))
      have HBA := Lib.hid (show Below w.heap.size w W9 from by rw [← hW9]; exact HB8.out.setCell (p := ⟨B + 1, 3, none⟩) (by have := HBw.out; show w.heap.size ≤ B + 1; omega) _)
      clear g0 g1 g2 k0 k1 k2
      go_wp2_with fail
      try rw [hW9]
      clear hW9 g3 k3 d0 d1
      have HRd := Lib.hid (show Rdr W9.drew B 6 from HRA.out.same (fun _ _ => rfl))
      have HP := Lib.hid (show Calls Try.prog 10 #[.pointer (some ⟨B, 0, none⟩), .int .i64 6] W9.drew (PickPost B 6 6 W9.drew) from pick_any B 6 6 W9.drew HRd.out (by omega) (by omega) (by omega))
      have s0 : W9.cell? ⟨B + 1, 0, none⟩ = some (.int .i64 x) ∧ W9.cell? ⟨B + 1, 1, none⟩ = some (.int .i64 y) ∧ W9.cell? ⟨B + 1, 2, none⟩ = some (.int .i64 (1 + (a : Int))) ∧ W9.cell? ⟨B + 1, 3, none⟩ = some (.int .i64 (0)) := cellsLb HL9.out
      go_region_held3 (fun w' => w'.cell? ⟨B + 1, 0, none⟩ = some (.int .i64 x) ∧ w'.cell? ⟨B + 1, 1, none⟩ = some (.int .i64 y) ∧ w'.cell? ⟨B + 1, 2, none⟩ = some (.int .i64 (1 + (a : Int))) ∧ w'.cell? ⟨B + 1, 3, none⟩ = some (.int .i64 (0)))
        (first | exact s9.out | exact s0 | go_keep | exact ⟨(cell4_far _ _ _ _ (by have := HBw.out; omega)).trans s9.out.1, (cell4_far _ _ _ _ (by have := HBw.out; omega)).trans s9.out.2.1, (cell4_far _ _ _ _ (by have := HBw.out; omega)).trans s9.out.2.2.1, (cell4_far _ _ _ _ (by have := HBw.out; omega)).trans s9.out.2.2.2⟩)
        (first | (go_at_call 10; (with_reducible refine HP.out.mono ?_); rintro e w9 ⟨q2, hq2, rfl, hr9, hc9, hz9⟩; have hl9 := (chg_blk hc9 (lt_of_block HL9.out) (by omega)).trans HL9.out; have hx9 := (chg_blk hc9 (lt_of_block HXA.out) (by have := HBw.out; omega)).trans HXA.out; have s9 := Lib.hid (cellsLb hl9); have HX9 := Lib.hid hx9; have HB9 := Lib.hid (HBA.out.trans ((show Chg B (B + 1) W9 w9 from ⟨hc9.os, hc9.tape, hc9.output, hc9.size, hc9.block⟩).below (by have := HBw.out; omega) (by have := HBA.out.size; omega))); obtain ⟨e0, e1, e2, e3⟩ := cellsLb hx9; obtain ⟨f0, f1, f2, f3⟩ := frozLb hx9; clear hr9 hc9 hl9 hx9))
      all_goals go_wp2
      all_goals exact bodyPost_ret (results_cell_row_tmp rfl _ _ w.heap.size _ #[.int .i64 x, .int .i64 y, .int .i64 (1 + (a : Int)), .int .i64 (0)] _ _ rfl (four_set _ _ _ _ _ _ _ _ _ _ HX9.out) Try.underlying24 rfl Try.sizeLb (.int .i64 (IntKind.i64.wrap ((q2 : Int) - 1))) rfl) rfl ⟨x, y, 1 + (a : Int), 0, IntKind.i64.wrap ((q2 : Int) - 1), rfl, ⟨by omega, by omega, by omega, by omega, by rw [IntKind.wrap_i64]; omega⟩, (((HB9.out.setCell (p := ⟨w.heap.size, 0, none⟩) (Nat.le_refl _) _).setCell (p := ⟨w.heap.size, 1, none⟩) (Nat.le_refl _) _).setCell (p := ⟨w.heap.size, 2, none⟩) (Nat.le_refl _) _).setCell (p := ⟨w.heap.size, 3, none⟩) (Nat.le_refl _) _⟩
    · skip
      obtain ⟨W9, hW9⟩ : ∃ W9, w8.setCell ⟨B + 1, 3, none⟩ (.int .i64 (10)) = W9 := ⟨_, rfl⟩
      have HL9 := Lib.hid (show W9.heap[B + 1]? = some (.cells #[.int .i64 x, .int .i64 y, .int .i64 (1 + (a : Int)), .int .i64 (10)] 24 (0, 0)) from by rw [← hW9]; have h := heap_setCell_same w8 (B + 1) 3 _ _ (.int .i64 (10)) HL8.out; rw [h]; simp)
      have HXA := Lib.hid (show W9.heap[w.heap.size]? = some (.cells #[.int .i64 0, .int .i64 0, .int .i64 0, .int .i64 0] 24 (0, 0)) from by rw [← hW9]; exact (Below.heap_setCell _ _ _ _ (by have := HBw.out; show w.heap.size ≠ B + 1; omega)).trans HX8.out)
      have HRA := Lib.hid (show Rdr W9 B 6 from by rw [← hW9]; exact HR8.out.same (fun r hr => Below.heap_setCell _ _ _ _ (by show r ≠ B + 1; omega)))
      have HBA := Lib.hid (show Below w.heap.size w W9 from by rw [← hW9]; exact HB8.out.setCell (p := ⟨B + 1, 3, none⟩) (by have := HBw.out; show w.heap.size ≤ B + 1; omega) _)
      clear g0 g1 g2 k0 k1 k2
      go_wp2_with fail
      try rw [hW9]
      clear hW9 g3 k3 d0 d1
      have HRd := Lib.hid (show Rdr W9.drew B 6 from HRA.out.same (fun _ _ => rfl))
      have HP := Lib.hid (show Calls Try.prog 10 #[.pointer (some ⟨B, 0, none⟩), .int .i64 6] W9.drew (PickPost B 6 6 W9.drew) from pick_any B 6 6 W9.drew HRd.out (by omega) (by omega) (by omega))
      have s0 : W9.cell? ⟨B + 1, 0, none⟩ = some (.int .i64 x) ∧ W9.cell? ⟨B + 1, 1, none⟩ = some (.int .i64 y) ∧ W9.cell? ⟨B + 1, 2, none⟩ = some (.int .i64 (1 + (a : Int))) ∧ W9.cell? ⟨B + 1, 3, none⟩ = some (.int .i64 (10)) := cellsLb HL9.out
      go_region_held3 (fun w' => w'.cell? ⟨B + 1, 0, none⟩ = some (.int .i64 x) ∧ w'.cell? ⟨B + 1, 1, none⟩ = some (.int .i64 y) ∧ w'.cell? ⟨B + 1, 2, none⟩ = some (.int .i64 (1 + (a : Int))) ∧ w'.cell? ⟨B + 1, 3, none⟩ = some (.int .i64 (10)))
        (first | exact s9.out | exact s0 | go_keep | exact ⟨(cell4_far _ _ _ _ (by have := HBw.out; omega)).trans s9.out.1, (cell4_far _ _ _ _ (by have := HBw.out; omega)).trans s9.out.2.1, (cell4_far _ _ _ _ (by have := HBw.out; omega)).trans s9.out.2.2.1, (cell4_far _ _ _ _ (by have := HBw.out; omega)).trans s9.out.2.2.2⟩)
        (first | (go_at_call 10; (with_reducible refine HP.out.mono ?_); rintro e w9 ⟨q2, hq2, rfl, hr9, hc9, hz9⟩; have hl9 := (chg_blk hc9 (lt_of_block HL9.out) (by omega)).trans HL9.out; have hx9 := (chg_blk hc9 (lt_of_block HXA.out) (by have := HBw.out; omega)).trans HXA.out; have s9 := Lib.hid (cellsLb hl9); have HX9 := Lib.hid hx9; have HB9 := Lib.hid (HBA.out.trans ((show Chg B (B + 1) W9 w9 from ⟨hc9.os, hc9.tape, hc9.output, hc9.size, hc9.block⟩).below (by have := HBw.out; omega) (by have := HBA.out.size; omega))); obtain ⟨e0, e1, e2, e3⟩ := cellsLb hx9; obtain ⟨f0, f1, f2, f3⟩ := frozLb hx9; clear hr9 hc9 hl9 hx9))
      all_goals go_wp2
      all_goals exact bodyPost_ret (results_cell_row_tmp rfl _ _ w.heap.size _ #[.int .i64 x, .int .i64 y, .int .i64 (1 + (a : Int)), .int .i64 (10)] _ _ rfl (four_set _ _ _ _ _ _ _ _ _ _ HX9.out) Try.underlying24 rfl Try.sizeLb (.int .i64 (IntKind.i64.wrap ((q2 : Int) - 1))) rfl) rfl ⟨x, y, 1 + (a : Int), 10, IntKind.i64.wrap ((q2 : Int) - 1), rfl, ⟨by omega, by omega, by omega, by omega, by rw [IntKind.wrap_i64]; omega⟩, (((HB9.out.setCell (p := ⟨w.heap.size, 0, none⟩) (Nat.le_refl _) _).setCell (p := ⟨w.heap.size, 1, none⟩) (Nat.le_refl _) _).setCell (p := ⟨w.heap.size, 2, none⟩) (Nat.le_refl _) _).setCell (p := ⟨w.heap.size, 3, none⟩) (Nat.le_refl _) _⟩
  · have hq1 : ((q : Int) == 0) = false := by simp; omega
    have HRd := Lib.hid (show Rdr w6.drew B 5 from HR6.out.same (fun _ _ => rfl))
    have HP := Lib.hid (show Calls Try.prog 10 #[.pointer (some ⟨B, 0, none⟩), .int .i64 6] w6.drew (PickPost B 5 6 w6.drew) from pick_any B 5 6 w6.drew HRd.out (by omega) (by omega) (by omega))
    have s0 : w6.cell? ⟨B + 1, 0, none⟩ = some (.int .i64 x) ∧ w6.cell? ⟨B + 1, 1, none⟩ = some (.int .i64 y) ∧ w6.cell? ⟨B + 1, 2, none⟩ = some (.int .i64 (1 + (a : Int))) ∧ w6.cell? ⟨B + 1, 3, none⟩ = some (.int .i64 (1 + (g : Int))) := cellsLb HL6.out
    go_wp2_with fail
    go_region_held3 (fun w' => w'.cell? ⟨B + 1, 0, none⟩ = some (.int .i64 x) ∧ w'.cell? ⟨B + 1, 1, none⟩ = some (.int .i64 y) ∧ w'.cell? ⟨B + 1, 2, none⟩ = some (.int .i64 (1 + (a : Int))) ∧ w'.cell? ⟨B + 1, 3, none⟩ = some (.int .i64 (1 + (g : Int))))
      (first | exact s9.out | exact s0 | go_keep | exact ⟨(cell4_far _ _ _ _ (by have := HBw.out; omega)).trans s9.out.1, (cell4_far _ _ _ _ (by have := HBw.out; omega)).trans s9.out.2.1, (cell4_far _ _ _ _ (by have := HBw.out; omega)).trans s9.out.2.2.1, (cell4_far _ _ _ _ (by have := HBw.out; omega)).trans s9.out.2.2.2⟩)
      (first | (go_at_call 10; (with_reducible refine HP.out.mono ?_); rintro e w9 ⟨q2, hq2, rfl, hr9, hc9, hz9⟩; have hl9 := (chg_blk hc9 (lt_of_block HL6.out) (by omega)).trans HL6.out; have hx9 := (chg_blk hc9 (lt_of_block HX6.out) (by have := HBw.out; omega)).trans HX6.out; have s9 := Lib.hid (cellsLb hl9); have HX9 := Lib.hid hx9; have HB9 := Lib.hid (HB6.out.trans ((show Chg B (B + 1) w6 w9 from ⟨hc9.os, hc9.tape, hc9.output, hc9.size, hc9.block⟩).below (by have := HBw.out; omega) (by have := HB6.out.size; omega))); obtain ⟨e0, e1, e2, e3⟩ := cellsLb hx9; obtain ⟨f0, f1, f2, f3⟩ := frozLb hx9; clear hr9 hc9 hl9 hx9))
    all_goals go_wp2
    all_goals exact bodyPost_ret (results_cell_row_tmp rfl _ _ w.heap.size _ #[.int .i64 x, .int .i64 y, .int .i64 (1 + (a : Int)), .int .i64 (1 + (g : Int))] _ _ rfl (four_set _ _ _ _ _ _ _ _ _ _ HX9.out) Try.underlying24 rfl Try.sizeLb (.int .i64 (IntKind.i64.wrap ((q2 : Int) - 1))) rfl) rfl ⟨x, y, 1 + (a : Int), 1 + (g : Int), IntKind.i64.wrap ((q2 : Int) - 1), rfl, ⟨by omega, by omega, by omega, by omega, by rw [IntKind.wrap_i64]; omega⟩, (((HB9.out.setCell (p := ⟨w.heap.size, 0, none⟩) (Nat.le_refl _) _).setCell (p := ⟨w.heap.size, 1, none⟩) (Nat.le_refl _) _).setCell (p := ⟨w.heap.size, 2, none⟩) (Nat.le_refl _) _).setCell (p := ⟨w.heap.size, 3, none⟩) (Nat.le_refl _) _⟩

end Go.Proofs.Ytiilbpkdkbakkaa
