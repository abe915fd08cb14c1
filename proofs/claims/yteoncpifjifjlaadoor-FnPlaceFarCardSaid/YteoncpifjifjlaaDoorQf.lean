/- The draw of a place. -/
import Derived.Test.YteoncpifjifjlaaDoorQd
import Derived.RegionTactic
import Derived.BigRegion
namespace Go.Proofs.YteoncpifjifjlaaDoor
open Go.RowKit
set_option linter.unusedVariables false

def Apl (i : Nat) : Int := [-1, 104, 103, 0].getD i 0
def Bpl (i : Nat) : Int := [0, 103, 104].getD i 0
theorem apl_range (i : Nat) : -1 ≤ Apl i ∧ Apl i ≤ 104 := by
  unfold Apl
  rcases (by omega : i = 0 ∨ i = 1 ∨ i = 2 ∨ i = 3 ∨ 4 ≤ i) with rfl | rfl | rfl | rfl | h
  · decide
  · decide
  · decide
  · decide
  · rw [List.getD, List.getElem?_eq_none (by simpa using h)]; decide
theorem bpl_range (i : Nat) : -1 ≤ Bpl i ∧ Bpl i ≤ 104 := by
  unfold Bpl
  rcases (by omega : i = 0 ∨ i = 1 ∨ i = 2 ∨ 3 ≤ i) with rfl | rfl | rfl | h
  · decide
  · decide
  · decide
  · rw [List.getD, List.getElem?_eq_none (by simpa using h)]; decide
theorem apl_cell {w : World} {b y : Nat} (h : w.heap[b]? = some (.cells #[.int .i64 (-1), .int .i64 104, .int .i64 103, .int .i64 0] 3 (0, 0))) (hy : y < 4) : w.cell? ⟨b, y, none⟩ = some (.int .i64 (Apl y)) := by
  rcases (by omega : y = 0 ∨ y = 1 ∨ y = 2 ∨ y = 3) with rfl | rfl | rfl | rfl <;> simp [World.cell?, h, Apl]
theorem bpl_cell {w : World} {b y : Nat} (h : w.heap[b]? = some (.cells #[.int .i64 0, .int .i64 103, .int .i64 104] 3 (0, 0))) (hy : y < 3) : w.cell? ⟨b, y, none⟩ = some (.int .i64 (Bpl y)) := by
  rcases (by omega : y = 0 ∨ y = 1 ∨ y = 2) with rfl | rfl | rfl <;> simp [World.cell?, h, Bpl]
theorem Rdr.al {w : World} {B p : Nat} (h : Rdr w B p) (hB : B < w.heap.size) (o : Obj) : Rdr (w.alloc o) B p := h.same (fun k hk => Below.heap_alloc w o k (by omega))
theorem Chg.al {lo hi : Nat} {w x : World} (h : Chg lo hi w x) (o : Obj) : Chg lo hi w (x.alloc o) := h.thenB ((Below.refl x.heap.size x).alloc (Nat.le_refl _) o) h.size

/-- a place is drawn -/
def PwPost (B p : Nat) (w : World) (e : Ending) (w' : World) : Prop :=
  ∃ x y : Int, ∃ q, e = .returned (.tuple #[.int .i64 x, .int .i64 y]) ∧ (-1 ≤ x ∧ x ≤ 104) ∧ (-1 ≤ y ∧ y ≤ 104) ∧ q ≤ p + 3 ∧ Rdr w' B q ∧ Chg B (B + 1) w w'

set_option maxHeartbeats 16000000 in
theorem placeDraw_any (B p : Nat) (w : World) (h : Rdr w B p) (hB : B < w.heap.size) (hp : p ≤ 90000) : Calls Tryd.prog 57 #[.pointer (some ⟨B, 0, none⟩)] w (PwPost B p w) := by
  have HP := Lib.hid (pick_any B p 16 w h (by omega) (by omega) (by omega))
  clear h
  go_enter Tryd.func57, Tryd.ntmps57
  go_wp2_with fail
  refine HP.out.mono ?_
  rintro e w1 ⟨x, hx, rfl, hr, hc, hs⟩
  have HR := Lib.hid hr
  have HC := Lib.hid hc
  have hB1 : B < w1.heap.size := by omega
  clear hr hc hs
  by_cases h0 : x = 0
  · subst h0
    have RN := Lib.hid (show Rdr w1.drew B (p + 1) from HR.out.same (fun _ _ => rfl))
    have CN := Lib.hid (show Chg B (B + 1) w1 w1.drew from (Chg.refl B (B + 1) w1).drewN 1)
    have SN := Lib.hid (show w1.drew.heap.size = w1.heap.size + 0 by show w1.heap.size = _; simp)
    have RA := Lib.hid (show Rdr (w1.alloc (.cells #[.int .i64 (-1), .int .i64 104, .int .i64 103, .int .i64 0] 3)).drew B (p + 1) from (HR.out.al (by omega) (.cells #[.int .i64 (-1), .int .i64 104, .int .i64 103, .int .i64 0] 3)).same (fun _ _ => rfl))
    have CA := Lib.hid (show Chg B (B + 1) w1 (w1.alloc (.cells #[.int .i64 (-1), .int .i64 104, .int .i64 103, .int .i64 0] 3)).drew from ((Chg.refl B (B + 1) w1).al (.cells #[.int .i64 (-1), .int .i64 104, .int .i64 103, .int .i64 0] 3)).drewN 1)
    have SA := Lib.hid (show (w1.alloc (.cells #[.int .i64 (-1), .int .i64 104, .int .i64 103, .int .i64 0] 3)).drew.heap.size = w1.heap.size + 1 by show (w1.alloc (.cells #[.int .i64 (-1), .int .i64 104, .int .i64 103, .int .i64 0] 3)).heap.size = _; simp)
    have HAA := Lib.hid (show (w1.alloc (.cells #[.int .i64 (-1), .int .i64 104, .int .i64 103, .int .i64 0] 3)).drew.heap[w1.heap.size]? = some (.cells #[.int .i64 (-1), .int .i64 104, .int .i64 103, .int .i64 0] 3 (0, 0)) from heap_alloc_new w1 _)
    have RB := Lib.hid (show Rdr (w1.alloc (.cells #[.int .i64 0, .int .i64 103, .int .i64 104] 3)).drew B (p + 1) from (HR.out.al (by omega) (.cells #[.int .i64 0, .int .i64 103, .int .i64 104] 3)).same (fun _ _ => rfl))
    have CB := Lib.hid (show Chg B (B + 1) w1 (w1.alloc (.cells #[.int .i64 0, .int .i64 103, .int .i64 104] 3)).drew from ((Chg.refl B (B + 1) w1).al (.cells #[.int .i64 0, .int .i64 103, .int .i64 104] 3)).drewN 1)
    have SB := Lib.hid (show (w1.alloc (.cells #[.int .i64 0, .int .i64 103, .int .i64 104] 3)).drew.heap.size = w1.heap.size + 1 by show (w1.alloc (.cells #[.int .i64 0, .int .i64 103, .int .i64 104] 3)).heap.size = _; simp)
    have HBB := Lib.hid (show (w1.alloc (.cells #[.int .i64 0, .int .i64 103, .int .i64 104] 3)).drew.heap[w1.heap.size]? = some (.cells #[.int .i64 0, .int .i64 103, .int .i64 104] 3 (0, 0)) from heap_alloc_new w1 _)
    have RAB := Lib.hid (show Rdr ((w1.alloc (.cells #[.int .i64 (-1), .int .i64 104, .int .i64 103, .int .i64 0] 3)).alloc (.cells #[.int .i64 0, .int .i64 103, .int .i64 104] 3)).drew B (p + 1) from ((HR.out.al (by omega) (.cells #[.int .i64 (-1), .int .i64 104, .int .i64 103, .int .i64 0] 3)).al (by simp; omega) (.cells #[.int .i64 0, .int .i64 103, .int .i64 104] 3)).same (fun _ _ => rfl))
    have CAB := Lib.hid (show Chg B (B + 1) w1 ((w1.alloc (.cells #[.int .i64 (-1), .int .i64 104, .int .i64 103, .int .i64 0] 3)).alloc (.cells #[.int .i64 0, .int .i64 103, .int .i64 104] 3)).drew from (((Chg.refl B (B + 1) w1).al (.cells #[.int .i64 (-1), .int .i64 104, .int .i64 103, .int .i64 0] 3)).al (.cells #[.int .i64 0, .int .i64 103, .int .i64 104] 3)).drewN 1)
    have SAB := Lib.hid (show ((w1.alloc (.cells #[.int .i64 (-1), .int .i64 104, .int .i64 103, .int .i64 0] 3)).alloc (.cells #[.int .i64 0, .int .i64 103, .int .i64 104] 3)).drew.heap.size = w1.heap.size + 2 by show ((w1.alloc (.cells #[.int .i64 (-1), .int .i64 104, .int .i64 103, .int .i64 0] 3)).alloc (.cells #[.int .i64 0, .int .i64 103, .int .i64 104] 3)).heap.size = _; simp)
    have HABA := Lib.hid (show ((w1.alloc (.cells #[.int .i64 (-1), .int .i64 104, .int .i64 103, .int .i64 0] 3)).alloc (.cells #[.int .i64 0, .int .i64 103, .int .i64 104] 3)).drew.heap[w1.heap.size]? = some (.cells #[.int .i64 (-1), .int .i64 104, .int .i64 103, .int .i64 0] 3 (0, 0)) from heap_alloc2_old w1 _ _)
    have HABB := Lib.hid (show ((w1.alloc (.cells #[.int .i64 (-1), .int .i64 104, .int .i64 103, .int .i64 0] 3)).alloc (.cells #[.int .i64 0, .int .i64 103, .int .i64 104] 3)).drew.heap[w1.heap.size + 1]? = some (.cells #[.int .i64 0, .int .i64 103, .int .i64 104] 3 (0, 0)) from heap_alloc2_new w1 _ _)
    have RBA := Lib.hid (show Rdr ((w1.alloc (.cells #[.int .i64 0, .int .i64 103, .int .i64 104] 3)).alloc (.cells #[.int .i64 (-1), .int .i64 104, .int .i64 103, .int .i64 0] 3)).drew B (p + 1) from ((HR.out.al (by omega) (.cells #[.int .i64 0, .int .i64 103, .int .i64 104] 3)).al (by simp; omega) (.cells #[.int .i64 (-1), .int .i64 104, .int .i64 103, .int .i64 0] 3)).same (fun _ _ => rfl))
    have CBA := Lib.hid (show Chg B (B + 1) w1 ((w1.alloc (.cells #[.int .i64 0, .int .i64 103, .int .i64 104] 3)).alloc (.cells #[.int .i64 (-1), .int .i64 104, .int .i64 103, .int .i64 0] 3)).drew from (((Chg.refl B (B + 1) w1).al (.cells #[.int .i64 0, .int .i64 103, .int .i64 104] 3)).al (.cells #[.int .i64 (-1), .int .i64 104, .int .i64 103, .int .i64 0] 3)).drewN 1)
    have SBA := Lib.hid (show ((w1.alloc (.cells #[.int .i64 0, .int .i64 103, .int .i64 104] 3)).alloc (.cells #[.int .i64 (-1), .int .i64 104, .int .i64 103, .int .i64 0] 3)).drew.heap.size = w1.heap.size + 2 by show ((w1.alloc (.cells #[.int .i64 0, .int .i64 103, .int .i64 104] 3)).alloc (.cells #[.int .i64 (-1), .int .i64 104, .int .i64 103, .int .i64 0] 3)).heap.size = _; simp)
    have HBAB := Lib.hid (show ((w1.alloc (.cells #[.int .i64 0, .int .i64 103, .int .i64 104] 3)).alloc (.cells #[.int .i64 (-1), .int .i64 104, .int .i64 103, .int .i64 0] 3)).drew.heap[w1.heap.size]? = some (.cells #[.int .i64 0, .int .i64 103, .int .i64 104] 3 (0, 0)) from heap_alloc2_old w1 _ _)
    have HBAA := Lib.hid (show ((w1.alloc (.cells #[.int .i64 0, .int .i64 103, .int .i64 104] 3)).alloc (.cells #[.int .i64 (-1), .int .i64 104, .int .i64 103, .int .i64 0] 3)).drew.heap[w1.heap.size + 1]? = some (.cells #[.int .i64 (-1), .int .i64 104, .int .i64 103, .int .i64 0] 3 (0, 0)) from heap_alloc2_new w1 _ _)
    go_wp2_with fail
    go_region_law
      (first
        | (go_simp; have hp1 := HP1.out; (refine (pick_any B (p + 1 + 1) 3 _ (by first | exact HR5.out | exact HR5.out.same (fun _ _ => rfl) | exact HR5.out.al hB5 _ | exact (HR5.out.al hB5 _).same (fun _ _ => rfl) | exact (HR5.out.al hB5 _).al (by simp; omega) _ | exact ((HR5.out.al hB5 _).al (by simp; omega) _).same (fun _ _ => rfl)) (by omega) (by omega) (by omega)).mono ?_); rintro e w6 ⟨y, hy, rfl, hr6, hc6, hs6⟩; have hy' : (y : Int) < 3 := (by omega); have HR6 := Lib.hid hr6; have HC6 := Lib.hid (show Chg B (B + 1) w1 w6 from (by first | exact HC5.out.trans hc6 | exact (HC5.out.drewN 1).trans hc6 | exact (HC5.out.al _).trans hc6 | exact ((HC5.out.al _).drewN 1).trans hc6 | exact ((HC5.out.al _).al _).trans hc6 | exact (((HC5.out.al _).al _).drewN 1).trans hc6)); have hw6 : w5.heap.size ≤ w6.heap.size := (by have := hc6.size; first | exact this | (simp at this; omega) | exact Nat.le_trans (by show w5.heap.size ≤ (w5.alloc _).heap.size; simp) this | exact Nat.le_trans (by show w5.heap.size ≤ ((w5.alloc _).alloc _).heap.size; simp; omega) this); have hB6 : B < w6.heap.size := (by omega); (first | (have zA := (show w6.heap[w1.heap.size]? = some (.cells #[.int .i64 (-1), .int .i64 104, .int .i64 103, .int .i64 0] 3 (0, 0)) from (hc6.block w1.heap.size (by first | exact GA.out.1 | exact Nat.lt_of_lt_of_le GA.out.1 (by show w5.heap.size ≤ (w5.alloc _).heap.size; simp)) (by omega)).trans (by first | exact GA.out.2 | exact (Below.heap_alloc w5 _ _ GA.out.1).trans GA.out.2)); have qA := Lib.hid zA) | (have zA := (show w6.heap[(w1.heap.size + 1)]? = some (.cells #[.int .i64 (-1), .int .i64 104, .int .i64 103, .int .i64 0] 3 (0, 0)) from (hc6.block (w1.heap.size + 1) (by first | exact GA.out.1 | exact Nat.lt_of_lt_of_le GA.out.1 (by show w5.heap.size ≤ (w5.alloc _).heap.size; simp)) (by omega)).trans (by first | exact GA.out.2 | exact (Below.heap_alloc w5 _ _ GA.out.1).trans GA.out.2)); have qA := Lib.hid zA) | (have zA := (show w6.heap[w5.heap.size]? = some (.cells #[.int .i64 (-1), .int .i64 104, .int .i64 103, .int .i64 0] 3 (0, 0)) from (hc6.block w5.heap.size (by first | (show w5.heap.size < (w5.alloc _).heap.size; simp) | (show w5.heap.size < ((w5.alloc _).alloc _).heap.size; simp; omega)) (by omega)).trans (by first | exact heap_alloc_new w5 _ | exact heap_alloc2_old w5 _ _))) | (have zA := (show w6.heap[w5.heap.size + 1]? = some (.cells #[.int .i64 (-1), .int .i64 104, .int .i64 103, .int .i64 0] 3 (0, 0)) from (hc6.block (w5.heap.size + 1) (by show w5.heap.size + 1 < ((w5.alloc _).alloc _).heap.size; simp) (by omega)).trans (heap_alloc2_new w5 _ _))) | skip); (first | (have mA1 := apl_cell zA hk; have mA2 := (fun o => apl_cell ((Below.heap_alloc w6 o _ (lt_of_block zA)).trans zA) hk); clear zA) | (have mA3 : (w6.alloc (.cells #[.int .i64 (-1), .int .i64 104, .int .i64 103, .int .i64 0] 3)).cell? ⟨w6.heap.size, k, none⟩ = some (.int .i64 (Apl k)) := apl_cell (heap_alloc_new w6 _) hk; have mA4 : ((w6.alloc (.cells #[.int .i64 (-1), .int .i64 104, .int .i64 103, .int .i64 0] 3)).alloc (.cells #[.int .i64 0, .int .i64 103, .int .i64 104] 3)).cell? ⟨w6.heap.size, k, none⟩ = some (.int .i64 (Apl k)) := apl_cell (heap_alloc2_old w6 _ _) hk; have mA5 : ((w6.alloc (.cells #[.int .i64 0, .int .i64 103, .int .i64 104] 3)).alloc (.cells #[.int .i64 (-1), .int .i64 104, .int .i64 103, .int .i64 0] 3)).cell? ⟨w6.heap.size + 1, k, none⟩ = some (.int .i64 (Apl k)) := apl_cell (heap_alloc2_new w6 _ _) hk)); (first | (have zB := (show w6.heap[w1.heap.size]? = some (.cells #[.int .i64 0, .int .i64 103, .int .i64 104] 3 (0, 0)) from (hc6.block w1.heap.size (by first | exact GB.out.1 | exact Nat.lt_of_lt_of_le GB.out.1 (by show w5.heap.size ≤ (w5.alloc _).heap.size; simp)) (by omega)).trans (by first | exact GB.out.2 | exact (Below.heap_alloc w5 _ _ GB.out.1).trans GB.out.2)); have qB := Lib.hid zB) | (have zB := (show w6.heap[(w1.heap.size + 1)]? = some (.cells #[.int .i64 0, .int .i64 103, .int .i64 104] 3 (0, 0)) from (hc6.block (w1.heap.size + 1) (by first | exact GB.out.1 | exact Nat.lt_of_lt_of_le GB.out.1 (by show w5.heap.size ≤ (w5.alloc _).heap.size; simp)) (by omega)).trans (by first | exact GB.out.2 | exact (Below.heap_alloc w5 _ _ GB.out.1).trans GB.out.2)); have qB := Lib.hid zB) | (have zB := (show w6.heap[w5.heap.size]? = some (.cells #[.int .i64 0, .int .i64 103, .int .i64 104] 3 (0, 0)) from (hc6.block w5.heap.size (by first | (show w5.heap.size < (w5.alloc _).heap.size; simp) | (show w5.heap.size < ((w5.alloc _).alloc _).heap.size; simp; omega)) (by omega)).trans (by first | exact heap_alloc_new w5 _ | exact heap_alloc2_old w5 _ _))) | (have zB := (show w6.heap[w5.heap.size + 1]? = some (.cells #[.int .i64 0, .int .i64 103, .int .i64 104] 3 (0, 0)) from (hc6.block (w5.heap.size + 1) (by show w5.heap.size + 1 < ((w5.alloc _).alloc _).heap.size; simp) (by omega)).trans (heap_alloc2_new w5 _ _))) | skip); (first | (have mB1 := bpl_cell zB hy; have mB2 := (fun o => bpl_cell ((Below.heap_alloc w6 o _ (lt_of_block zB)).trans zB) hy); clear zB) | (have mB3 : (w6.alloc (.cells #[.int .i64 0, .int .i64 103, .int .i64 104] 3)).cell? ⟨w6.heap.size, y, none⟩ = some (.int .i64 (Bpl y)) := bpl_cell (heap_alloc_new w6 _) hy; have mB4 : ((w6.alloc (.cells #[.int .i64 0, .int .i64 103, .int .i64 104] 3)).alloc (.cells #[.int .i64 (-1), .int .i64 104, .int .i64 103, .int .i64 0] 3)).cell? ⟨w6.heap.size, y, none⟩ = some (.int .i64 (Bpl y)) := bpl_cell (heap_alloc2_old w6 _ _) hy; have mB5 : ((w6.alloc (.cells #[.int .i64 (-1), .int .i64 104, .int .i64 103, .int .i64 0] 3)).alloc (.cells #[.int .i64 0, .int .i64 103, .int .i64 104] 3)).cell? ⟨w6.heap.size + 1, y, none⟩ = some (.int .i64 (Bpl y)) := bpl_cell (heap_alloc2_new w6 _ _) hy)); clear hr6 hc6 hs6 hw6 hp1)
        | (go_simp; (refine (pick_any B (p + 1) 4 _ RN.out (by omega) (by omega) (by omega)).mono ?_); rintro e w5 ⟨k, hk, rfl, hr5, hc5, hs5⟩; have HP1 := Lib.hid True.intro; have hk' : (k : Int) < 4 := (by omega); have hz5 : w5.heap.size = w1.heap.size + 0 := hs5.trans SN.out; have hB5 : B < w5.heap.size := (by omega); have HR5 := Lib.hid hr5; have HC5 := Lib.hid (CN.out.trans hc5); have l2 : (w5.alloc (.cells #[.int .i64 (-1), .int .i64 104, .int .i64 103, .int .i64 0] 3)).cell? ⟨w5.heap.size, k, none⟩ = some (.int .i64 (Apl k)) := apl_cell (heap_alloc_new w5 _) hk; have l2b : ((w5.alloc (.cells #[.int .i64 (-1), .int .i64 104, .int .i64 103, .int .i64 0] 3)).alloc (.cells #[.int .i64 0, .int .i64 103, .int .i64 104] 3)).cell? ⟨w5.heap.size, k, none⟩ = some (.int .i64 (Apl k)) := apl_cell (heap_alloc2_old w5 _ _) hk; have l2c : ((w5.alloc (.cells #[.int .i64 0, .int .i64 103, .int .i64 104] 3)).alloc (.cells #[.int .i64 (-1), .int .i64 104, .int .i64 103, .int .i64 0] 3)).cell? ⟨w5.heap.size + 1, k, none⟩ = some (.int .i64 (Apl k)) := apl_cell (heap_alloc2_new w5 _ _) hk; clear hr5 hc5 hs5 hz5)
        | (go_simp; (refine (pick_any B (p + 1) 4 _ RA.out (by omega) (by omega) (by omega)).mono ?_); rintro e w5 ⟨k, hk, rfl, hr5, hc5, hs5⟩; have HP1 := Lib.hid True.intro; have hk' : (k : Int) < 4 := (by omega); have hz5 : w5.heap.size = w1.heap.size + 1 := hs5.trans SA.out; have hB5 : B < w5.heap.size := (by omega); have HR5 := Lib.hid hr5; have HC5 := Lib.hid (CA.out.trans hc5); have GA := Lib.hid (show w1.heap.size < w5.heap.size ∧ w5.heap[w1.heap.size]? = some (.cells #[.int .i64 (-1), .int .i64 104, .int .i64 103, .int .i64 0] 3 (0, 0)) from ⟨by omega, (hc5.block _ (by rw [SA.out]; omega) (by omega)).trans HAA.out⟩); have l1 := apl_cell GA.out.2 hk; have l1b : (w5.alloc (.cells #[.int .i64 0, .int .i64 103, .int .i64 104] 3)).cell? ⟨w1.heap.size, k, none⟩ = some (.int .i64 (Apl k)) := apl_cell ((Below.heap_alloc w5 _ _ GA.out.1).trans GA.out.2) hk; clear hr5 hc5 hs5 hz5)
        | (go_simp; (refine (pick_any B (p + 1) 4 _ RB.out (by omega) (by omega) (by omega)).mono ?_); rintro e w5 ⟨k, hk, rfl, hr5, hc5, hs5⟩; have HP1 := Lib.hid True.intro; have hk' : (k : Int) < 4 := (by omega); have hz5 : w5.heap.size = w1.heap.size + 1 := hs5.trans SB.out; have hB5 : B < w5.heap.size := (by omega); have HR5 := Lib.hid hr5; have HC5 := Lib.hid (CB.out.trans hc5); have GB := Lib.hid (show w1.heap.size < w5.heap.size ∧ w5.heap[w1.heap.size]? = some (.cells #[.int .i64 0, .int .i64 103, .int .i64 104] 3 (0, 0)) from ⟨by omega, (hc5.block _ (by rw [SB.out]; omega) (by omega)).trans HBB.out⟩); have l2 : (w5.alloc (.cells #[.int .i64 (-1), .int .i64 104, .int .i64 103, .int .i64 0] 3)).cell? ⟨w5.heap.size, k, none⟩ = some (.int .i64 (Apl k)) := apl_cell (heap_alloc_new w5 _) hk; clear hr5 hc5 hs5 hz5)
        | (go_simp; (refine (pick_any B (p + 1) 4 _ RAB.out (by omega) (by omega) (by omega)).mono ?_); rintro e w5 ⟨k, hk, rfl, hr5, hc5, hs5⟩; have HP1 := Lib.hid True.intro; have hk' : (k : Int) < 4 := (by omega); have hz5 : w5.heap.size = w1.heap.size + 2 := hs5.trans SAB.out; have hB5 : B < w5.heap.size := (by omega); have HR5 := Lib.hid hr5; have HC5 := Lib.hid (CAB.out.trans hc5); have GA := Lib.hid (show w1.heap.size < w5.heap.size ∧ w5.heap[w1.heap.size]? = some (.cells #[.int .i64 (-1), .int .i64 104, .int .i64 103, .int .i64 0] 3 (0, 0)) from ⟨by omega, (hc5.block _ (by rw [SAB.out]; omega) (by omega)).trans HABA.out⟩); have GB := Lib.hid (show w1.heap.size + 1 < w5.heap.size ∧ w5.heap[w1.heap.size + 1]? = some (.cells #[.int .i64 0, .int .i64 103, .int .i64 104] 3 (0, 0)) from ⟨by omega, (hc5.block _ (by rw [SAB.out]; omega) (by omega)).trans HABB.out⟩); have l1 := apl_cell GA.out.2 hk; clear hr5 hc5 hs5 hz5)
        | (go_simp; (refine (pick_any B (p + 1) 4 _ RBA.out (by omega) (by omega) (by omega)).mono ?_); rintro e w5 ⟨k, hk, rfl, hr5, hc5, hs5⟩; have HP1 := Lib.hid True.intro; have hk' : (k : Int) < 4 := (by omega); have hz5 : w5.heap.size = w1.heap.size + 2 := hs5.trans SBA.out; have hB5 : B < w5.heap.size := (by omega); have HR5 := Lib.hid hr5; have HC5 := Lib.hid (CBA.out.trans hc5); have GB := Lib.hid (show w1.heap.size < w5.heap.size ∧ w5.heap[w1.heap.size]? = some (.cells #[.int .i64 0, .int .i64 103, .int .i64 104] 3 (0, 0)) from ⟨by omega, (hc5.block _ (by rw [SBA.out]; omega) (by omega)).trans HBAB.out⟩); have GA := Lib.hid (show w1.heap.size + 1 < w5.heap.size ∧ w5.heap[w1.heap.size + 1]? = some (.cells #[.int .i64 (-1), .int .i64 104, .int .i64 103, .int .i64 0] 3 (0, 0)) from ⟨by omega, (hc5.block _ (by rw [SBA.out]; omega) (by omega)).trans HBAA.out⟩); have l1 := apl_cell GA.out.2 hk; clear hr5 hc5 hs5 hz5))
    all_goals go_wp2
    all_goals go_ret2
    all_goals exact ⟨_, _, p + 1 + 1 + 1, rfl, apl_range k, bpl_range y, by omega, (by first | exact HR6.out | exact HR6.out.same (fun _ _ => rfl) | exact HR6.out.al hB6 _ | exact (HR6.out.al hB6 _).same (fun _ _ => rfl) | exact (HR6.out.al hB6 _).al (by simp; omega) _ | exact ((HR6.out.al hB6 _).al (by simp; omega) _).same (fun _ _ => rfl)), (HC.out.trans (by first | exact HC6.out | exact HC6.out.drewN _ | exact HC6.out.al _ | exact (HC6.out.al _).drewN _ | exact (HC6.out.al _).al _ | exact ((HC6.out.al _).al _).drewN _))⟩
  · have hk0 : ((x : Int) == 0) = false := by rw [beq_eq_false_iff_ne]; omega
    go_wp2_with fail
    refine (pick_any B (p + 1) 104 _ HR.out (by omega) (by omega) (by omega)).mono ?_
    rintro e w2 ⟨c, hc26, rfl, hr2, hc2, hs2⟩
    have HR2 := Lib.hid hr2
    have HC2 := Lib.hid (HC.out.trans hc2)
    clear hr2 hc2
    go_wp2_with fail
    refine (pick_any B (p + 1 + 1) 104 _ HR2.out (by omega) (by omega) (by omega)).mono ?_
    rintro e w3 ⟨r, hr26, rfl, hr3, hc3, hs3⟩
    have HR3 := Lib.hid hr3
    have HC3 := Lib.hid (HC2.out.trans hc3)
    clear hr3 hc3
    go_wp2
    go_ret2
    exact ⟨_, _, p + 1 + 1 + 1, rfl, ⟨by omega, by omega⟩, ⟨by omega, by omega⟩, by omega, HR3.out, HC3.out⟩

end Go.Proofs.YteoncpifjifjlaaDoor
