/- The draw of FnSheetBeside. -/
import Derived.Test.YteoncpifjifjlaaDoorQd
import Derived.Test.YteoncpifjifjlaaDoorQc
import Derived.RegionTactic
import Derived.BigRegion
namespace Go.Proofs.YteoncpifjifjlaaDoor
open Go.RowKit
set_option linter.unusedVariables false

/-- the far steps -/
def Fst (i : Nat) : Int := [9223372036854775807, -9223372036854775808, 26].getD i 0
theorem fst_range (i : Nat) (h : i < 3) : -9223372036854775808 ≤ Fst i ∧ Fst i ≤ 9223372036854775807 := by
  rcases (by omega : i = 0 ∨ i = 1 ∨ i = 2) with rfl | rfl | rfl <;> decide
theorem fst_cell {w : World} {b y : Nat} {t : TypeId} (h : w.heap[b]? = some (.cells #[.int .i64 9223372036854775807, .int .i64 (-9223372036854775808), .int .i64 26] t (0, 0))) (hy : y < 3) : w.cell? ⟨b, y, none⟩ = some (.int .i64 (Fst y)) := by
  rcases (by omega : y = 0 ∨ y = 1 ∨ y = 2) with rfl | rfl | rfl <;> simp [World.cell?, h, Fst]

/-- a text and two numbers drawn -/
def TnPost (w : World) (e : Ending) (w' : World) : Prop := ∃ (s : ByteArray) (x y : Int), e = .returned (.tuple #[.string s, .int .i64 x, .int .i64 y]) ∧ s.size ≤ 20 ∧ (-9223372036854775808 ≤ x ∧ x ≤ 9223372036854775807) ∧ (-10 ≤ y ∧ y ≤ 10) ∧ Below w.heap.size w w'

set_option maxHeartbeats 4000000 in
theorem draw_DrawSheetBeside (v : Value) (n hi : Nat) (w : World) (hv : RdB hi w v n) (hh : hi ≤ w.heap.size) :
    Calls Tryd.prog 33 #[v] w (TnPost w) := by
  have HO := Lib.hid (open_any v n hi w hv hh)
  obtain ⟨ao, cap, cb, off, Z, rfl, _⟩ := hv
  go_enter Tryd.func33, Tryd.ntmps33
  go_wp2_with fail
  refine HO.out.mono ?_
  rintro e w1 ⟨rfl, hr, hb, hs⟩
  have HB := Lib.hid hb
  have HR := Lib.hid hr
  have hs1 : w.heap.size < w1.heap.size := by omega
  clear hb hr hs
  go_wp2_with fail
  refine (sheetDraw_any w.heap.size 0 w1 HR.out (by omega) (by omega)).mono ?_
  rintro e w2 ⟨s, q, rfl, hz, hq, hr2, hc2⟩
  have HB2 := Lib.hid (HB.out.trans (hc2.below (Nat.le_refl _) (by omega)))
  have hs2 : w.heap.size < w2.heap.size := by have := hc2.size; omega
  have HR2 := Lib.hid hr2
  have HZ := Lib.hid hz
  clear hc2 hr2 hz
  go_wp2_with fail
  refine (pick_any w.heap.size q 16 _ HR2.out (by omega) (by omega) (by omega)).mono ?_
  rintro e w3 ⟨x, hx, rfl, hr3, hc3, hs3⟩
  have HB3 := Lib.hid (HB2.out.trans (hc3.below (Nat.le_refl _) (by omega)))
  have HR3 := Lib.hid hr3
  have hs3' : w.heap.size < w3.heap.size := by omega
  clear hr3 hc3 hs3
  by_cases hx0 : x = 0
  · subst hx0
    have RA := Lib.hid (show Rdr (w3.alloc (.cells #[.int .i64 9223372036854775807, .int .i64 (-9223372036854775808), .int .i64 26] 3)).drew w.heap.size (q + 1) from HR3.out.same (fun k hk => Below.heap_alloc w3 _ k (by omega)))
    have RB := Lib.hid (show Rdr w3.drew w.heap.size (q + 1) from HR3.out.same (fun _ _ => rfl))
    have HBA := Lib.hid (show Below w.heap.size w (w3.alloc (.cells #[.int .i64 9223372036854775807, .int .i64 (-9223372036854775808), .int .i64 26] 3)).drew from below_drewN (HB3.out.alloc HB3.out.size _) 1)
    have hsa : w3.heap.size < (w3.alloc (.cells #[.int .i64 9223372036854775807, .int .i64 (-9223372036854775808), .int .i64 26] 3)).drew.heap.size := by show w3.heap.size < (w3.alloc _).heap.size; simp
    have HA := Lib.hid (show (w3.alloc (.cells #[.int .i64 9223372036854775807, .int .i64 (-9223372036854775808), .int .i64 26] 3)).drew.heap[w3.heap.size]? = some (.cells #[.int .i64 9223372036854775807, .int .i64 (-9223372036854775808), .int .i64 26] 3 (0, 0)) from heap_alloc_new w3 _)
    go_wp2_with fail
    go_region_law
      (first
        | (go_simp; have hp1 := HP1.out; (refine (pick_any w.heap.size (q + 1 + 1) 3 _ (by first | exact HR5.out | exact HR5.out.same (fun _ _ => rfl) | exact HR5.out.same (fun k hk => Below.heap_alloc w5 _ k (by omega))) (by omega) (by omega) (by omega)).mono ?_); rintro e w6 ⟨z, hz6, rfl, hr6, hc6, hs6⟩; have HB6 := Lib.hid (show Below w.heap.size w w6 from by first | exact HB5.out.trans (hc6.below (Nat.le_refl _) (by omega)) | exact (below_drewN HB5.out 1).trans (hc6.below (Nat.le_refl _) (by show w.heap.size ≤ w5.heap.size; omega)) | exact (HB5.out.alloc HB5.out.size _).trans (hc6.below (Nat.le_refl _) (by simp; omega)) | exact (below_drewN (HB5.out.alloc HB5.out.size _) 1).trans (hc6.below (Nat.le_refl _) (by show w.heap.size ≤ (w5.alloc _).heap.size; simp; omega))); have l6 : ∀ t, (w6.alloc (.cells #[.int .i64 9223372036854775807, .int .i64 (-9223372036854775808), .int .i64 26] t)).cell? ⟨w6.heap.size, y, none⟩ = some (.int .i64 (Fst y)) := (fun t => fst_cell (heap_alloc_new w6 _) hy); (first | (have l7 : w6.cell? ⟨w3.heap.size, y, none⟩ = some (.int .i64 (Fst y)) := fst_cell ((hc6.block w3.heap.size (by first | exact HL5.out.1 | (simp; exact Nat.lt_succ_of_lt HL5.out.1)) (by omega)).trans HL5.out.2) hy) | (have l8 : w6.cell? ⟨w5.heap.size, y, none⟩ = some (.int .i64 (Fst y)) := fst_cell ((hc6.block w5.heap.size (by first | simp | (show w5.heap.size < (w5.alloc _).heap.size; simp)) (by omega)).trans (heap_alloc_new w5 _)) hy) | skip); clear hr6 hc6 hs6 hp1)
        | (go_simp; (refine (pick_any w.heap.size (q + 1) 3 _ RA.out (by omega) (by omega) (by omega)).mono ?_); rintro e w5 ⟨y, hy, rfl, hr5, hc5, hs5⟩; have HP1 := Lib.hid True.intro; have hy' : (y : Int) < 3 := (by omega); have HL5 := Lib.hid (show w3.heap.size < w5.heap.size ∧ w5.heap[w3.heap.size]? = some (.cells #[.int .i64 9223372036854775807, .int .i64 (-9223372036854775808), .int .i64 26] 3 (0, 0)) from ⟨by omega, (hc5.block w3.heap.size hsa (by omega)).trans HA.out⟩); have l1 := fst_cell HL5.out.2 hy; have HR5 := Lib.hid hr5; have HB5 := Lib.hid (HBA.out.trans (hc5.below (Nat.le_refl _) (by omega))); have hs5' : w.heap.size < w5.heap.size := (by omega); clear hr5 hc5 hs5)
        | (go_simp; (refine (pick_any w.heap.size (q + 1) 3 _ RB.out (by omega) (by omega) (by omega)).mono ?_); rintro e w5 ⟨y, hy, rfl, hr5, hc5, hs5⟩; have HP1 := Lib.hid True.intro; have hy' : (y : Int) < 3 := (by omega); have l2 : ∀ t, (w5.alloc (.cells #[.int .i64 9223372036854775807, .int .i64 (-9223372036854775808), .int .i64 26] t)).cell? ⟨w5.heap.size, y, none⟩ = some (.int .i64 (Fst y)) := (fun t => fst_cell (heap_alloc_new w5 _) hy); have HR5 := Lib.hid hr5; have HB5 := Lib.hid ((below_drewN HB3.out 1).trans (hc5.below (Nat.le_refl _) (by show w.heap.size ≤ w3.heap.size; omega))); have hs5' : w.heap.size < w5.heap.size := (by have : w5.heap.size = w3.heap.size := hs5; omega); clear hr5 hc5 hs5))
    all_goals go_wp2
    all_goals go_ret3
    all_goals exact ⟨s, Fst y, _, rfl, by have := HZ.out; omega, fst_range y hy, ⟨by omega, by omega⟩, by first | exact HB6.out | exact below_drewN HB6.out _ | exact HB6.out.alloc HB6.out.size _ | exact below_drewN (HB6.out.alloc HB6.out.size _) _⟩
  · have hx1 : ((x : Int) == 0) = false := by rw [beq_eq_false_iff_ne]; omega
    go_wp2_with fail
    refine (pick_any w.heap.size (q + 1) 21 _ HR3.out (by omega) (by omega) (by omega)).mono ?_
    rintro e w4 ⟨a, ha, rfl, hr4, hc4, hs4⟩
    have HB4 := Lib.hid (HB3.out.trans (hc4.below (Nat.le_refl _) (by omega)))
    have HR4 := Lib.hid hr4
    have hs4' : w.heap.size < w4.heap.size := by omega
    clear hr4 hc4 hs4
    go_wp2_with fail
    refine (pick_any w.heap.size (q + 1 + 1) 21 _ HR4.out (by omega) (by omega) (by omega)).mono ?_
    rintro e w5 ⟨b, hb, rfl, hr5, hc5, hs5⟩
    have HB5 := Lib.hid (HB4.out.trans (hc5.below (Nat.le_refl _) (by omega)))
    clear hr5 hc5 hs5
    go_wp2
    go_ret3
    exact ⟨s, _, _, rfl, by have := HZ.out; omega, ⟨by omega, by omega⟩, ⟨by omega, by omega⟩, HB5.out⟩

end Go.Proofs.YteoncpifjifjlaaDoor
