/- The draw of a grid and a cell. -/
import Derived.Test.YtcfeckpbjdipeaaDrR
import Derived.RegionTactic
import Derived.BigRegion
namespace Go.Proofs.Ytcfeckpbjdipeaa
open Go.RowKit
set_option linter.unusedVariables false

def Apc (n r i : Nat) : Int := [-1, (n : Int), (r : Int)].getD i 0
def Bpc (i : Nat) : Int := [-1, 7].getD i 0
theorem apc_range {n r i : Nat} (hi : i < 3) (hn : n ≤ 5) (hr : r < n) : -1 ≤ Apc n r i ∧ Apc n r i ≤ 5 := by
  unfold Apc
  rcases (by omega : i = 0 ∨ i = 1 ∨ i = 2) with rfl | rfl | rfl
  all_goals (first | (simp; done) | (simp; omega))
theorem bpc_range {i : Nat} (hi : i < 2) : -1 ≤ Bpc i ∧ Bpc i ≤ 9 := by
  unfold Bpc
  rcases (by omega : i = 0 ∨ i = 1) with rfl | rfl <;> decide
theorem apc_cell {w : World} {b y n r : Nat} (h : w.heap[b]? = some (.cells #[.int .i64 (-1), .int .i64 (n : Nat), .int .i64 (r : Nat)] 3 (0, 0))) (hy : y < 3) : w.cell? ⟨b, y, none⟩ = some (.int .i64 (Apc n r y)) := by
  rcases (by omega : y = 0 ∨ y = 1 ∨ y = 2) with rfl | rfl | rfl <;> simp [World.cell?, h, Apc]
theorem bpc_cell {w : World} {b y : Nat} (h : w.heap[b]? = some (.cells #[.int .i64 (-1), .int .i64 7] 3 (0, 0))) (hy : y < 2) : w.cell? ⟨b, y, none⟩ = some (.int .i64 (Bpc y)) := by
  rcases (by omega : y = 0 ∨ y = 1) with rfl | rfl <;> simp [World.cell?, h, Bpc]
theorem Rdr.alC {w : World} {B p : Nat} (h : Rdr w B p) (hB : B < w.heap.size) (o : Obj) : Rdr (w.alloc o) B p := h.same (fun k hk => Below.heap_alloc w o k (by omega))
theorem Chg.alC {lo hi : Nat} {w x : World} (h : Chg lo hi w x) (o : Obj) : Chg lo hi w (x.alloc o) := h.trans (((Below.refl x.heap.size x).alloc (Nat.le_refl _) o).chg lo hi)

/-- a grid and a cell are drawn -/
def CePost (B q : Nat) (w : World) (e : Ending) (w' : World) : Prop :=
  ∃ v g, ∃ a b : Int, ∃ q', e = .returned (.tuple #[v, .int .i64 a, .int .i64 b]) ∧ (∃ x l c, v = .slice x l c) ∧ RdM (B + 1) w'.heap.size w' v g ∧ (1 ≤ g.n ∧ g.n ≤ 5) ∧ (∀ r, r < g.n → g.len r ≤ 9 ∧ 1 ≤ g.len r) ∧ (-1 ≤ a ∧ a ≤ 7) ∧ (-1 ≤ b ∧ b ≤ 9) ∧ q' ≤ q + 400 ∧ Rdr w' B q' ∧ Chg B (B + 1) w w'
theorem CePost.of {B q q' : Nat} {w w1 X : World} {v : Value} {g : G} {a b : Int} (hv : ∃ x l c, v = .slice x l c) (hm : RdM (B + 1) w1.heap.size w1 v g) (hn : 1 ≤ g.n ∧ g.n ≤ 5) (hl : ∀ r, r < g.n → g.len r ≤ 9 ∧ 1 ≤ g.len r) (ha : -1 ≤ a ∧ a ≤ 7) (hb : -1 ≤ b ∧ b ≤ 9) (hq : q' ≤ q + 400) (hC : Chg B (B + 1) w w1) (hc : Chg B (B + 1) w1 X) (hr : Rdr X B q') : CePost B q w (.returned (.tuple #[v, .int .i64 a, .int .i64 b])) X :=
  ⟨v, g, a, b, q', rfl, hv, (hm.same (hc.sameIn (Nat.le_refl _) (Or.inr (Nat.le_refl _)))).mono (Nat.le_refl _) hc.size, hn, hl, ha, hb, hq, hr, hC.trans hc⟩

set_option maxHeartbeats 16000000 in
theorem cell_any (B q : Nat) (w : World) (h : Rdr w B q) (hBw : B < w.heap.size) (hq : q ≤ 1000) : Calls Try.prog 124 #[.pointer (some ⟨B, 0, none⟩)] w (CePost B q w) := by
  have HP := Lib.hid (grid_any B q w h (by omega))
  clear h
  go_enter Try.func124, Try.ntmps124
  go_wp2_with fail
  refine HP.out.mono ?_
  rintro e wa ⟨v, g, rfl, ⟨a1, l1, c1, rfl⟩, hm, hn, hl, ⟨qa, hqa, hra⟩, hca⟩
  obtain ⟨bg, og, cg, ev⟩ := hm.shape (by omega)
  simp only [Value.slice.injEq] at ev
  obtain ⟨rfl, rfl, rfl⟩ := ev
  have HM := Lib.hid hm
  have HL := Lib.hid hl
  have HRA := Lib.hid hra
  have HCA := Lib.hid hca
  have hsa : w.heap.size ≤ wa.heap.size := hca.size
  clear hm hl hra hca HP
  go_wp2_with fail
  refine (pick_any B qa g.n _ HRA.out (by omega) (by omega) (by omega)).mono ?_
  rintro e wb ⟨row, hrow, rfl, hrb, hcb, hsb⟩
  have HMB := Lib.hid ((HM.out.same (hcb.sameIn (Nat.le_refl _) (Or.inr (Nat.le_refl _)))).mono (Nat.le_refl _) hcb.size)
  have HRB := Lib.hid hrb
  have HCB := Lib.hid (HCA.out.trans hcb)
  clear hrb hcb HM HRA HCA
  obtain ⟨p, ep⟩ : ∃ p, qa + 1 = p := ⟨_, rfl⟩
  rw [ep] at HRB
  have hp : p ≤ 90000 := by omega
  go_wp2_with fail
  refine (pick_any B p 16 _ HRB.out (by omega) (by omega) (by omega)).mono ?_
  rintro e w1 ⟨x, hx, rfl, hr, hc, hs⟩
  have HMC := Lib.hid ((HMB.out.same (hc.sameIn (Nat.le_refl _) (Or.inr (Nat.le_refl _)))).mono (Nat.le_refl _) hc.size)
  have HR := Lib.hid hr
  have HC := Lib.hid (HCB.out.trans hc)
  have hB1 : B < w1.heap.size := by omega
  have hpq : p + 3 ≤ q + 400 := by omega
  clear hr hc hs HMB HRB HCB ep hsb
  by_cases h0 : x = 0
  · subst h0
    have RN := Lib.hid (show Rdr w1.drew B (p + 1) from HR.out.same (fun _ _ => rfl))
    have CN := Lib.hid (show Chg B (B + 1) w1 w1.drew from (Chg.refl B (B + 1) w1).drewN 1)
    have SN := Lib.hid (show w1.drew.heap.size = w1.heap.size + 0 by show w1.heap.size = _; simp)
    have RA := Lib.hid (show Rdr (w1.alloc (.cells #[.int .i64 (-1), .int .i64 (g.n : Nat), .int .i64 (row : Nat)] 3)).drew B (p + 1) from (HR.out.alC (by omega) (.cells #[.int .i64 (-1), .int .i64 (g.n : Nat), .int .i64 (row : Nat)] 3)).same (fun _ _ => rfl))
    have CA := Lib.hid (show Chg B (B + 1) w1 (w1.alloc (.cells #[.int .i64 (-1), .int .i64 (g.n : Nat), .int .i64 (row : Nat)] 3)).drew from ((Chg.refl B (B + 1) w1).alC (.cells #[.int .i64 (-1), .int .i64 (g.n : Nat), .int .i64 (row : Nat)] 3)).drewN 1)
    have SA := Lib.hid (show (w1.alloc (.cells #[.int .i64 (-1), .int .i64 (g.n : Nat), .int .i64 (row : Nat)] 3)).drew.heap.size = w1.heap.size + 1 by show (w1.alloc (.cells #[.int .i64 (-1), .int .i64 (g.n : Nat), .int .i64 (row : Nat)] 3)).heap.size = _; simp)
    have HAA := Lib.hid (show (w1.alloc (.cells #[.int .i64 (-1), .int .i64 (g.n : Nat), .int .i64 (row : Nat)] 3)).drew.heap[w1.heap.size]? = some (.cells #[.int .i64 (-1), .int .i64 (g.n : Nat), .int .i64 (row : Nat)] 3 (0, 0)) from heap_alloc_new w1 _)
    have RB := Lib.hid (show Rdr (w1.alloc (.cells #[.int .i64 (-1), .int .i64 7] 3)).drew B (p + 1) from (HR.out.alC (by omega) (.cells #[.int .i64 (-1), .int .i64 7] 3)).same (fun _ _ => rfl))
    have CB := Lib.hid (show Chg B (B + 1) w1 (w1.alloc (.cells #[.int .i64 (-1), .int .i64 7] 3)).drew from ((Chg.refl B (B + 1) w1).alC (.cells #[.int .i64 (-1), .int .i64 7] 3)).drewN 1)
    have SB := Lib.hid (show (w1.alloc (.cells #[.int .i64 (-1), .int .i64 7] 3)).drew.heap.size = w1.heap.size + 1 by show (w1.alloc (.cells #[.int .i64 (-1), .int .i64 7] 3)).heap.size = _; simp)
    have HBB := Lib.hid (show (w1.alloc (.cells #[.int .i64 (-1), .int .i64 7] 3)).drew.heap[w1.heap.size]? = some (.cells #[.int .i64 (-1), .int .i64 7] 3 (0, 0)) from heap_alloc_new w1 _)
    have RAB := Lib.hid (show Rdr ((w1.alloc (.cells #[.int .i64 (-1), .int .i64 (g.n : Nat), .int .i64 (row : Nat)] 3)).alloc (.cells #[.int .i64 (-1), .int .i64 7] 3)).drew B (p + 1) from ((HR.out.alC (by omega) (.cells #[.int .i64 (-1), .int .i64 (g.n : Nat), .int .i64 (row : Nat)] 3)).alC (by simp; omega) (.cells #[.int .i64 (-1), .int .i64 7] 3)).same (fun _ _ => rfl))
    have CAB := Lib.hid (show Chg B (B + 1) w1 ((w1.alloc (.cells #[.int .i64 (-1), .int .i64 (g.n : Nat), .int .i64 (row : Nat)] 3)).alloc (.cells #[.int .i64 (-1), .int .i64 7] 3)).drew from (((Chg.refl B (B + 1) w1).alC (.cells #[.int .i64 (-1), .int .i64 (g.n : Nat), .int .i64 (row : Nat)] 3)).alC (.cells #[.int .i64 (-1), .int .i64 7] 3)).drewN 1)
    have SAB := Lib.hid (show ((w1.alloc (.cells #[.int .i64 (-1), .int .i64 (g.n : Nat), .int .i64 (row : Nat)] 3)).alloc (.cells #[.int .i64 (-1), .int .i64 7] 3)).drew.heap.size = w1.heap.size + 2 by show ((w1.alloc (.cells #[.int .i64 (-1), .int .i64 (g.n : Nat), .int .i64 (row : Nat)] 3)).alloc (.cells #[.int .i64 (-1), .int .i64 7] 3)).heap.size = _; simp)
    have HABA := Lib.hid (show ((w1.alloc (.cells #[.int .i64 (-1), .int .i64 (g.n : Nat), .int .i64 (row : Nat)] 3)).alloc (.cells #[.int .i64 (-1), .int .i64 7] 3)).drew.heap[w1.heap.size]? = some (.cells #[.int .i64 (-1), .int .i64 (g.n : Nat), .int .i64 (row : Nat)] 3 (0, 0)) from heap_alloc2_old w1 _ _)
    have HABB := Lib.hid (show ((w1.alloc (.cells #[.int .i64 (-1), .int .i64 (g.n : Nat), .int .i64 (row : Nat)] 3)).alloc (.cells #[.int .i64 (-1), .int .i64 7] 3)).drew.heap[w1.heap.size + 1]? = some (.cells #[.int .i64 (-1), .int .i64 7] 3 (0, 0)) from heap_alloc2_new w1 _ _)
    have RBA := Lib.hid (show Rdr ((w1.alloc (.cells #[.int .i64 (-1), .int .i64 7] 3)).alloc (.cells #[.int .i64 (-1), .int .i64 (g.n : Nat), .int .i64 (row : Nat)] 3)).drew B (p + 1) from ((HR.out.alC (by omega) (.cells #[.int .i64 (-1), .int .i64 7] 3)).alC (by simp; omega) (.cells #[.int .i64 (-1), .int .i64 (g.n : Nat), .int .i64 (row : Nat)] 3)).same (fun _ _ => rfl))
    have CBA := Lib.hid (show Chg B (B + 1) w1 ((w1.alloc (.cells #[.int .i64 (-1), .int .i64 7] 3)).alloc (.cells #[.int .i64 (-1), .int .i64 (g.n : Nat), .int .i64 (row : Nat)] 3)).drew from (((Chg.refl B (B + 1) w1).alC (.cells #[.int .i64 (-1), .int .i64 7] 3)).alC (.cells #[.int .i64 (-1), .int .i64 (g.n : Nat), .int .i64 (row : Nat)] 3)).drewN 1)
    have SBA := Lib.hid (show ((w1.alloc (.cells #[.int .i64 (-1), .int .i64 7] 3)).alloc (.cells #[.int .i64 (-1), .int .i64 (g.n : Nat), .int .i64 (row : Nat)] 3)).drew.heap.size = w1.heap.size + 2 by show ((w1.alloc (.cells #[.int .i64 (-1), .int .i64 7] 3)).alloc (.cells #[.int .i64 (-1), .int .i64 (g.n : Nat), .int .i64 (row : Nat)] 3)).heap.size = _; simp)
    have HBAB := Lib.hid (show ((w1.alloc (.cells #[.int .i64 (-1), .int .i64 7] 3)).alloc (.cells #[.int .i64 (-1), .int .i64 (g.n : Nat), .int .i64 (row : Nat)] 3)).drew.heap[w1.heap.size]? = some (.cells #[.int .i64 (-1), .int .i64 7] 3 (0, 0)) from heap_alloc2_old w1 _ _)
    have HBAA := Lib.hid (show ((w1.alloc (.cells #[.int .i64 (-1), .int .i64 7] 3)).alloc (.cells #[.int .i64 (-1), .int .i64 (g.n : Nat), .int .i64 (row : Nat)] 3)).drew.heap[w1.heap.size + 1]? = some (.cells #[.int .i64 (-1), .int .i64 (g.n : Nat), .int .i64 (row : Nat)] 3 (0, 0)) from heap_alloc2_new w1 _ _)
    go_wp2_with fail
    go_region_law
      (first
        | (go_simp; have hp1 := HP1.out; (refine (pick_any B (p + 1 + 1) 2 _ (by first | exact HR5.out | exact HR5.out.same (fun _ _ => rfl) | exact HR5.out.alC hB5 _ | exact (HR5.out.alC hB5 _).same (fun _ _ => rfl) | exact (HR5.out.alC hB5 _).alC (by simp; omega) _ | exact ((HR5.out.alC hB5 _).alC (by simp; omega) _).same (fun _ _ => rfl)) (by omega) (by omega) (by omega)).mono ?_); rintro e w6 ⟨y, hy, rfl, hr6, hc6, hs6⟩; have hy' : (y : Int) < 2 := (by omega); have HR6 := Lib.hid hr6; have HC6 := Lib.hid (show Chg B (B + 1) w1 w6 from (by first | exact HC5.out.trans hc6 | exact (HC5.out.drewN 1).trans hc6 | exact (HC5.out.alC _).trans hc6 | exact ((HC5.out.alC _).drewN 1).trans hc6 | exact ((HC5.out.alC _).alC _).trans hc6 | exact (((HC5.out.alC _).alC _).drewN 1).trans hc6)); have hw6 : w5.heap.size ≤ w6.heap.size := (by have := hc6.size; first | exact this | (simp at this; omega) | exact Nat.le_trans (by show w5.heap.size ≤ (w5.alloc _).heap.size; simp) this | exact Nat.le_trans (by show w5.heap.size ≤ ((w5.alloc _).alloc _).heap.size; simp; omega) this); have hB6 : B < w6.heap.size := (by omega); (first | (have zA := (show w6.heap[w1.heap.size]? = some (.cells #[.int .i64 (-1), .int .i64 (g.n : Nat), .int .i64 (row : Nat)] 3 (0, 0)) from (hc6.block w1.heap.size (by first | exact GA.out.1 | exact Nat.lt_of_lt_of_le GA.out.1 (by show w5.heap.size ≤ (w5.alloc _).heap.size; simp)) (by omega)).trans (by first | exact GA.out.2 | exact (Below.heap_alloc w5 _ _ GA.out.1).trans GA.out.2)); have qA := Lib.hid zA) | (have zA := (show w6.heap[(w1.heap.size + 1)]? = some (.cells #[.int .i64 (-1), .int .i64 (g.n : Nat), .int .i64 (row : Nat)] 3 (0, 0)) from (hc6.block (w1.heap.size + 1) (by first | exact GA.out.1 | exact Nat.lt_of_lt_of_le GA.out.1 (by show w5.heap.size ≤ (w5.alloc _).heap.size; simp)) (by omega)).trans (by first | exact GA.out.2 | exact (Below.heap_alloc w5 _ _ GA.out.1).trans GA.out.2)); have qA := Lib.hid zA) | (have zA := (show w6.heap[w5.heap.size]? = some (.cells #[.int .i64 (-1), .int .i64 (g.n : Nat), .int .i64 (row : Nat)] 3 (0, 0)) from (hc6.block w5.heap.size (by first | (show w5.heap.size < (w5.alloc _).heap.size; simp) | (show w5.heap.size < ((w5.alloc _).alloc _).heap.size; simp; omega)) (by omega)).trans (by first | exact heap_alloc_new w5 _ | exact heap_alloc2_old w5 _ _))) | (have zA := (show w6.heap[w5.heap.size + 1]? = some (.cells #[.int .i64 (-1), .int .i64 (g.n : Nat), .int .i64 (row : Nat)] 3 (0, 0)) from (hc6.block (w5.heap.size + 1) (by show w5.heap.size + 1 < ((w5.alloc _).alloc _).heap.size; simp) (by omega)).trans (heap_alloc2_new w5 _ _))) | skip); (first | (have mA1 := apc_cell zA hk; have mA2 := (fun o => apc_cell ((Below.heap_alloc w6 o _ (lt_of_block zA)).trans zA) hk); clear zA) | (have mA3 : (w6.alloc (.cells #[.int .i64 (-1), .int .i64 (g.n : Nat), .int .i64 (row : Nat)] 3)).cell? ⟨w6.heap.size, k, none⟩ = some (.int .i64 (Apc g.n row k)) := apc_cell (heap_alloc_new w6 _) hk; have mA4 : ((w6.alloc (.cells #[.int .i64 (-1), .int .i64 (g.n : Nat), .int .i64 (row : Nat)] 3)).alloc (.cells #[.int .i64 (-1), .int .i64 7] 3)).cell? ⟨w6.heap.size, k, none⟩ = some (.int .i64 (Apc g.n row k)) := apc_cell (heap_alloc2_old w6 _ _) hk; have mA5 : ((w6.alloc (.cells #[.int .i64 (-1), .int .i64 7] 3)).alloc (.cells #[.int .i64 (-1), .int .i64 (g.n : Nat), .int .i64 (row : Nat)] 3)).cell? ⟨w6.heap.size + 1, k, none⟩ = some (.int .i64 (Apc g.n row k)) := apc_cell (heap_alloc2_new w6 _ _) hk)); (first | (have zB := (show w6.heap[w1.heap.size]? = some (.cells #[.int .i64 (-1), .int .i64 7] 3 (0, 0)) from (hc6.block w1.heap.size (by first | exact GB.out.1 | exact Nat.lt_of_lt_of_le GB.out.1 (by show w5.heap.size ≤ (w5.alloc _).heap.size; simp)) (by omega)).trans (by first | exact GB.out.2 | exact (Below.heap_alloc w5 _ _ GB.out.1).trans GB.out.2)); have qB := Lib.hid zB) | (have zB := (show w6.heap[(w1.heap.size + 1)]? = some (.cells #[.int .i64 (-1), .int .i64 7] 3 (0, 0)) from (hc6.block (w1.heap.size + 1) (by first | exact GB.out.1 | exact Nat.lt_of_lt_of_le GB.out.1 (by show w5.heap.size ≤ (w5.alloc _).heap.size; simp)) (by omega)).trans (by first | exact GB.out.2 | exact (Below.heap_alloc w5 _ _ GB.out.1).trans GB.out.2)); have qB := Lib.hid zB) | (have zB := (show w6.heap[w5.heap.size]? = some (.cells #[.int .i64 (-1), .int .i64 7] 3 (0, 0)) from (hc6.block w5.heap.size (by first | (show w5.heap.size < (w5.alloc _).heap.size; simp) | (show w5.heap.size < ((w5.alloc _).alloc _).heap.size; simp; omega)) (by omega)).trans (by first | exact heap_alloc_new w5 _ | exact heap_alloc2_old w5 _ _))) | (have zB := (show w6.heap[w5.heap.size + 1]? = some (.cells #[.int .i64 (-1), .int .i64 7] 3 (0, 0)) from (hc6.block (w5.heap.size + 1) (by show w5.heap.size + 1 < ((w5.alloc _).alloc _).heap.size; simp) (by omega)).trans (heap_alloc2_new w5 _ _))) | skip); (first | (have mB1 := bpc_cell zB hy; have mB2 := (fun o => bpc_cell ((Below.heap_alloc w6 o _ (lt_of_block zB)).trans zB) hy); clear zB) | (have mB3 : (w6.alloc (.cells #[.int .i64 (-1), .int .i64 7] 3)).cell? ⟨w6.heap.size, y, none⟩ = some (.int .i64 (Bpc y)) := bpc_cell (heap_alloc_new w6 _) hy; have mB4 : ((w6.alloc (.cells #[.int .i64 (-1), .int .i64 7] 3)).alloc (.cells #[.int .i64 (-1), .int .i64 (g.n : Nat), .int .i64 (row : Nat)] 3)).cell? ⟨w6.heap.size, y, none⟩ = some (.int .i64 (Bpc y)) := bpc_cell (heap_alloc2_old w6 _ _) hy; have mB5 : ((w6.alloc (.cells #[.int .i64 (-1), .int .i64 (g.n : Nat), .int .i64 (row : Nat)] 3)).alloc (.cells #[.int .i64 (-1), .int .i64 7] 3)).cell? ⟨w6.heap.size + 1, y, none⟩ = some (.int .i64 (Bpc y)) := bpc_cell (heap_alloc2_new w6 _ _) hy)); clear hr6 hc6 hs6 hw6 hp1)
        | (go_simp; (refine (pick_any B (p + 1) 3 _ RN.out (by omega) (by omega) (by omega)).mono ?_); rintro e w5 ⟨k, hk, rfl, hr5, hc5, hs5⟩; have HP1 := Lib.hid True.intro; have hk' : (k : Int) < 3 := (by omega); have hz5 : w5.heap.size = w1.heap.size + 0 := hs5.trans SN.out; have hB5 : B < w5.heap.size := (by omega); have HR5 := Lib.hid hr5; have HC5 := Lib.hid (CN.out.trans hc5); have l2 : (w5.alloc (.cells #[.int .i64 (-1), .int .i64 (g.n : Nat), .int .i64 (row : Nat)] 3)).cell? ⟨w5.heap.size, k, none⟩ = some (.int .i64 (Apc g.n row k)) := apc_cell (heap_alloc_new w5 _) hk; have l2b : ((w5.alloc (.cells #[.int .i64 (-1), .int .i64 (g.n : Nat), .int .i64 (row : Nat)] 3)).alloc (.cells #[.int .i64 (-1), .int .i64 7] 3)).cell? ⟨w5.heap.size, k, none⟩ = some (.int .i64 (Apc g.n row k)) := apc_cell (heap_alloc2_old w5 _ _) hk; have l2c : ((w5.alloc (.cells #[.int .i64 (-1), .int .i64 7] 3)).alloc (.cells #[.int .i64 (-1), .int .i64 (g.n : Nat), .int .i64 (row : Nat)] 3)).cell? ⟨w5.heap.size + 1, k, none⟩ = some (.int .i64 (Apc g.n row k)) := apc_cell (heap_alloc2_new w5 _ _) hk; clear hr5 hc5 hs5 hz5)
        | (go_simp; (refine (pick_any B (p + 1) 3 _ RA.out (by omega) (by omega) (by omega)).mono ?_); rintro e w5 ⟨k, hk, rfl, hr5, hc5, hs5⟩; have HP1 := Lib.hid True.intro; have hk' : (k : Int) < 3 := (by omega); have hz5 : w5.heap.size = w1.heap.size + 1 := hs5.trans SA.out; have hB5 : B < w5.heap.size := (by omega); have HR5 := Lib.hid hr5; have HC5 := Lib.hid (CA.out.trans hc5); have GA := Lib.hid (show w1.heap.size < w5.heap.size ∧ w5.heap[w1.heap.size]? = some (.cells #[.int .i64 (-1), .int .i64 (g.n : Nat), .int .i64 (row : Nat)] 3 (0, 0)) from ⟨by omega, (hc5.block _ (by rw [SA.out]; omega) (by omega)).trans HAA.out⟩); have l1 := apc_cell GA.out.2 hk; have l1b : (w5.alloc (.cells #[.int .i64 (-1), .int .i64 7] 3)).cell? ⟨w1.heap.size, k, none⟩ = some (.int .i64 (Apc g.n row k)) := apc_cell ((Below.heap_alloc w5 _ _ GA.out.1).trans GA.out.2) hk; clear hr5 hc5 hs5 hz5)
        | (go_simp; (refine (pick_any B (p + 1) 3 _ RB.out (by omega) (by omega) (by omega)).mono ?_); rintro e w5 ⟨k, hk, rfl, hr5, hc5, hs5⟩; have HP1 := Lib.hid True.intro; have hk' : (k : Int) < 3 := (by omega); have hz5 : w5.heap.size = w1.heap.size + 1 := hs5.trans SB.out; have hB5 : B < w5.heap.size := (by omega); have HR5 := Lib.hid hr5; have HC5 := Lib.hid (CB.out.trans hc5); have GB := Lib.hid (show w1.heap.size < w5.heap.size ∧ w5.heap[w1.heap.size]? = some (.cells #[.int .i64 (-1), .int .i64 7] 3 (0, 0)) from ⟨by omega, (hc5.block _ (by rw [SB.out]; omega) (by omega)).trans HBB.out⟩); have l2 : (w5.alloc (.cells #[.int .i64 (-1), .int .i64 (g.n : Nat), .int .i64 (row : Nat)] 3)).cell? ⟨w5.heap.size, k, none⟩ = some (.int .i64 (Apc g.n row k)) := apc_cell (heap_alloc_new w5 _) hk; clear hr5 hc5 hs5 hz5)
        | (go_simp; (refine (pick_any B (p + 1) 3 _ RAB.out (by omega) (by omega) (by omega)).mono ?_); rintro e w5 ⟨k, hk, rfl, hr5, hc5, hs5⟩; have HP1 := Lib.hid True.intro; have hk' : (k : Int) < 3 := (by omega); have hz5 : w5.heap.size = w1.heap.size + 2 := hs5.trans SAB.out; have hB5 : B < w5.heap.size := (by omega); have HR5 := Lib.hid hr5; have HC5 := Lib.hid (CAB.out.trans hc5); have GA := Lib.hid (show w1.heap.size < w5.heap.size ∧ w5.heap[w1.heap.size]? = some (.cells #[.int .i64 (-1), .int .i64 (g.n : Nat), .int .i64 (row : Nat)] 3 (0, 0)) from ⟨by omega, (hc5.block _ (by rw [SAB.out]; omega) (by omega)).trans HABA.out⟩); have GB := Lib.hid (show w1.heap.size + 1 < w5.heap.size ∧ w5.heap[w1.heap.size + 1]? = some (.cells #[.int .i64 (-1), .int .i64 7] 3 (0, 0)) from ⟨by omega, (hc5.block _ (by rw [SAB.out]; omega) (by omega)).trans HABB.out⟩); have l1 := apc_cell GA.out.2 hk; clear hr5 hc5 hs5 hz5)
        | (go_simp; (refine (pick_any B (p + 1) 3 _ RBA.out (by omega) (by omega) (by omega)).mono ?_); rintro e w5 ⟨k, hk, rfl, hr5, hc5, hs5⟩; have HP1 := Lib.hid True.intro; have hk' : (k : Int) < 3 := (by omega); have hz5 : w5.heap.size = w1.heap.size + 2 := hs5.trans SBA.out; have hB5 : B < w5.heap.size := (by omega); have HR5 := Lib.hid hr5; have HC5 := Lib.hid (CBA.out.trans hc5); have GB := Lib.hid (show w1.heap.size < w5.heap.size ∧ w5.heap[w1.heap.size]? = some (.cells #[.int .i64 (-1), .int .i64 7] 3 (0, 0)) from ⟨by omega, (hc5.block _ (by rw [SBA.out]; omega) (by omega)).trans HBAB.out⟩); have GA := Lib.hid (show w1.heap.size + 1 < w5.heap.size ∧ w5.heap[w1.heap.size + 1]? = some (.cells #[.int .i64 (-1), .int .i64 (g.n : Nat), .int .i64 (row : Nat)] 3 (0, 0)) from ⟨by omega, (hc5.block _ (by rw [SBA.out]; omega) (by omega)).trans HBAA.out⟩); have l1 := apc_cell GA.out.2 hk; clear hr5 hc5 hs5 hz5))
    all_goals go_wp2
    all_goals go_ret3
    all_goals exact CePost.of (q' := p + 1 + 1 + 1) ⟨_, _, _, rfl⟩ HMC.out hn (fun r hr => ⟨(HL.out r hr).1, (HL.out r hr).2.1.1⟩) (by have := apc_range hk hn.2 hrow; omega) (by have := bpc_range hy; omega) (by omega) HC.out ((by first | exact HC6.out | exact HC6.out.drewN _ | exact HC6.out.alC _ | exact (HC6.out.alC _).drewN _ | exact (HC6.out.alC _).alC _ | exact ((HC6.out.alC _).alC _).drewN _)) ((by first | exact HR6.out | exact HR6.out.same (fun _ _ => rfl) | exact HR6.out.alC hB6 _ | exact (HR6.out.alC hB6 _).same (fun _ _ => rfl) | exact (HR6.out.alC hB6 _).alC (by simp; omega) _ | exact ((HR6.out.alC hB6 _).alC (by simp; omega) _).same (fun _ _ => rfl)))
  · have hk0 : ((x : Int) == 0) = false := by rw [beq_eq_false_iff_ne]; omega
    obtain ⟨a0, c0, hd0⟩ := HMC.out.head (by omega) (g.len 0) rfl
    have hl0 := HL.out 0 (by omega)
    have hg0 : (0 : Int) < g.n := by omega
    go_wp2_with fail
    refine (pick_any B (p + 1) (g.len 0) _ HR.out (by omega) (by have := hl0.2.1.1; omega) (by have := hl0.1; omega)).mono ?_
    rintro e w2 ⟨c, hc26, rfl, hr2, hc2, hs2⟩
    have HR2 := Lib.hid hr2
    have HC2 := Lib.hid hc2
    clear hr2 hc2 hd0
    go_wp2
    go_ret3
    exact CePost.of (q' := p + 1 + 1) ⟨_, _, _, rfl⟩ HMC.out hn (fun r hr => ⟨(HL.out r hr).1, (HL.out r hr).2.1.1⟩) (by omega) (by have := hl0.1; omega) (by omega) HC.out HC2.out HR2.out

/-- what a law's draw of a grid and a cell leaves -/
def CfPostG (w : World) (e : Ending) (w' : World) : Prop :=
  ∃ v g, ∃ a b : Int, e = .returned (.tuple #[v, .int .i64 a, .int .i64 b]) ∧ (∃ x l c, v = .slice x l c) ∧ RdM 0 w'.heap.size w' v g ∧ (1 ≤ g.n ∧ g.n ≤ 5) ∧ (∀ r, r < g.n → g.len r ≤ 9) ∧ (-1 ≤ a ∧ a ≤ 7) ∧ (-1 ≤ b ∧ b ≤ 9) ∧ Below w.heap.size w w'

end Go.Proofs.Ytcfeckpbjdipeaa
