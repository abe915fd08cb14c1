/- The program's GridBeside. -/
import Derived.Test.YtbjhaggncpkdhaaSpecH
namespace Go.Proofs.Ytbjhaggncpkdhaa
open Go.RowKit
set_option linter.unusedVariables false

theorem callFunc_beside : ∀ (args : Array Value) (W : World), Sem.run Try.prog (callFunc 58 args) W = .ok (.enter 58 args) W := fun _ _ => by kernel_rfl

set_option maxHeartbeats 1000000 in
set_option maxRecDepth 20000 in
theorem clos_beside_w (R C n gg cap B r c m : Nat) (p1 p2 p3 : Value) (Zm : Int) (W : World) (h0 : W.cell? ⟨B, 0, none⟩ = some (.int .i64 R)) (h1 : W.cell? ⟨B, 1, none⟩ = some (.int .i64 C)) (h2 : W.cell? ⟨B, 2, none⟩ = some (.slice (some ⟨gg, 0, none⟩) n cap))
    (hr : r < R) (hc : c < C) (hR : R ≤ 7) (hC : C ≤ 7) (hm : m = r * C + c) (hmn : m < n) (hn : n ≤ 49) (hcell : W.cell? ⟨gg, m, none⟩ = some (.int .i64 Zm)) :
    Calls Try.prog 58 #[.int .i64 r, .int .i64 c, .pointer (some ⟨B, 0, none⟩), .pointer (some ⟨B + 1, 0, none⟩)] W (IntPost Zm W) := by
  have hmi : (r : Int) * (C : Int) + (c : Int) = (m : Int) := by rw [hm, Int.natCast_add, Int.natCast_mul]
  have hp0 : 0 ≤ (r : Int) * (C : Int) := Int.mul_nonneg (by omega) (by omega)
  have hp1 : (r : Int) * (C : Int) ≤ 1000 := by omega
  have HA := Lib.hid (at_any R C n gg cap Zm (r : Int) (c : Int) m W hmi hp0 hp1 hmn (by omega) hcell)
  have hc' : (c : Int) < C := by omega
  clear hcell hmi hm hp0 hp1
  go_enter Try.func58, Try.ntmps58
  go_wp2_with fail
  refine HA.out.mono ?_
  rintro e w2 ⟨rfl, hb⟩
  go_wp2
  go_ret
  exact ⟨rfl, hb⟩

set_option maxHeartbeats 1000000 in
set_option maxRecDepth 20000 in
theorem clos_beside_e (R C n gg cap B r c m : Nat) (C1 : Nat) (Zm : Int) (W : World) (g1 : W.cell? ⟨B, 1, none⟩ = some (.int .i64 C1)) (h0 : W.cell? ⟨B + 1, 0, none⟩ = some (.int .i64 R)) (h1 : W.cell? ⟨B + 1, 1, none⟩ = some (.int .i64 C)) (h2 : W.cell? ⟨B + 1, 2, none⟩ = some (.slice (some ⟨gg, 0, none⟩) n cap))
    (hr : r < R) (hc1 : C1 ≤ c) (hc : c < C1 + C) (hR : R ≤ 7) (hC : C ≤ 7) (hC1 : C1 ≤ 7) (hm : m = r * C + (c - C1)) (hmn : m < n) (hn : n ≤ 49) (hcell : W.cell? ⟨gg, m, none⟩ = some (.int .i64 Zm)) :
    Calls Try.prog 58 #[.int .i64 r, .int .i64 c, .pointer (some ⟨B, 0, none⟩), .pointer (some ⟨B + 1, 0, none⟩)] W (IntPost Zm W) := by
  have hmi : (r : Int) * (C : Int) + ((c : Int) - C1) = (m : Int) := by
    have e : ((c - C1 : Nat) : Int) = (c : Int) - C1 := by omega
    rw [hm, Int.natCast_add, Int.natCast_mul, e]
  have hp0 : 0 ≤ (r : Int) * (C : Int) := Int.mul_nonneg (by omega) (by omega)
  have hp1 : (r : Int) * (C : Int) ≤ 1000 := by omega
  have HA := Lib.hid (at_any R C n gg cap Zm (r : Int) ((c : Int) - C1) m W hmi hp0 hp1 hmn (by omega) hcell)
  have hc' : ¬ (c : Int) < C1 := by omega
  clear hcell hmi hm hp0 hp1
  go_enter Try.func58, Try.ntmps58
  go_wp2_with fail
  refine HA.out.mono ?_
  rintro e w2 ⟨rfl, hb⟩
  go_wp2
  go_ret
  exact ⟨rfl, hb⟩

/-- the flat numbers of two grids beside each other -/
def bsZ (C1 C2 : Nat) (Z1 Z2 : Nat → Int) (i : Nat) : Int :=
  if i % (C1 + C2) < C1 then Z1 (i / (C1 + C2) * C1 + i % (C1 + C2)) else Z2 (i / (C1 + C2) * C2 + (i % (C1 + C2) - C1))

theorem bsZ_at {C1 C2 : Nat} {Z1 Z2 : Nat → Int} {r c : Nat} (hc : c < C1 + C2) : bsZ C1 C2 Z1 Z2 (r * (C1 + C2) + c) = if c < C1 then Z1 (r * C1 + c) else Z2 (r * C2 + (c - C1)) := by
  have hd := div_at r c (C1 + C2) hc
  simp only [bsZ, hd.1, hd.2]

set_option maxHeartbeats 2000000 in
set_option maxRecDepth 20000 in
theorem beside_any (R C1 n1 gg1 cap1 C2 n2 gg2 cap2 : Nat) (Z1 Z2 : Nat → Int) (w : World) (h : Rv w R C1 n1 gg1 cap1 Z1) (h' : Rv w R C2 n2 gg2 cap2 Z2) (hR : R ≤ 7) (hC1 : C1 ≤ 7) (hC2 : C2 ≤ 7) :
    Calls Try.prog 40 #[.agg #[.int .i64 R, .int .i64 C1, .slice (some ⟨gg1, 0, none⟩) n1 cap1], .agg #[.int .i64 R, .int .i64 C2, .slice (some ⟨gg2, 0, none⟩) n2 cap2]] w (MPost R (C1 + C2) (bsZ C1 C2 Z1 Z2) w) := by
  have hn49 : n1 ≤ 49 := by rw [h.n_eq]; exact mul_le_49 hR hC1
  have hn49' : n2 ≤ 49 := by rw [h'.n_eq]; exact mul_le_49 hR hC2
  obtain ⟨W0, hW0⟩ : ∃ W0, W0 = ((w.alloc (.cells #[.int .i64 R, .int .i64 C1, .slice (some ⟨gg1, 0, none⟩) n1 cap1] 52)).alloc (.cells #[.int .i64 R, .int .i64 C2, .slice (some ⟨gg2, 0, none⟩) n2 cap2] 52)).alloc (.cells #[.int .i64 0, .int .i64 0, .slice none 0 0] 52) := ⟨_, rfl⟩
  have hs0 : W0.heap.size = w.heap.size + 3 := by rw [hW0]; simp
  have hb0 : Below w.heap.size w W0 := by rw [hW0]; exact (((Below.refl _ _).alloc (Nat.le_refl _) _).alloc (by simp) _).alloc (by simp <;> omega) _
  have hbox : W0.heap[w.heap.size]? = some (.cells #[.int .i64 R, .int .i64 C1, .slice (some ⟨gg1, 0, none⟩) n1 cap1] 52 (0, 0)) := by
    rw [hW0, Below.heap_alloc _ _ _ (by simp <;> omega)]; exact heap_alloc2_old _ _ _
  have hbox2 : W0.heap[w.heap.size + 1]? = some (.cells #[.int .i64 R, .int .i64 C2, .slice (some ⟨gg2, 0, none⟩) n2 cap2] 52 (0, 0)) := by
    rw [hW0, Below.heap_alloc _ _ _ (by simp)]; exact heap_alloc2_new _ _ _
  have hres : W0.heap[w.heap.size + 1 + 1]? = some (.cells #[.int .i64 0, .int .i64 0, .slice none 0 0] 52 (0, 0)) := by rw [hW0]; exact heap_alloc3_new _ _ _ _
  have h0 := h.keep hb0 (Nat.le_refl _)
  have h0' := h'.keep hb0 (Nat.le_refl _)
  have hcon := newRelief_any R (C1 + C2) 58 #[.pointer (some ⟨w.heap.size, 0, none⟩), .pointer (some ⟨w.heap.size + 1, 0, none⟩)] (bsZ C1 C2 Z1 Z2) W0 (by omega) (by omega) callFunc_beside (fun r c W hr hc hbel => by
    obtain ⟨k0, k1, k2, _, _, _⟩ := cells3 ((hbel.block _ (by omega)).trans hbox)
    obtain ⟨l0, l1, l2, _, _, _⟩ := cells3 ((hbel.block _ (by omega)).trans hbox2)
    have hv := h0.keep hbel (Nat.le_refl _)
    have hv' := h0'.keep hbel (Nat.le_refl _)
    rw [bsZ_at hc]
    by_cases hcc : c < C1
    · have hlt : r * C1 + c < n1 := cell_lt h0.n_eq hr hcc
      have key := clos_beside_w R C1 n1 gg1 cap1 w.heap.size r c (r * C1 + c) undef undef undef (Z1 (r * C1 + c)) W k0 k1 k2 hr hcc hR hC1 rfl hlt hn49 (hv.cell _ hlt)
      rw [if_pos hcc]
      exact key
    · have hlt : r * C2 + (c - C1) < n2 := cell_lt h0'.n_eq hr (by omega)
      have key := clos_beside_e R C2 n2 gg2 cap2 w.heap.size r c (r * C2 + (c - C1)) C1 (Z2 (r * C2 + (c - C1))) W k1 l0 l1 l2 hr (by omega) hc hR hC2 hC1 rfl hlt hn49' (hv'.cell _ hlt)
      rw [if_neg hcc]
      exact key)
  have HC := Lib.hid hcon
  have HRES := Lib.hid hres
  have HB0 := Lib.hid hb0
  have HS0 := Lib.hid hs0
  have hcast : (C1 : Int) + C2 = ((C1 + C2 : Nat) : Int) := by omega
  have HCAST := Lib.hid hcast
  rw [hW0] at HC
  clear hcon h0 h0' hbox hbox2 hres hb0 hs0 h h' hcast
  go_enter Try.func40, Try.ntmps40
  go_wp2_with fail
  rw [HCAST.out]
  refine HC.out.mono ?_
  rintro e w2 ⟨n', gg', cap', xs, hn', rfl, hown, hval, hb2⟩
  have hb3 : Below W0.heap.size W0 w2 := by rw [hW0]; exact hb2
  have hown' := hown
  rw [← hW0] at hown'
  have R3 := (hb3.block (w.heap.size + 1 + 1) (by have := HS0.out; omega)).trans HRES.out
  obtain ⟨r0, r1, r2, g0, g1, g2⟩ := cells3 R3
  have hlo := (hown'.lt gg' rfl).1
  generalize hcc : C1 + C2 = CC at *
  have HCC := Lib.hid hcc
  have hE := three_set w2 (w.heap.size + 1 + 1) _ _ _ (.int .i64 R) (.int .i64 CC) (.slice (some ⟨gg', 0, none⟩) n' cap') R3
  have O1 := own3 hown' (x := w.heap.size + 1 + 1) (by have := HS0.out; omega) (.int .i64 R) (.int .i64 CC) (.slice (some ⟨gg', 0, none⟩) n' cap')
  have B1 := below3 (HB0.out.trans (hb3.mono HB0.out.size)) (x := w.heap.size + 1 + 1) (by omega) (.int .i64 R) (.int .i64 CC) (.slice (some ⟨gg', 0, none⟩) n' cap')
  have HRV := Lib.hid (Rv.of_own O1 hn' hval)
  have HE := Lib.hid hE
  have HB1 := Lib.hid B1
  clear hE R3 O1 B1 hown hown' hval hb2 hb3 hn' hW0 hcc
  go_wp2
  exact bodyPost_ret (results_cell_row rfl _ _ (w.heap.size + 1 + 1) _ #[.int .i64 R, .int .i64 CC, .slice (some ⟨gg', 0, none⟩) n' cap'] _ _ rfl HE.out Try.underlying52 rfl Try.sizeRel) rfl ⟨n', gg', cap', rfl, HRV.out, HB1.out⟩

theorem beside_two (R R2 C1 n1 gg1 cap1 C2 n2 gg2 cap2 : Nat) (Z1 Z2 : Nat → Int) (w : World) (hRR : R = R2) (h : Rv w R C1 n1 gg1 cap1 Z1) (h' : Rv w R2 C2 n2 gg2 cap2 Z2) (hR : R ≤ 7) (hC1 : C1 ≤ 7) (hC2 : C2 ≤ 7) :
    Calls Try.prog 40 #[.agg #[.int .i64 R, .int .i64 C1, .slice (some ⟨gg1, 0, none⟩) n1 cap1], .agg #[.int .i64 R2, .int .i64 C2, .slice (some ⟨gg2, 0, none⟩) n2 cap2]] w (MPost R (C1 + C2) (bsZ C1 C2 Z1 Z2) w) := by
  subst hRR
  exact beside_any R C1 n1 gg1 cap1 C2 n2 gg2 cap2 Z1 Z2 w h h' hR hC1 hC2

def BgPost (a b : G) (w : World) (e : Ending) (w' : World) : Prop := (BesideOk a b → GPost true (besideG a b) w e w') ∧ (¬ BesideOk a b → GPost false G0 w e w')

end Go.Proofs.Ytbjhaggncpkdhaa
