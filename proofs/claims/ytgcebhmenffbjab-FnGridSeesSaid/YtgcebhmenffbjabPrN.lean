/- GridSees of the program. -/
import Derived.Test.YtgcebhmenffbjabPrH
import Derived.BigRegion
import Derived.BigQuiet
import Derived.Deep.RegionHeld3
namespace Go.Proofs.Ytgcebhmenffbjab
open Go.RowKit
set_option linter.unusedVariables false

set_option maxHeartbeats 4000000 in
set_option maxRecDepth 20000 in
theorem implGridSees_any (v : Value) (lo hi : Nat) (g : G) (w : World) (hv : RdM lo hi w v g) (hh : hi ≤ w.heap.size) :
    Calls Try.prog 47 #[v] w (IntPost g.gsV w) := by
  by_cases h : g.Valid
  case neg =>
    have HC := Lib.hid (reliefOf_no v lo hi g w hv hh h)
    have HA := Lib.hid (G.gsV_no h)
    clear hv h
    go_enter Try.func47, Try.ntmps47
    go_wp2_with fail
    refine HC.out.mono ?_
    rintro e w1 ⟨rfl, hb1⟩
    have HB1 := Lib.hid (hb1.alloc hb1.size (.cells #[.int .i64 0, .int .i64 0, .slice none 0 0] 77))
    clear hb1
    go_wp2
    go_ret
    exact ⟨by rw [HA.out]; rfl, HB1.out⟩
  case pos =>
    have HC := Lib.hid (reliefOf_yes v lo hi g w hv hh h)
    have hn7 := h.1.2
    have hn1 := h.1.1
    have hl7 := h.2.1.2
    have hl1 := h.2.1.1
    obtain ⟨P1, eP1⟩ : ∃ P, pirN (g.len 0) g.flat g.n = P := ⟨_, rfl⟩
    obtain ⟨Zt, eZt⟩ : ∃ P, (fun i => g.flat ((g.n - 1 - i % g.n) * g.len 0 + i / g.n)) = P := ⟨_, rfl⟩
    obtain ⟨P2, eP2⟩ : ∃ P, pirN g.n Zt (g.len 0) = P := ⟨_, rfl⟩
    have HA := Lib.hid (show g.gsV = (P1 : Int) + P2 by
      have hP1 : (grN g.z (g.len 0) g.n : Int) = (P1 : Int) := by rw [← eP1, pirN_is (f := g.z) g.n (fun r hr c hc => G.flat_at g r c hc)]
      have hP2 : (grN (turnG g).z g.n (g.len 0) : Int) = (P2 : Int) := by rw [← eP2, pirN_is (f := (turnG g).z) (g.len 0) (fun r hr c hc => by rw [← eZt]; exact z_turned hr hc)]
      rw [G.gsV_yes h, hP1, hP2])
    have HZT := Lib.hid (show ∀ i, i < g.len 0 * g.n → 0 ≤ Zt i ∧ Zt i ≤ 99 from fun i hi => by
      rw [← eZt]
      have hc := Nat.mod_lt i (show 0 < g.n by omega)
      have hr : i / g.n < g.len 0 := Nat.div_lt_of_lt_mul (by rw [Nat.mul_comm]; exact hi)
      exact flat_okR h (cell_lt rfl (by omega) hr))
    have h1 := pirN_le (g.len 0) hl7 g.flat g.n
    have h2 := pirN_le g.n hn7 Zt (g.len 0)
    rw [eP1] at h1
    rw [eP2] at h2
    have hP1 : P1 ≤ 343 := by omega
    have hP2 : P2 ≤ 343 := by omega
    have HPC := Lib.hid (fun (U : World) (n gg cap : Nat) (hr : Rv U g.n (g.len 0) n gg cap g.flat) => show Calls Try.prog 82 #[.agg #[.int .i64 g.n, .int .i64 (g.len 0), .slice (some ⟨gg, 0, none⟩) n cap]] U (IntPost P1 U) from by
      rw [← eP1]; exact pairsInRows_any g.n (g.len 0) n gg cap g.flat U hr hn7 hl7 hl1 (fun i hi => flat_okR h hi))
    have HTC := Lib.hid (fun (U : World) (n gg cap : Nat) (hr : Rv U g.n (g.len 0) n gg cap g.flat) => show Calls Try.prog 83 #[.agg #[.int .i64 g.n, .int .i64 (g.len 0), .slice (some ⟨gg, 0, none⟩) n cap]] U (MPost (g.len 0) g.n Zt U) from by
      rw [← eZt]; exact turned_any g.n (g.len 0) n gg cap g.flat U hr hn7 hl7 (fun i hi => flat_okR h (by rw [← hr.n_eq]; exact hi)))
    have HQC := Lib.hid (fun (U : World) (n gg cap : Nat) (hr : Rv U (g.len 0) g.n n gg cap Zt) => show Calls Try.prog 82 #[.agg #[.int .i64 (g.len 0), .int .i64 g.n, .slice (some ⟨gg, 0, none⟩) n cap]] U (IntPost P2 U) from by
      rw [← eP2]; exact pairsInRows_any (g.len 0) g.n n gg cap Zt U hr hl7 hn7 hn1 (fun i hi => HZT.out i hi))
    have hwp : IntKind.i64.wrap ((P1 : Int) + P2) = (P1 : Int) + P2 := IntWalk.i64_in _ (by omega)
    clear hv h eP1 eP2 eZt h1 h2
    go_enter Try.func47, Try.ntmps47
    go_wp2_with fail
    refine HC.out.mono ?_
    intro e w1 hq
    obtain ⟨n, gg, cap, rfl, hrv, hb1⟩ := hq.rv
    have hba := (Below.refl w1.heap.size w1).alloc (Nat.le_refl _) (.cells #[.int .i64 g.n, .int .i64 (g.len 0), .slice (some ⟨gg, 0, none⟩) n cap] 77)
    have HB1 := Lib.hid (hb1.alloc hb1.size (.cells #[.int .i64 g.n, .int .i64 (g.len 0), .slice (some ⟨gg, 0, none⟩) n cap] 77))
    have HRV := Lib.hid (hrv.keep hba (Nat.le_refl _))
    have hbox := heap_alloc_new w1 (.cells #[.int .i64 g.n, .int .i64 (g.len 0), .slice (some ⟨gg, 0, none⟩) n cap] 77)
    obtain ⟨d0, d1, d2, _, _, _⟩ := cells3 hbox
    have hs1 : (w1.alloc (.cells #[.int .i64 g.n, .int .i64 (g.len 0), .slice (some ⟨gg, 0, none⟩) n cap] 77)).heap.size = w1.heap.size + 1 := by simp
    have HRV1 := Lib.hid (fun (U : World) (hU : Below (w1.alloc (.cells #[.int .i64 g.n, .int .i64 (g.len 0), .slice (some ⟨gg, 0, none⟩) n cap] 77)).heap.size (w1.alloc (.cells #[.int .i64 g.n, .int .i64 (g.len 0), .slice (some ⟨gg, 0, none⟩) n cap] 77)) U) => HRV.out.keep hU (Nat.le_refl _))
    have HI := Lib.hid (show (w1.alloc (.cells #[.int .i64 g.n, .int .i64 (g.len 0), .slice (some ⟨gg, 0, none⟩) n cap] 77)).drew.cell? ⟨w1.heap.size, 0, none⟩ = some (.int .i64 g.n) ∧ (w1.alloc (.cells #[.int .i64 g.n, .int .i64 (g.len 0), .slice (some ⟨gg, 0, none⟩) n cap] 77)).drew.cell? ⟨w1.heap.size, 1, none⟩ = some (.int .i64 (g.len 0)) ∧ (w1.alloc (.cells #[.int .i64 g.n, .int .i64 (g.len 0), .slice (some ⟨gg, 0, none⟩) n cap] 77)).drew.cell? ⟨w1.heap.size, 2, none⟩ = some (.slice (some ⟨gg, 0, none⟩) n cap) from ⟨d0, d1, d2⟩)
    have HKP := Lib.hid (fun (U V : World) (h : Below U.heap.size U V) (hs : w1.heap.size + 1 ≤ U.heap.size) (k : U.cell? ⟨w1.heap.size, 0, none⟩ = some (.int .i64 g.n) ∧ U.cell? ⟨w1.heap.size, 1, none⟩ = some (.int .i64 (g.len 0)) ∧ U.cell? ⟨w1.heap.size, 2, none⟩ = some (.slice (some ⟨gg, 0, none⟩) n cap)) => (show V.cell? ⟨w1.heap.size, 0, none⟩ = some (.int .i64 g.n) ∧ V.cell? ⟨w1.heap.size, 1, none⟩ = some (.int .i64 (g.len 0)) ∧ V.cell? ⟨w1.heap.size, 2, none⟩ = some (.slice (some ⟨gg, 0, none⟩) n cap) from
      ⟨(h.cell (p := ⟨w1.heap.size, 0, none⟩) (by show w1.heap.size < _; omega)).trans k.1, (h.cell (p := ⟨w1.heap.size, 1, none⟩) (by show w1.heap.size < _; omega)).trans k.2.1, (h.cell (p := ⟨w1.heap.size, 2, none⟩) (by show w1.heap.size < _; omega)).trans k.2.2⟩))
    clear hq hrv hb1 hba hbox
    go_wp2_with fail
    go_region_held3 (fun w' => w'.cell? ⟨w1.heap.size, 0, none⟩ = some (.int .i64 g.n) ∧ w'.cell? ⟨w1.heap.size, 1, none⟩ = some (.int .i64 (g.len 0)) ∧ w'.cell? ⟨w1.heap.size, 2, none⟩ = some (.slice (some ⟨gg, 0, none⟩) n cap))
      (first | exact HI.out | exact s4 | exact s5 | exact s6)
      (first
        | (have hgo := HRT.out; go_at_call 82; refine (HQC.out _ _ _ _ HRT.out).mono ?_; rintro e w4 ⟨rfl, hb4⟩; have s6 := HKP.out _ w4 hb4 (by omega) s5; have HB4 := Lib.hid (HB3.out.trans (hb4.mono (by omega))); clear hb4)
        | (go_at_call 83; refine (HTC.out _ _ _ _ (HRV1.out _ HB2.out)).mono ?_; rintro e w3 ⟨n2, gg2, cap2, rfl, hrv3, hb3⟩; have hs3 := hb3.size; have s5 := HKP.out _ w3 hb3 (by omega) s4; have HB3 := Lib.hid (HB2.out.trans (hb3.mono (by omega))); have HRT := Lib.hid hrv3; clear hb3 hrv3)
        | (go_at_call 82; refine (HPC.out _ _ _ _ (HRV1.out _ (Below.refl _ _).drew)).mono ?_; rintro e w2 ⟨rfl, hb1⟩; have hb2 := hb1.undrew; have hs2 := hb2.size; have s4 := HKP.out _ w2 hb2 (by omega) ⟨d0, d1, d2⟩; have HB2 := Lib.hid hb2; clear hb1 hb2))
    all_goals go_wp2
    all_goals go_ret
    all_goals exact ⟨by rw [HA.out]; rfl, HB1.out.trans (HB4.out.mono HB1.out.size)⟩

end Go.Proofs.Ytgcebhmenffbjab
