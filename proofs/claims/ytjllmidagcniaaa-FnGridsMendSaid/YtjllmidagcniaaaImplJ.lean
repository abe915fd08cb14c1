/- The program's GridBeside. -/
import Derived.Test.YtjllmidagcniaaaSpecH
namespace Go.Proofs.Ytjllmidagcniaaa
open Go.RowKit
set_option linter.unusedVariables false

theorem callFunc_beside : ∀ (args : Array Value) (W : World), Sem.run Try.prog (callFunc 90 args) W = .ok (.enter 90 args) W := fun _ _ => by kernel_rfl

set_option maxHeartbeats 1000000 in
set_option maxRecDepth 20000 in
theorem clos_beside_w (R C n gg cap B r c m : Nat) (p1 p2 p3 : Value) (Zm : Int) (W : World) (h0 : W.cell? ⟨B, 0, none⟩ = some (.int .i64 R)) (h1 : W.cell? ⟨B, 1, none⟩ = some (.int .i64 C)) (h2 : W.cell? ⟨B, 2, none⟩ = some (.slice (some ⟨gg, 0, none⟩) n cap))
    (hr : r < R) (hc : c < C) (hR : R ≤ 7) (hC : C ≤ 7) (hm : m = r * C + c) (hmn : m < n) (hn : n ≤ 49) (hcell : W.cell? ⟨gg, m, none⟩ = some (.int .i64 Zm)) :
    Calls Try.prog 90 #[.int .i64 r, .int .i64 c, .pointer (some ⟨B, 0, none⟩), .pointer (some ⟨B + 1, 0, none⟩)] W (IntPost Zm W) := by
  have hmi : (r : Int) * (C : Int) + (c : Int) = (m : Int) := by rw [hm, Int.natCast_add, Int.natCast_mul]
  have hp0 : 0 ≤ (r : Int) * (C : Int) := Int.mul_nonneg (by omega) (by omega)
  have hp1 : (r : Int) * (C : Int) ≤ 1000 := by omega
  have HA := Lib.hid (at_any R C n gg cap Zm (r : Int) (c : Int) m W hmi hp0 hp1 hmn (by omega) hcell)
  have hc' : (c : Int) < C := by omega
  clear hcell hmi hm hp0 hp1
  go_enter Try.func90, Try.ntmps90
  go_wp2_with fail
  refine HA.out.mono ?_
  rintro e w2 ⟨rfl, hb⟩
  go_wp2
  go_ret
  exact ⟨rfl, hb⟩

set_option maxHeartbeats 1000000 in
set_option maxRecDepth 20000 in
theorem clos_beside_e (R C n gg cap B r c m : Nat) (C1 : Nat) (Zm : Int) (W : World) (g1 : W.cell? ⟨B, 1, none⟩ = some (.int .i64 C1)) (h0 : W.cell? ⟨B + 1, 0, none⟩ = some (.int .i64 R)) (h1 : W.cell? ⟨B + 1, 1, none⟩ = some (.int .i64 C)) (h2 : W.cell? ⟨B + 1, 2, none⟩ = some (.slice (some ⟨gg, 0, none⟩) n cap))
    (hr : r < R) (hc1 : C1 ≤ c) (hc : c < C1 + C) (hR : R ≤ 7) (hC : C ≤ 7) (hC1 : C1 ≤ 7) (hm : m = r * C + (c - C1)) (hmn : m < n) (hn : n ≤ 49) (hcell : W.cell? ⟨gg, m, none⟩ = some (.int .i64 Zm)) :
    Calls Try.prog 90 #[.int .i64 r, .int .i64 c, .pointer (some ⟨B, 0, none⟩), .pointer (some ⟨B + 1, 0, none⟩)] W (IntPost Zm W) := by
  have hmi : (r : Int) * (C : Int) + ((c : Int) - C1) = (m : Int) := by
    have e : ((c - C1 : Nat) : Int) = (c : Int) - C1 := by omega
    rw [hm, Int.natCast_add, Int.natCast_mul, e]
  have hp0 : 0 ≤ (r : Int) * (C : Int) := Int.mul_nonneg (by omega) (by omega)
  have hp1 : (r : Int) * (C : Int) ≤ 1000 := by omega
  have HA := Lib.hid (at_any R C n gg cap Zm (r : Int) ((c : Int) - C1) m W hmi hp0 hp1 hmn (by omega) hcell)
  have hc' : ¬ (c : Int) < C1 := by omega
  clear hcell hmi hm hp0 hp1
  go_enter Try.func90, Try.ntmps90
  go_wp2_with fail
  refine HA.out.mono ?_
  rintro e w2 ⟨rfl, hb⟩
  go_wp2
  go_ret
  exact ⟨rfl, hb⟩

/-- the flat numbers of two grids beside each other -/
def bsZ (C1 C2 : Nat) (Z1 Z2 : Nat → Int) (i : Nat) : Int :=
  if i % (C1 + C2) < C1 then Z1 (i / (C1 + C2) * C1 + i % (C1 + C2)) else Z2 (i / (C1 + C2) * C2 + (i % (C1 + C2) - C1))

theorem bsZ_at {C1 C2 : Nat} {Z1 Z2 : Nat → Int} {r c : Nat} (hc : c < C1 + C2) : bsZ C1 C2 Z1 Z2 (r * (C1 + C2) + c) = if c < C1 then Z1 (r * C1 + c) else Z2 (r * C2 + (c - C1)) := by
  have hd := div_at r c (C1 + C2) hc
  simp only [bsZ, hd.1, hd.2]

set_option maxHeartbeats 2000000 in
set_option maxRecDepth 20000 in
theorem beside_any (R C1 n1 gg1 cap1 C2 n2 gg2 cap2 : Nat) (Z1 Z2 : Nat → Int) (w : World) (h : Rv w R C1 n1 gg1 cap1 Z1) (h' : Rv w R C2 n2 gg2 cap2 Z2) (hR : R ≤ 7) (hC1 : C1 ≤ 7) (hC2 : C2 ≤ 7) :
    Calls Try.prog 60 #[.agg #[.int .i64 R, .int .i64 C1, .slice (some ⟨gg1, 0, none⟩) n1 cap1], .agg #[.int .i64 R, .int .i64 C2, .slice (some ⟨gg2, 0, none⟩) n2 cap2]] w (MPost R (C1 + C2) (bsZ C1 C2 Z1 Z2) w) := by
  have hn49 : n1 ≤ 49 := by rw [h.n_eq]; exact mul_le_49 hR hC1
  have hn49' : n2 ≤ 49 := by rw [h'.n_eq]; exact mul_le_49 hR hC2
  obtain ⟨W0, hW0⟩ : ∃ W0, W0 = ((w.alloc (.cells #[.int .i64 R, .int .i64 C1, .slice (some ⟨gg1, 0, none⟩) n1 cap1] 58)).alloc (.cells #[.int .i64 R, .int .i64 C2, .slice (some ⟨gg2, 0, none⟩) n2 cap2] 58)).alloc (.cells #[.int .i64 0, .int .i64 0, .slice none 0 0] 58) := ⟨_, rfl⟩
  have hs0 : W0.heap.size = w.heap.size + 3 := by rw [hW0]; simp
  have hb0 : Below w.heap.size w W0 := by rw [hW0]; exact (((Below.refl _ _).alloc (Nat.le_refl _) _).alloc (by simp) _).alloc (by simp <;> omega) _
  have hbox : W0.heap[w.heap.size]? = some (.cells #[.int .i64 R, .int .i64 C1, .slice (some ⟨gg1, 0, none⟩) n1 cap1] 58 (0, 0)) := by
    rw [hW0, Below.heap_alloc _ _ _ (by simp <;> omega)]; exact heap_alloc2_old _ _ _
  have hbox2 : W0.heap[w.heap.size + 1]? = some (.cells #[.int .i64 R, .int .i64 C2, .slice (some ⟨gg2, 0, none⟩) n2 cap2] 58 (0, 0)) := by
    rw [hW0, Below.heap_alloc _ _ _ (by simp)]; exact heap_alloc2_new _ _ _
  have hres : W0.heap[w.heap.size + 1 + 1]? = some (.cells #[.int .i64 0, .int .i64 0, .slice none 0 0] 58 (0, 0)) := by rw [hW0]; exact heap_alloc3_new _ _ _ _
  have h0 := h.keep hb0 (Nat.le_refl _)
  have h0' := h'.keep hb0 (Nat.le_refl _)
  have hcon := newRelief_any R (C1 + C2) 90 #[.pointer (some ⟨w.heap.size, 0, none⟩), .pointer (some ⟨w.heap.size + 1, 0, none⟩)] (bsZ C1 C2 Z1 Z2) W0 (by omega) (by omega) callFunc_beside (fun r c W hr hc hbel => by
    obtain ⟨k0, k1, k2, _, _, _⟩ := cells3 ((hbel.block _ (by omega)).trans hbox)
    obtain ⟨l0, l1, l2, _, _, _⟩ := cells3 ((hbel.block _ (by omega)).trans hbox2)
    have hv := h0.keep hbel (Nat.le_refl _)
    have hv' := h0'.keep hbel (Nat.le_refl _)
    rw [bsZ_at hc]
    by_cases hcc : c < C1
    · have hlt : r * C1 + c < n1 := cell_lt h0.n_eq hr hcc
      have key := clos_beside_w R C1 n1 gg1 cap1 w.heap.size r c (r * C1 + c) undef undef undef (Z1 (r * C1 + c)) W k0 k1 k2 hr hcc hR hC1 rfl hlt hn49 (hv.cell _ hlt)
      rw [if_pos hcc]
      exact key
    · have hlt : r * C2 + (c - C1) < n2 := cell_lt h0'.n_eq hr (by omega)
      have key := clos_beside_e R C2 n2 gg2 cap2 w.heap.size r c (r * C2 + (c - C1)) C1 (Z2 (r * C2 + (c - C1))) W k1 l0 l1 l2 hr (by omega) hc hR hC2 hC1 rfl hlt hn49' (hv'.cell _ hlt)
      rw [if_neg hcc]
      exact key)
  have HC := Lib.hid hcon
  have HRES := Lib.hid hres
  have HB0 := Lib.hid hb0
  have HS0 := Lib.hid hs0
  have hcast : (C1 : Int) + C2 = ((C1 + C2 : Nat) : Int) := by omega
  have HCAST := Lib.hid hcast
  rw [hW0] at HC
  clear hcon h0 h0' hbox hbox2 hres hb0 hs0 h h' hcast
  go_enter Try.func60, Try.ntmps60
  go_wp2_with fail
  rw [HCAST.out]
  refine HC.out.mono ?_
  rintro e w2 ⟨n', gg', cap', xs, hn', rfl, hown, hval, hb2⟩
  have hb3 : Below W0.heap.size W0 w2 := by rw [hW0]; exact hb2
  have hown' := hown
  rw [← hW0] at hown'
  have R3 := (hb3.block (w.heap.size + 1 + 1) (by have := HS0.out; omega)).trans HRES.out
  obtain ⟨r0, r1, r2, g0, g1, g2⟩ := cells3 R3
  have hlo := (hown'.lt gg' rfl).1
  generalize hcc : C1 + C2 = CC at *
  have HCC := Lib.hid hcc
  have hE := three_set w2 (w.heap.size + 1 + 1) _ _ _ (.int .i64 R) (.int .i64 CC) (.slice (some ⟨gg', 0, none⟩) n' cap') R3
  have O1 := own3 hown' (x := w.heap.size + 1 + 1) (by have := HS0.out; omega) (.int .i64 R) (.int .i64 CC) (.slice (some ⟨gg', 0, none⟩) n' cap')
  have B1 := below3 (HB0.out.trans (hb3.mono HB0.out.size)) (x := w.heap.size + 1 + 1) (by omega) (.int .i64 R) (.int .i64 CC) (.slice (some ⟨gg', 0, none⟩) n' cap')
  have HRV := Lib.hid (Rv.of_own O1 hn' hval)
  have HE := Lib.hid hE
  have HB1 := Lib.hid B1
  clear hE R3 O1 B1 hown hown' hval hb2 hb3 hn' hW0 hcc
  go_wp2
  exact bodyPost_ret (results_cell_row rfl _ _ (w.heap.size + 1 + 1) _ #[.int .i64 R, .int .i64 CC, .slice (some ⟨gg', 0, none⟩) n' cap'] _ _ rfl HE.out Try.underlying58 rfl Try.sizeRel) rfl ⟨n', gg', cap', rfl, HRV.out, HB1.out⟩

theorem beside_two (R R2 C1 n1 gg1 cap1 C2 n2 gg2 cap2 : Nat) (Z1 Z2 : Nat → Int) (w : World) (hRR : R = R2) (h : Rv w R C1 n1 gg1 cap1 Z1) (h' : Rv w R2 C2 n2 gg2 cap2 Z2) (hR : R ≤ 7) (hC1 : C1 ≤ 7) (hC2 : C2 ≤ 7) :
    Calls Try.prog 60 #[.agg #[.int .i64 R, .int .i64 C1, .slice (some ⟨gg1, 0, none⟩) n1 cap1], .agg #[.int .i64 R2, .int .i64 C2, .slice (some ⟨gg2, 0, none⟩) n2 cap2]] w (MPost R (C1 + C2) (bsZ C1 C2 Z1 Z2) w) := by
  subst hRR
  exact beside_any R C1 n1 gg1 cap1 C2 n2 gg2 cap2 Z1 Z2 w h h' hR hC1 hC2

def BgPost (a b : G) (w : World) (e : Ending) (w' : World) : Prop := (BesideOk a b → GPost true (besideG a b) w e w') ∧ (¬ BesideOk a b → GPost false G0 w e w')

set_option maxHeartbeats 4000000 in
set_option maxRecDepth 20000 in
theorem implGridBeside_any (v u : Value) (lo hi : Nat) (a b : G) (w : World) (hv : RdM lo hi w v a) (hu : RdM lo hi w u b) (hh : hi ≤ w.heap.size) :
    Calls Try.prog 39 #[v, u] w (BgPost a b w) := by
  by_cases ha : a.Valid
  case neg =>
    have HC := Lib.hid (reliefOf_no v lo hi a w hv hh ha)
    have HNO := Lib.hid (show ¬ BesideOk a b from fun h => ha h.1)
    by_cases hb : b.Valid
    case neg =>
      have HD := Lib.hid (fun (W : World) (hB : Below w.heap.size w W) => reliefOf_no u lo hi b W (hu.same (SameIn.below hB hh)) (Nat.le_trans hh hB.size) hb)
      clear hv hu ha hb
      go_enter Try.func39, Try.ntmps39
      go_wp2_with fail
      refine HC.out.mono ?_
      rintro e w1 ⟨rfl, hb1⟩
      have HB1 := Lib.hid (hb1.alloc hb1.size (.cells #[.int .i64 0, .int .i64 0, .slice none 0 0] 58))
      clear hb1
      go_wp2_with fail
      refine (HD.out _ HB1.out).mono ?_
      rintro e w2 ⟨rfl, hb2⟩
      have HB2 := Lib.hid ((HB1.out.trans (hb2.mono HB1.out.size)).alloc (HB1.out.trans (hb2.mono HB1.out.size)).size (.cells #[.int .i64 0, .int .i64 0, .slice none 0 0] 58))
      clear hb2
      go_wp2
      go_ret2
      exact ⟨fun h => absurd h HNO.out, fun _ => ⟨_, rfl, ⟨_, _, _, rfl⟩, OwM.none _ _ _, HB2.out⟩⟩
    case pos =>
      have HD := Lib.hid (fun (W : World) (hB : Below w.heap.size w W) => reliefOf_yes u lo hi b W (hu.same (SameIn.below hB hh)) (Nat.le_trans hh hB.size) hb)
      clear hv hu ha hb
      go_enter Try.func39, Try.ntmps39
      go_wp2_with fail
      refine HC.out.mono ?_
      rintro e w1 ⟨rfl, hb1⟩
      have HB1 := Lib.hid (hb1.alloc hb1.size (.cells #[.int .i64 0, .int .i64 0, .slice none 0 0] 58))
      clear hb1
      go_wp2_with fail
      refine (HD.out _ HB1.out).mono ?_
      intro e w2 hq
      obtain ⟨n2, gg2, cap2, rfl, hrv2, hb2⟩ := hq.rv
      have HB2 := Lib.hid ((HB1.out.trans (hb2.mono HB1.out.size)).alloc (HB1.out.trans (hb2.mono HB1.out.size)).size (.cells #[.int .i64 b.n, .int .i64 (b.len 0), .slice (some ⟨gg2, 0, none⟩) n2 cap2] 58))
      clear hq hrv2 hb2
      go_wp2
      go_ret2
      exact ⟨fun h => absurd h HNO.out, fun _ => ⟨_, rfl, ⟨_, _, _, rfl⟩, OwM.none _ _ _, HB2.out⟩⟩
  case pos =>
    have HC := Lib.hid (reliefOf_yes v lo hi a w hv hh ha)
    by_cases hb : b.Valid
    case neg =>
      have HD := Lib.hid (fun (W : World) (hB : Below w.heap.size w W) => reliefOf_no u lo hi b W (hu.same (SameIn.below hB hh)) (Nat.le_trans hh hB.size) hb)
      have HNO := Lib.hid (show ¬ BesideOk a b from fun h => hb h.2.1)
      clear hv hu ha hb
      go_enter Try.func39, Try.ntmps39
      go_wp2_with fail
      refine HC.out.mono ?_
      intro e w1 hq
      obtain ⟨n1, gg1, cap1, rfl, hrv1, hb1⟩ := hq.rv
      have HB1 := Lib.hid (hb1.alloc hb1.size (.cells #[.int .i64 a.n, .int .i64 (a.len 0), .slice (some ⟨gg1, 0, none⟩) n1 cap1] 58))
      clear hq hrv1 hb1
      go_wp2_with fail
      refine (HD.out _ HB1.out).mono ?_
      rintro e w2 ⟨rfl, hb2⟩
      have HB2 := Lib.hid ((HB1.out.trans (hb2.mono HB1.out.size)).alloc (HB1.out.trans (hb2.mono HB1.out.size)).size (.cells #[.int .i64 0, .int .i64 0, .slice none 0 0] 58))
      clear hb2
      go_wp2
      go_ret2
      exact ⟨fun h => absurd h HNO.out, fun _ => ⟨_, rfl, ⟨_, _, _, rfl⟩, OwM.none _ _ _, HB2.out⟩⟩
    case pos =>
      have HD := Lib.hid (fun (W : World) (hB : Below w.heap.size w W) => reliefOf_yes u lo hi b W (hu.same (SameIn.below hB hh)) (Nat.le_trans hh hB.size) hb)
      have HA := Lib.hid ha
      have HBV := Lib.hid hb
      clear hv hu ha hb
      by_cases hn : a.n = b.n
      case neg =>
        have HNO := Lib.hid (show ¬ BesideOk a b from fun h => hn h.2.2.1)
        have hx : ((a.n : Int) != b.n) = true := by rw [bne_iff_ne]; omega
        clear hn
        go_enter Try.func39, Try.ntmps39
        go_wp2_with fail
        refine HC.out.mono ?_
        intro e w1 hq
        obtain ⟨n1, gg1, cap1, rfl, hrv1, hb1⟩ := hq.rv
        have HL1 := Lib.hid (heap_alloc_new w1 (.cells #[.int .i64 a.n, .int .i64 (a.len 0), .slice (some ⟨gg1, 0, none⟩) n1 cap1] 58))
        have HB1 := Lib.hid (hb1.alloc hb1.size (.cells #[.int .i64 a.n, .int .i64 (a.len 0), .slice (some ⟨gg1, 0, none⟩) n1 cap1] 58))
        clear hq hrv1 hb1
        go_wp2_with fail
        refine (HD.out _ HB1.out).mono ?_
        intro e w2 hq
        obtain ⟨n2, gg2, cap2, rfl, hrv2, hb2⟩ := hq.rv
        have hL := (hb2.block w1.heap.size (by simp)).trans HL1.out
        have hlt : w1.heap.size < w2.heap.size := lt_of_block hL
        obtain ⟨k0, k1, k2, _, _, _⟩ := cells3 ((Below.heap_alloc w2 (.cells #[.int .i64 b.n, .int .i64 (b.len 0), .slice (some ⟨gg2, 0, none⟩) n2 cap2] 58) w1.heap.size hlt).trans hL)
        have HB2 := Lib.hid ((HB1.out.trans (hb2.mono HB1.out.size)).alloc (HB1.out.trans (hb2.mono HB1.out.size)).size (.cells #[.int .i64 b.n, .int .i64 (b.len 0), .slice (some ⟨gg2, 0, none⟩) n2 cap2] 58))
        clear hq hrv2 hb2 hL
        go_wp2
        go_ret2
        exact ⟨fun h => absurd h HNO.out, fun _ => ⟨_, rfl, ⟨_, _, _, rfl⟩, OwM.none _ _ _, HB2.out⟩⟩
      case pos =>
        have HN := Lib.hid hn
        have hx : ((a.n : Int) != b.n) = false := by rw [hn]; simp
        clear hn
        go_enter Try.func39, Try.ntmps39
        go_wp2_with fail
        refine HC.out.mono ?_
        intro e w1 hq
        obtain ⟨n1, gg1, cap1, rfl, hrv1, hb1⟩ := hq.rv
        have HL1 := Lib.hid (heap_alloc_new w1 (.cells #[.int .i64 a.n, .int .i64 (a.len 0), .slice (some ⟨gg1, 0, none⟩) n1 cap1] 58))
        have HB1 := Lib.hid (hb1.alloc hb1.size (.cells #[.int .i64 a.n, .int .i64 (a.len 0), .slice (some ⟨gg1, 0, none⟩) n1 cap1] 58))
        have HRV1 := Lib.hid (hrv1.keep ((Below.refl w1.heap.size w1).alloc (Nat.le_refl _) (.cells #[.int .i64 a.n, .int .i64 (a.len 0), .slice (some ⟨gg1, 0, none⟩) n1 cap1] 58)) (Nat.le_refl _))
        clear hq hrv1 hb1
        go_wp2_with fail
        refine (HD.out _ HB1.out).mono ?_
        intro e w2 hq
        obtain ⟨n2, gg2, cap2, rfl, hrv2, hb2⟩ := hq.rv
        have hL := (hb2.block w1.heap.size (by simp)).trans HL1.out
        have hlt : w1.heap.size < w2.heap.size := lt_of_block hL
        obtain ⟨k0, k1, k2, _, _, _⟩ := cells3 ((Below.heap_alloc w2 (.cells #[.int .i64 b.n, .int .i64 (b.len 0), .slice (some ⟨gg2, 0, none⟩) n2 cap2] 58) w1.heap.size hlt).trans hL)
        have HB2 := Lib.hid ((HB1.out.trans (hb2.mono HB1.out.size)).alloc (HB1.out.trans (hb2.mono HB1.out.size)).size (.cells #[.int .i64 b.n, .int .i64 (b.len 0), .slice (some ⟨gg2, 0, none⟩) n2 cap2] 58))
        have hba := ((Below.refl w2.heap.size w2).alloc (Nat.le_refl _) (.cells #[.int .i64 b.n, .int .i64 (b.len 0), .slice (some ⟨gg2, 0, none⟩) n2 cap2] 58))
        have hrv1b := (HRV1.out.keep hb2 (Nat.le_refl _)).keep hba (Nat.le_refl _)
        have hrv2b := hrv2.keep hba (Nat.le_refl _)
        have HM := Lib.hid (beside_two a.n b.n (a.len 0) n1 gg1 cap1 (b.len 0) n2 gg2 cap2 a.flat b.flat _ HN.out hrv1b hrv2b HA.out.1.2 HA.out.2.1.2 HBV.out.2.1.2)
        clear hq hrv2 hb2 hL hba hrv1b hrv2b
        go_wp2_with fail
        refine HM.out.mono ?_
        rintro e w3 ⟨n3, gg3, cap3, rfl, hrv3, hb3⟩
        have HB3 := Lib.hid (HB2.out.trans (hb3.mono HB2.out.size))
        have HRV := Lib.hid hrv3
        have hz : ∀ r, r < a.n → ∀ c, c < a.len 0 + b.len 0 → bsZ (a.len 0) (b.len 0) a.flat b.flat (r * (a.len 0 + b.len 0) + c) = (besideG a b).z r c := fun r hr c hc => by
          rw [bsZ_at hc]
          simp only [besideG]
          by_cases hcc : c < a.len 0
          · rw [if_pos hcc, if_pos hcc, a.flat_at r c hcc]
          · rw [if_neg hcc, if_neg hcc, b.flat_at r _ (by omega)]
        have HZ := Lib.hid hz
        clear hrv3 hb3 hz
        by_cases hval : a.len 0 + b.len 0 ≤ 7
        · have HOK := Lib.hid (show BesideOk a b from ⟨HA.out, HBV.out, HN.out, hval⟩)
          have hbv := (beside_valid HA.out HBV.out HN.out).2 hval
          have HG := Lib.hid (grid_yes a.n (a.len 0 + b.len 0) n3 gg3 cap3 _ w3 HRV.out (relOk_of HRV.out.n_eq HA.out.1 (by have := HA.out.2.1; omega) (fun r hr c hc => by
            rw [HZ.out r hr c hc]
            exact (hbv.2.2 r hr).2 c hc)))
          clear hval hbv
          go_wp2_with fail
          refine HG.out.mono ?_
          rintro e w4 ⟨v4, rfl, ⟨aa, l, c, rfl⟩, ho, hb4⟩
          have HP : Hid (GPost true (besideG a b) w (.returned (.tuple #[.slice aa l c, .bool true])) w4) := GPost.up ⟨_, rfl, ⟨_, _, _, rfl⟩, ho, hb4⟩ HB3.out ⟨rfl, fun r hr => ⟨rfl, fun c hc => HZ.out r hr c hc⟩⟩
          clear ho hb4
          go_wp2
          go_ret2
          exact ⟨fun _ => HP.out, fun h => absurd HOK.out h⟩
        · have HOK := Lib.hid (show ¬ BesideOk a b from fun h => hval h.2.2.2)
          have HG := Lib.hid (grid_no a.n (a.len 0 + b.len 0) n3 gg3 cap3 _ w3 HRV.out (fun hok => hval hok.2.1.2) (by
            rw [HRV.out.n_eq]
            have h1 := HA.out.1.2; have h2 := HA.out.2.1.2; have h3 := HBV.out.2.1.2
            have := Nat.mul_le_mul h1 (show a.len 0 + b.len 0 ≤ 14 by omega)
            omega) (by have := HA.out.1; omega) (by have := HA.out.2.1; have := HBV.out.2.1; omega))
          clear hval
          go_wp2_with fail
          refine HG.out.mono ?_
          rintro e w4 ⟨v4, rfl, ⟨aa, l, c, rfl⟩, ho, hb4⟩
          have HP : Hid (GPost false G0 w (.returned (.tuple #[.slice aa l c, .bool false])) w4) := GPost.up ⟨_, rfl, ⟨_, _, _, rfl⟩, ho, hb4⟩ HB3.out (G.Eqv.refl _)
          clear ho hb4
          go_wp2
          go_ret2
          exact ⟨fun h => absurd h HOK.out, fun _ => HP.out⟩

end Go.Proofs.Ytjllmidagcniaaa
