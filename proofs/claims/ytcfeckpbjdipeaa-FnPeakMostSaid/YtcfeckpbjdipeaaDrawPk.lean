/- The draws of peaks and of pairs of cells. -/
import Derived.Test.YtcfeckpbjdipeaaDrawCe
import Derived.Test.YtcfeckpbjdipeaaDrawV
import Derived.Test.YtcfeckpbjdipeaaDrH
import Derived.Test.YtcfeckpbjdipeaaPqZ
import Derived.Test.YtcfeckpbjdipeaaKeZ
import Derived.BigQuiet
namespace Go.Proofs.Ytcfeckpbjdipeaa
open Go.RowKit
set_option linter.unusedVariables false

theorem prod_range {a : Int} {m : Nat} (ha : -1 ≤ a ∧ a ≤ 7) (hm : m ≤ 9) : -9 ≤ a * (m : Int) ∧ a * (m : Int) ≤ 63 := by
  have h1 := Int.mul_le_mul_of_nonneg_right ha.2 (show (0 : Int) ≤ m by omega)
  have h2 := Int.mul_le_mul_of_nonneg_right ha.1 (show (0 : Int) ≤ m by omega)
  omega

/-- a grid and the index of a cell are drawn -/
def PiPost (B q : Nat) (w : World) (e : Ending) (w' : World) : Prop :=
  ∃ v g, ∃ i : Int, ∃ q', e = .returned (.tuple #[v, .int .i64 i]) ∧ (∃ x l c, v = .slice x l c) ∧ RdM (B + 1) w'.heap.size w' v g ∧ (1 ≤ g.n ∧ g.n ≤ 5) ∧ (∀ r, r < g.n → g.len r ≤ 9 ∧ 1 ≤ g.len r) ∧ (-100 ≤ i ∧ i ≤ 100) ∧ q' ≤ q + 410 ∧ Rdr w' B q' ∧ Chg B (B + 1) w w'

set_option maxHeartbeats 4000000 in
set_option maxRecDepth 100000 in
theorem index_draw (B q : Nat) (w : World) (h : Rdr w B q) (hBw : B < w.heap.size) (hq : q ≤ 1000) : Calls Try.prog 91 #[.pointer (some ⟨B, 0, none⟩)] w (PiPost B q w) := by
  have HP := Lib.hid (cell_any B q w h hBw hq)
  clear h
  go_enter Try.func91, Try.ntmps91
  go_wp2_with fail
  refine HP.out.mono ?_
  rintro e w1 ⟨v, g, a, b, q', rfl, ⟨a1, l1, c1, rfl⟩, hm, hn, hl, ha, hb, hq', hr, hc⟩
  obtain ⟨bg, og, cg, ev⟩ := hm.shape (by omega)
  simp only [Value.slice.injEq] at ev
  obtain ⟨rfl, rfl, rfl⟩ := ev
  obtain ⟨a0, c0, hd0⟩ := hm.head (by omega) (g.len 0) rfl
  have hl0 := hl 0 (by omega)
  have HM := Lib.hid hm
  have HL := Lib.hid hl
  have HR := Lib.hid hr
  have HC := Lib.hid hc
  have hg0 : (0 : Int) < g.n := by omega
  have hg0' : 0 < g.n := by omega
  have hpr := prod_range ha hl0.1
  obtain ⟨P, hP⟩ : ∃ P, a * (g.len 0 : Int) = P := ⟨_, rfl⟩
  rw [hP] at hpr
  have hs1 : w.heap.size ≤ w1.heap.size := hc.size
  clear hm hl hr hc HP
  go_wp2
  go_quiet (fail)
  go_wp2
  go_ret2
  exact ⟨_, g, _, q', rfl, ⟨_, _, _, rfl⟩, HM.out.same (fun _ _ _ => rfl), hn, HL.out, by omega, by omega, HR.out.same (fun _ _ => rfl), HC.out.drewN _⟩

set_option maxHeartbeats 8000000 in
set_option maxRecDepth 100000 in
theorem peak_draw (B q : Nat) (w : World) (h : Rdr w B q) (hBw : B < w.heap.size) (hq : q ≤ 1000) : Calls Try.prog 51 #[.pointer (some ⟨B, 0, none⟩)] w (PiPost B (q + 2) w) := by
  have HP := Lib.hid (index_draw B q w h hBw hq)
  clear h
  go_enter Try.func51, Try.ntmps51
  go_wp2_with fail
  refine HP.out.mono ?_
  rintro e w2 ⟨v, g, i, q', rfl, ⟨a1, l1, c1, rfl⟩, hm, hn, hl, hi, hq', hr2, hc⟩
  have HM := Lib.hid hm
  have HL := Lib.hid hl
  have HC := Lib.hid hc
  have HR2 := Lib.hid hr2
  have hs2 : w.heap.size ≤ w2.heap.size := hc.size
  clear hm hl hc hr2 HP
  go_wp2_with fail
  refine (specPeakList_any _ _ _ g w2 HM.out (Nat.le_refl _)).mono ?_
  rintro e w3 ⟨vs, rfl, hli, hb3⟩
  obtain ⟨a_s, c_s, rfl⟩ := hli.shape
  have hM : g.n * g.len 0 ≤ 49 := by
    have h1 := (HL.out 0 (by omega)).1
    have h2 : g.n * g.len 0 ≤ 5 * 9 := Nat.mul_le_mul hn.2 h1
    omega
  have HLI := Lib.hid (hli.rdI hM)
  have hL49 := g.rkV_len
  have HM3 := Lib.hid (HM.out.same (SameIn.below hb3 (Nat.le_refl _)))
  have HR3 := Lib.hid (HR2.out.same (fun k hk => hb3.block k (by omega)))
  have HC3 := Lib.hid (HC.out.trans (hb3.chg B (B + 1)))
  have hs3 := hb3.size
  clear hli hb3
  obtain ⟨L, eL⟩ : ∃ L, g.rkV = L := ⟨_, rfl⟩
  rw [eL] at HLI hL49 ⊢
  clear eL
  obtain ⟨M, eM⟩ : ∃ M, L.length = M := ⟨_, rfl⟩
  rw [eM] at HLI hL49 ⊢
  clear eM
  by_cases h0 : M = 0
  · subst h0
    clear HLI
    go_wp2
    go_ret2
    exact ⟨_, g, _, q', rfl, ⟨_, _, _, rfl⟩, HM3.out.mono (Nat.le_refl _) (by omega), hn, HL.out, hi, by omega, HR3.out, HC3.out⟩
  · have hg0 : (0 : Int) < (M : Int) := by omega
    have hL1 : 0 < M := by omega
    clear h0
    go_wp2_with fail
    refine (pick_any B q' 5 _ HR3.out (by omega) (by omega) (by omega)).mono ?_
    rintro e w4 ⟨x, hx, rfl, hr4, hc4, hs4⟩
    have HM4 := Lib.hid (HM3.out.same (hc4.sameIn (by omega) (Or.inr (Nat.le_refl _))))
    have HLI4 := Lib.hid (HLI.out.same (hc4.sameIn (by omega) (Or.inr (by omega))))
    have HC4 := Lib.hid (HC3.out.trans hc4)
    have HR4 := Lib.hid hr4
    have hs4' : w3.heap.size ≤ w4.heap.size := by omega
    clear hr4 hc4 hs4
    by_cases x0 : x = 0
    · subst x0
      go_wp2
      go_ret2
      exact ⟨_, g, _, q' + 1, rfl, ⟨_, _, _, rfl⟩, HM4.out.mono (Nat.le_refl _) (by omega), hn, HL.out, hi, by omega, HR4.out, HC4.out⟩
    · have hx0 : (0 : Int) < (x : Int) := by omega
      have hx1 : 0 < x := by omega
      clear x0
      obtain ⟨ao2, cp, b, of2, e1, i2, i3, i4, i5, i6⟩ := HLI4.out
      simp only [Value.slice.injEq] at e1
      obtain ⟨rfl, _, rfl⟩ := e1
      obtain ⟨rfl, hb1, hb2⟩ := i5 hL1
      have I4 := Lib.hid (show ∀ j, j < M → 0 ≤ ixZ L j ∧ ixZ L j ≤ 49 from fun j hj => by
        have := i4 j hj
        unfold ixZ
        cases hq : L[j]? with
        | none => simp
        | some y => simp; have := y.2; omega)
      have I6 := Lib.hid i6
      clear i4 i5 i6
      have HS0 := Lib.hid (show ∀ j, j < M → w4.drew.cell? ⟨b, of2 + j, none⟩ = some (.int .i64 (ixZ L j)) from fun j hj => I6.out j hj)
      go_wp2_with fail
      go_region_held3 (fun w' => ∀ j, j < M → w'.cell? ⟨b, of2 + j, none⟩ = some (.int .i64 (ixZ L j))) (first | with_reducible exact HS0.out | with_reducible exact s0 | go_keep | exact s0)
        ((go_at_call 74; refine (pick_any B (q' + 1) M w4.drew (HR4.out.same (fun _ _ => rfl)) (by omega) (by omega) (by omega)).mono ?_; rintro e w5 ⟨y, hy, rfl, hr5, hc5, hs5⟩; have hc5' : Chg B (B + 1) w4 w5 := ((((Below.refl w4.heap.size w4).chg B (B + 1)).drewN 1).trans hc5); have s0 : ∀ j, j < M → w5.cell? ⟨b, of2 + j, none⟩ = some (.int .i64 (ixZ L j)) := fun j hj => chg_cell hc5' (show B + 1 ≤ b by omega) (show b < w4.heap.size by omega) (I6.out j hj); have HC5 := Lib.hid hc5'; have HR5 := Lib.hid hr5; have hy' : (y : Int) < M := (by omega); have hy2 := I4.out y hy; clear hr5 hc5 hs5 hc5'))
      all_goals go_wp2
      all_goals go_ret2
      all_goals exact ⟨_, g, _, q' + 2, rfl, ⟨_, _, _, rfl⟩, (RdM.same HM4.out (HC5.out.sameIn (by omega) (Or.inr (Nat.le_refl _)))).mono (Nat.le_refl _) (by have := HC5.out.size; omega), hn, HL.out, by omega, by omega, HR5.out, HC4.out.trans HC5.out⟩

/-- what a law's draw of a grid and an index leaves -/
def PjPost (w : World) (e : Ending) (w' : World) : Prop :=
  ∃ v g, ∃ i : Int, e = .returned (.tuple #[v, .int .i64 i]) ∧ (∃ x l c, v = .slice x l c) ∧ RdM 0 w'.heap.size w' v g ∧ (1 ≤ g.n ∧ g.n ≤ 5) ∧ (∀ r, r < g.n → g.len r ≤ 9) ∧ (-100 ≤ i ∧ i ≤ 100) ∧ Below w.heap.size w w'

set_option maxHeartbeats 1000000 in
set_option maxRecDepth 100000 in
theorem draw_DrawPeakIs (v : Value) (n hi : Nat) (w : World) (hv : RdB hi w v n) (hh : hi ≤ w.heap.size) :
    Calls Try.prog 12 #[v] w (PjPost w) := by
  have HO := Lib.hid (open_any v n hi w hv hh)
  obtain ⟨ao, cap, cb, off, Z, rfl, _⟩ := hv
  go_enter Try.func12, Try.ntmps12
  go_wp2_with fail
  refine HO.out.mono ?_
  rintro e w1 ⟨rfl, hr, hb, hs⟩
  have HB := Lib.hid hb
  have HR := Lib.hid hr
  clear hb hr
  go_wp2_with fail
  refine (peak_draw w.heap.size 0 w1 HR.out (by omega) (by omega)).mono ?_
  rintro e w2 ⟨v, g, i, q', rfl, ⟨a1, l1, c1, rfl⟩, hm, hn, hl, hi, _, _, hc⟩
  have HM := Lib.hid hm
  have HL := Lib.hid (fun r hr => (hl r hr).1)
  have HC := Lib.hid hc
  clear hm hl hc
  go_wp2
  go_ret2
  exact ⟨_, g, _, rfl, ⟨_, _, _, rfl⟩, HM.out.mono (Nat.zero_le _) (Nat.le_refl _), hn, HL.out, hi, chg_below HB.out HC.out⟩

set_option maxHeartbeats 1000000 in
set_option maxRecDepth 100000 in
theorem draw_DrawPeakKey (v : Value) (n hi : Nat) (w : World) (hv : RdB hi w v n) (hh : hi ≤ w.heap.size) :
    Calls Try.prog 25 #[v] w (PjPost w) := by
  have HO := Lib.hid (open_any v n hi w hv hh)
  obtain ⟨ao, cap, cb, off, Z, rfl, _⟩ := hv
  go_enter Try.func25, Try.ntmps25
  go_wp2_with fail
  refine HO.out.mono ?_
  rintro e w1 ⟨rfl, hr, hb, hs⟩
  have HB := Lib.hid hb
  have HR := Lib.hid hr
  clear hb hr
  go_wp2_with fail
  refine (peak_draw w.heap.size 0 w1 HR.out (by omega) (by omega)).mono ?_
  rintro e w2 ⟨v, g, i, q', rfl, ⟨a1, l1, c1, rfl⟩, hm, hn, hl, hi, _, _, hc⟩
  have HM := Lib.hid hm
  have HL := Lib.hid (fun r hr => (hl r hr).1)
  have HC := Lib.hid hc
  clear hm hl hc
  go_wp2
  go_ret2
  exact ⟨_, g, _, rfl, ⟨_, _, _, rfl⟩, HM.out.mono (Nat.zero_le _) (Nat.le_refl _), hn, HL.out, hi, chg_below HB.out HC.out⟩

set_option maxHeartbeats 1000000 in
set_option maxRecDepth 100000 in
theorem draw_DrawPeakProminence (v : Value) (n hi : Nat) (w : World) (hv : RdB hi w v n) (hh : hi ≤ w.heap.size) :
    Calls Try.prog 29 #[v] w (PjPost w) := by
  have HO := Lib.hid (open_any v n hi w hv hh)
  obtain ⟨ao, cap, cb, off, Z, rfl, _⟩ := hv
  go_enter Try.func29, Try.ntmps29
  go_wp2_with fail
  refine HO.out.mono ?_
  rintro e w1 ⟨rfl, hr, hb, hs⟩
  have HB := Lib.hid hb
  have HR := Lib.hid hr
  clear hb hr
  go_wp2_with fail
  refine (peak_draw w.heap.size 0 w1 HR.out (by omega) (by omega)).mono ?_
  rintro e w2 ⟨v, g, i, q', rfl, ⟨a1, l1, c1, rfl⟩, hm, hn, hl, hi, _, _, hc⟩
  have HM := Lib.hid hm
  have HL := Lib.hid (fun r hr => (hl r hr).1)
  have HC := Lib.hid hc
  clear hm hl hc
  go_wp2
  go_ret2
  exact ⟨_, g, _, rfl, ⟨_, _, _, rfl⟩, HM.out.mono (Nat.zero_le _) (Nat.le_refl _), hn, HL.out, hi, chg_below HB.out HC.out⟩

/-- a grid and two indexes are drawn -/
def PtPost (B q : Nat) (w : World) (e : Ending) (w' : World) : Prop :=
  ∃ v g, ∃ i j : Int, ∃ q', e = .returned (.tuple #[v, .int .i64 i, .int .i64 j]) ∧ (∃ x l c, v = .slice x l c) ∧ RdM (B + 1) w'.heap.size w' v g ∧ (1 ≤ g.n ∧ g.n ≤ 5) ∧ (∀ r, r < g.n → g.len r ≤ 9) ∧ (-100 ≤ i ∧ i ≤ 100) ∧ (-100 ≤ j ∧ j ≤ 100) ∧ q' ≤ q + 420 ∧ Rdr w' B q' ∧ Chg B (B + 1) w w'
def Lv2 (i : Nat) : Int := [-1, 49].getD i 0
theorem lv2_cell {w : World} {b y : Nat} {t : TypeId} (h : w.heap[b]? = some (.cells #[.int .i64 (-1), .int .i64 49] t (0, 0))) (hy : y < 2) : w.cell? ⟨b, y, none⟩ = some (.int .i64 (Lv2 y)) := by
  have : y = 0 ∨ y = 1 := by omega
  rcases this with rfl | rfl <;> simp [World.cell?, h, Lv2]
theorem lv2_range (y : Nat) (hy : y < 2) : -100 ≤ Lv2 y ∧ Lv2 y ≤ 100 := by
  have : y = 0 ∨ y = 1 := by omega
  rcases this with rfl | rfl <;> simp [Lv2]

set_option maxHeartbeats 8000000 in
set_option maxRecDepth 100000 in
theorem pair_draw (B q : Nat) (w : World) (h : Rdr w B q) (hBw : B < w.heap.size) (hq : q ≤ 1000) : Calls Try.prog 61 #[.pointer (some ⟨B, 0, none⟩)] w (PtPost B q w) := by
  have HP := Lib.hid (index_draw B q w h hBw hq)
  clear h
  go_enter Try.func61, Try.ntmps61
  go_wp2_with fail
  refine HP.out.mono ?_
  rintro e w2 ⟨v, g, i, q', rfl, ⟨a1, l1, c1, rfl⟩, hm, hn, hl, hi, hq', hr2, hc⟩
  obtain ⟨bg, og, cg, ev⟩ := hm.shape (by omega)
  simp only [Value.slice.injEq] at ev
  obtain ⟨rfl, rfl, rfl⟩ := ev
  have HM := Lib.hid hm
  have hl0 := hl 0 (by omega)
  have HL := Lib.hid (fun r hr => (hl r hr).1)
  have HC := Lib.hid hc
  have HR2 := Lib.hid hr2
  have hs2 : w.heap.size ≤ w2.heap.size := hc.size
  clear hm hl hc hr2 HP
  go_wp2_with fail
  refine (pick_any B q' 16 _ HR2.out (by omega) (by omega) (by omega)).mono ?_
  rintro e w3 ⟨x, hx, rfl, hr3, hc3, hs3⟩
  have HM3 := Lib.hid (HM.out.same (hc3.sameIn (Nat.le_refl _) (Or.inr (Nat.le_refl _))))
  have HC3 := Lib.hid (HC.out.trans hc3)
  have HR3 := Lib.hid hr3
  have hs3' : w2.heap.size ≤ w3.heap.size := by omega
  clear hr3 hc3 hs3
  by_cases x0 : x = 0
  · subst x0
    have RA := Lib.hid (show Rdr (w3.alloc (.cells #[.int .i64 (-1), .int .i64 49] 3)).drew B (q' + 1) from HR3.out.same (fun k hk => Below.heap_alloc w3 _ k (by omega)))
    have RB := Lib.hid (show Rdr w3.drew B (q' + 1) from HR3.out.same (fun _ _ => rfl))
    have HLA := Lib.hid (show Chg B (B + 1) w3 (w3.alloc (.cells #[.int .i64 (-1), .int .i64 49] 3)).drew from (((Below.refl _ w3).alloc (Nat.le_refl _) _).chg B (B + 1)).drewN 1)
    have FA := Lib.hid (fun (w5 : World) (hc : Chg B (B + 1) (w3.alloc (.cells #[.int .i64 (-1), .int .i64 49] 3)).drew w5) (y : Nat) (hy : y < 2) =>
      lv2_cell ((hc.block w3.heap.size (by show w3.heap.size < (w3.alloc (.cells #[.int .i64 (-1), .int .i64 49] 3)).heap.size; simp) (by omega)).trans (heap_alloc_new w3 (.cells #[.int .i64 (-1), .int .i64 49] 3))) hy)
    go_wp2_with fail
    go_region_law
      (first
        | (go_simp; (refine (pick_any B (q' + 1) 2 _ RA.out (by omega) (by omega) (by omega)).mono ?_); rintro e w5 ⟨y, hy, rfl, hr5, hc5, hs5⟩; have l1 := FA.out w5 hc5 y hy; have hy' : (y : Int) < 2 := (by omega); have HC5 := Lib.hid (HLA.out.trans hc5); have HR5 := Lib.hid hr5; clear hr5 hc5 hs5)
        | (go_simp; (refine (pick_any B (q' + 1) 2 _ RB.out (by omega) (by omega) (by omega)).mono ?_); rintro e w5 ⟨y, hy, rfl, hr5, hc5, hs5⟩; have l2 : ∀ t, (w5.alloc (.cells #[.int .i64 (-1), .int .i64 49] t)).cell? ⟨w5.heap.size, y, none⟩ = some (.int .i64 (Lv2 y)) := fun t => lv2_cell (heap_alloc_new w5 _) hy; have hy' : (y : Int) < 2 := (by omega); have HC5 := Lib.hid ((((Below.refl w3.heap.size w3).chg B (B + 1)).drewN 1).trans hc5); have HR5 := Lib.hid hr5; clear hr5 hc5 hs5))
    all_goals go_wp2
    all_goals go_ret3
    all_goals first
      | exact ⟨_, g, _, _, _, rfl, ⟨_, _, _, rfl⟩, (RdM.same HM3.out (HC5.out.sameIn (by omega) (Or.inr (Nat.le_refl _)))).mono (Nat.le_refl _) (by have := HC5.out.size; omega), hn, HL.out, hi, lv2_range y hy, by omega, HR5.out, HC3.out.trans HC5.out⟩
      | exact ⟨_, g, _, _, _, rfl, ⟨_, _, _, rfl⟩, ((RdM.same HM3.out (HC5.out.sameIn (by omega) (Or.inr (Nat.le_refl _)))).same (SameIn.below ((Below.refl w5.heap.size w5).alloc (Nat.le_refl _) _) (by have := HC5.out.size; omega))).mono (Nat.le_refl _) (by have := HC5.out.size; simp; omega), hn, HL.out, hi, lv2_range y hy, by omega, HR5.out.same (fun k hk => Below.heap_alloc w5 _ k (by have := HC5.out.size; omega)), (HC3.out.trans HC5.out).trans (((Below.refl _ w5).alloc (Nat.le_refl _) _).chg _ _)⟩
  · have e0 : ((x : Int) == 0) = false := by rw [beq_eq_false_iff_ne]; omega
    obtain ⟨a0, c0, hd0⟩ := HM3.out.head (by omega) (g.len 0) rfl
    have hg0 : (0 : Int) < g.n := by omega
    have hg0' : 0 < g.n := by omega
    have hpr : g.n * g.len 0 ≤ 5 * 9 := Nat.mul_le_mul hn.2 hl0.1
    have hpp : 0 < g.n * g.len 0 := Nat.mul_pos (by omega) (by omega)
    have hP : (g.n : Int) * (g.len 0 : Int) = ((g.n * g.len 0 : Nat) : Int) := (Int.natCast_mul _ _).symm
    obtain ⟨P, eP⟩ : ∃ P, g.n * g.len 0 = P := ⟨_, rfl⟩
    rw [eP] at hP hpr hpp
    clear eP
    go_wp2_with fail
    refine (pick_any B (q' + 1) P _ HR3.out (by omega) (by omega) (by omega)).mono ?_
    rintro e w4 ⟨y, hy, rfl, hr4, hc4, hs4⟩
    have HR4 := Lib.hid hr4
    have HC4 := Lib.hid hc4
    clear hr4 hc4 hs4
    go_wp2
    go_ret3
    exact ⟨_, g, _, _, q' + 1 + 1, rfl, ⟨_, _, _, rfl⟩, (HM3.out.same (HC4.out.sameIn (by omega) (Or.inr (Nat.le_refl _)))).mono (Nat.le_refl _) (by have := HC4.out.size; omega), hn, HL.out, hi, by omega, by omega, HR4.out, HC3.out.trans HC4.out⟩

/-- what a law's draw of a grid and two indexes leaves -/
def PuPost (w : World) (e : Ending) (w' : World) : Prop :=
  ∃ v g, ∃ i j : Int, e = .returned (.tuple #[v, .int .i64 i, .int .i64 j]) ∧ (∃ x l c, v = .slice x l c) ∧ RdM 0 w'.heap.size w' v g ∧ (1 ≤ g.n ∧ g.n ≤ 5) ∧ (∀ r, r < g.n → g.len r ≤ 9) ∧ (-100 ≤ i ∧ i ≤ 100) ∧ (-100 ≤ j ∧ j ≤ 100) ∧ Below w.heap.size w w'

set_option maxHeartbeats 1000000 in
set_option maxRecDepth 100000 in
theorem draw_DrawPassBetween (v : Value) (n hi : Nat) (w : World) (hv : RdB hi w v n) (hh : hi ≤ w.heap.size) :
    Calls Try.prog 21 #[v] w (PuPost w) := by
  have HO := Lib.hid (open_any v n hi w hv hh)
  obtain ⟨ao, cap, cb, off, Z, rfl, _⟩ := hv
  go_enter Try.func21, Try.ntmps21
  go_wp2_with fail
  refine HO.out.mono ?_
  rintro e w1 ⟨rfl, hr, hb, hs⟩
  have HB := Lib.hid hb
  have HR := Lib.hid hr
  clear hb hr
  go_wp2_with fail
  refine (pair_draw w.heap.size 0 w1 HR.out (by omega) (by omega)).mono ?_
  rintro e w2 ⟨v, g, i, j, q', rfl, ⟨a1, l1, c1, rfl⟩, hm, hn, hl, hi, hj, _, _, hc⟩
  have HM := Lib.hid hm
  have HL := Lib.hid hl
  have HC := Lib.hid hc
  clear hm hl hc
  go_wp2
  go_ret3
  exact ⟨_, g, _, _, rfl, ⟨_, _, _, rfl⟩, HM.out.mono (Nat.zero_le _) (Nat.le_refl _), hn, HL.out, hi, hj, chg_below HB.out HC.out⟩

set_option maxHeartbeats 1000000 in
set_option maxRecDepth 100000 in
theorem draw_DrawPeakSum (v : Value) (n hi : Nat) (w : World) (hv : RdB hi w v n) (hh : hi ≤ w.heap.size) :
    Calls Try.prog 42 #[v] w (DrPost w) := by
  have HO := Lib.hid (open_any v n hi w hv hh)
  obtain ⟨ao, cap, cb, off, Z, rfl, _⟩ := hv
  go_enter Try.func42, Try.ntmps42
  go_wp2_with fail
  refine HO.out.mono ?_
  rintro e w1 ⟨rfl, hr, hb, hs⟩
  have HB := Lib.hid hb
  have HR := Lib.hid hr
  clear hb hr hs
  go_wp2_with fail
  refine (grid_any w.heap.size 0 w1 HR.out (by omega)).mono ?_
  rintro e w2 ⟨v, g, rfl, ⟨a, l, c, rfl⟩, hm, hn, hl, _, hc⟩
  have HM := Lib.hid hm
  have HN := Lib.hid hn
  have HL := Lib.hid hl
  have HC := Lib.hid hc
  clear hm hn hl hc
  go_wp2
  go_ret
  exact ⟨_, g, rfl, ⟨_, _, _, rfl⟩, HM.out.mono (Nat.zero_le _) (Nat.le_refl _), HN.out, (fun r hr => (HL.out r hr).1), chg_below HB.out HC.out⟩


set_option maxHeartbeats 1000000 in
set_option maxRecDepth 100000 in
theorem draw_DrawPitList (v : Value) (n hi : Nat) (w : World) (hv : RdB hi w v n) (hh : hi ≤ w.heap.size) :
    Calls Try.prog 45 #[v] w (DrPost w) := by
  have HO := Lib.hid (open_any v n hi w hv hh)
  obtain ⟨ao, cap, cb, off, Z, rfl, _⟩ := hv
  go_enter Try.func45, Try.ntmps45
  go_wp2_with fail
  refine HO.out.mono ?_
  rintro e w1 ⟨rfl, hr, hb, hs⟩
  have HB := Lib.hid hb
  have HR := Lib.hid hr
  clear hb hr hs
  go_wp2_with fail
  refine (grid_any w.heap.size 0 w1 HR.out (by omega)).mono ?_
  rintro e w2 ⟨v, g, rfl, ⟨a, l, c, rfl⟩, hm, hn, hl, _, hc⟩
  have HM := Lib.hid hm
  have HN := Lib.hid hn
  have HL := Lib.hid hl
  have HC := Lib.hid hc
  clear hm hn hl hc
  go_wp2
  go_ret
  exact ⟨_, g, rfl, ⟨_, _, _, rfl⟩, HM.out.mono (Nat.zero_le _) (Nat.le_refl _), HN.out, (fun r hr => (HL.out r hr).1), chg_below HB.out HC.out⟩


set_option maxHeartbeats 1000000 in
set_option maxRecDepth 100000 in
theorem draw_DrawPeakMost (v : Value) (n hi : Nat) (w : World) (hv : RdB hi w v n) (hh : hi ≤ w.heap.size) :
    Calls Try.prog 33 #[v] w (PjPost w) := by
  have HO := Lib.hid (open_any v n hi w hv hh)
  obtain ⟨ao, cap, cb, off, Z, rfl, _⟩ := hv
  go_enter Try.func33, Try.ntmps33
  go_wp2_with fail
  refine HO.out.mono ?_
  rintro e w1 ⟨rfl, hr, hb, hs⟩
  have HB := Lib.hid hb
  have HR := Lib.hid hr
  clear hb hr
  go_wp2_with fail
  refine (grid_any w.heap.size 0 w1 HR.out (by omega)).mono ?_
  rintro e w2 ⟨v, g, rfl, ⟨a, l, c, rfl⟩, hm, hn, hl, ⟨q', hq', hr2⟩, hc⟩
  have HM := Lib.hid hm
  have HL := Lib.hid hl
  have HC := Lib.hid hc
  have HR2 := Lib.hid hr2
  clear hm hl hc hr2
  go_wp2_with fail
  refine (pick_any w.heap.size q' 9 _ HR2.out (by omega) (by omega) (by omega)).mono ?_
  rintro e w3 ⟨x, hx, rfl, hr3, hc3, hs3⟩
  have HC3 := Lib.hid hc3
  clear hr3 hc3
  go_wp2
  go_ret2
  exact ⟨_, g, _, rfl, ⟨_, _, _, rfl⟩, (HM.out.same (HC3.out.sameIn (Nat.le_refl _) (Or.inr (Nat.le_refl _)))).mono (Nat.zero_le _) HC3.out.size, hn, (fun r hr => (HL.out r hr).1), by omega, chg_below HB.out (HC.out.trans HC3.out)⟩

set_option maxHeartbeats 1000000 in
set_option maxRecDepth 100000 in
theorem draw_DrawPeakIsland (v : Value) (n hi : Nat) (w : World) (hv : RdB hi w v n) (hh : hi ≤ w.heap.size) :
    Calls Try.prog 37 #[v] w (DlPost w) := by
  have HO := Lib.hid (draw_DrawLevelArea v n hi w hv hh)
  obtain ⟨ao, cap, cb, off, Z, rfl, _⟩ := hv
  go_enter Try.func37, Try.ntmps37
  go_wp2_with fail
  refine HO.out.mono ?_
  rintro e w1 ⟨v, g, k, s, rfl, h⟩
  have HH := Lib.hid h
  clear h
  go_wp2
  go_ret3
  exact ⟨_, _, _, _, rfl, HH.out⟩
end Go.Proofs.Ytcfeckpbjdipeaa
