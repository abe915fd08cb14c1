/- The draws of the levels' laws: a grid; a grid and a level. -/
import Derived.Test.YtcfeckpbjdipeaaDrR
namespace Go.Proofs.Ytcfeckpbjdipeaa
open Go.RowKit
set_option linter.unusedVariables false

def Lv4 (i : Nat) : Int := [-1, 100, 99, 0].getD i 0
theorem lv4_cell {w : World} {b y : Nat} {t : TypeId} (h : w.heap[b]? = some (.cells #[.int .i64 (-1), .int .i64 100, .int .i64 99, .int .i64 0] t (0, 0))) (hy : y < 4) : w.cell? ⟨b, y, none⟩ = some (.int .i64 (Lv4 y)) := by
  have : y = 0 ∨ y = 1 ∨ y = 2 ∨ y = 3 := by omega
  rcases this with rfl | rfl | rfl | rfl <;> simp [World.cell?, h, Lv4]
theorem lv4_range (y : Nat) (hy : y < 4) : -1 ≤ Lv4 y ∧ Lv4 y ≤ 101 := by
  have : y = 0 ∨ y = 1 ∨ y = 2 ∨ y = 3 := by omega
  rcases this with rfl | rfl | rfl | rfl <;> simp [Lv4]

theorem chg_cell {B : Nat} {w w' : World} (h : Chg B (B + 1) w w') {b o : Nat} {x : Value} (hb : B + 1 ≤ b) (hl : b < w.heap.size) (hc : w.cell? ⟨b, o, none⟩ = some x) : w'.cell? ⟨b, o, none⟩ = some x := (World.cell?_of_block (a := ⟨b, o, none⟩) (h.block b hl (by omega))).trans hc

theorem RdM.rowD {lo hi : Nat} {w : World} {b off n cap : Nat} {g : G} (h : RdM lo hi w (.slice (some ⟨b, off, none⟩) n cap) g) {r : Nat} (hr : r < g.n) (hl : 0 < g.len r) :
    ∃ b1 off1 cp, w.cell? ⟨b, off + r, none⟩ = some (.slice (some ⟨b1, off1, none⟩) (g.len r) cp) ∧ (∀ c, c < g.len r → w.cell? ⟨b1, off1 + c, none⟩ = some (.int .i64 (g.z r c))) ∧ (lo ≤ b ∧ b < hi) ∧ (lo ≤ b1 ∧ b1 < hi) ∧ (n = g.n ∧ cap ≤ 9223372036854775807) ∧ (g.len r ≤ cp ∧ cp ≤ 9223372036854775807) := by
  obtain ⟨ao, cap', b', off', Ao, Cp, e, a2, a3, a5, a6, a7⟩ := h
  simp only [Value.slice.injEq] at e
  obtain ⟨e1, rfl, rfl⟩ := e
  obtain ⟨rfl, h1, h2⟩ := a5 (by omega)
  simp only [Option.some.injEq, Addr.mk.injEq, and_true] at e1
  obtain ⟨rfl, rfl⟩ := e1
  obtain ⟨ao, cp, b1, off1, e, i2, i3, i4, i5, i6⟩ := a7 r hr
  simp only [Value.slice.injEq] at e
  obtain ⟨e1, _, rfl⟩ := e
  obtain ⟨rfl, h3, h4⟩ := i5 hl
  exact ⟨b1, off1, Cp r, by rw [a6 r hr, e1], i6, ⟨h1, h2⟩, ⟨h3, h4⟩, ⟨rfl, a3⟩, i2, i3⟩

/-- what a draw of a grid and a level leaves -/
def LevelPost (B q : Nat) (w : World) (e : Ending) (w' : World) : Prop :=
  ∃ v g k, e = .returned (.tuple #[v, .int .i64 k]) ∧ (∃ a l c, v = .slice a l c) ∧ RdM (B + 1) w'.heap.size w' v g ∧ (1 ≤ g.n ∧ g.n ≤ 5) ∧ (∀ r, r < g.n → g.len r ≤ 9) ∧ (-1 ≤ k ∧ k ≤ 101) ∧ (∃ q', q' ≤ q + 220 ∧ Rdr w' B q') ∧ Chg B (B + 1) w w'

set_option maxHeartbeats 4000000 in
set_option maxRecDepth 100000 in
theorem level_any (B q : Nat) (w : World) (h : Rdr w B q) (hBw : B < w.heap.size) (hq : q ≤ 1000) :
    Calls Try.prog 88 #[.pointer (some ⟨B, 0, none⟩)] w (LevelPost B q w) := by
  have HR := Lib.hid h
  clear h
  go_enter Try.func88, Try.ntmps88
  go_wp2_with fail
  refine (grid_any B q w HR.out hq).mono ?_
  rintro e w2 ⟨v, g, rfl, ⟨a, l, c, rfl⟩, hm, hn, hl, ⟨q', hq', hr2⟩, hc⟩
  have HM := Lib.hid hm
  have HN := Lib.hid hn
  have HL := Lib.hid hl
  have HC := Lib.hid hc
  have HR2 := Lib.hid hr2
  have hs2 : w.heap.size ≤ w2.heap.size := hc.size
  clear hm hn hl hc hr2
  go_wp2_with fail
  refine (pick_any B q' 12 _ HR2.out (by omega) (by omega) (by omega)).mono ?_
  rintro e w3 ⟨x, hx, rfl, hr3, hc3, hs3⟩
  have HM3 := Lib.hid (HM.out.same (hc3.sameIn (Nat.le_refl _) (Or.inr (Nat.le_refl _))))
  have HC3 := Lib.hid (HC.out.trans hc3)
  have HR3 := Lib.hid hr3
  have hs3' : w2.heap.size ≤ w3.heap.size := by omega
  clear hr3 hc3 hs3
  by_cases x0 : x = 0
  · subst x0
    have RA := Lib.hid (show Rdr (w3.alloc (.cells #[.int .i64 (-1), .int .i64 100, .int .i64 99, .int .i64 0] 3)).drew B (q' + 1) from HR3.out.same (fun k hk => Below.heap_alloc w3 _ k (by omega)))
    have RB := Lib.hid (show Rdr w3.drew B (q' + 1) from HR3.out.same (fun _ _ => rfl))
    have HLA := Lib.hid (show Chg B (B + 1) w3 (w3.alloc (.cells #[.int .i64 (-1), .int .i64 100, .int .i64 99, .int .i64 0] 3)).drew from (((Below.refl _ w3).alloc (Nat.le_refl _) _).chg B (B + 1)).drewN 1)
    have FA := Lib.hid (fun (w5 : World) (hc : Chg B (B + 1) (w3.alloc (.cells #[.int .i64 (-1), .int .i64 100, .int .i64 99, .int .i64 0] 3)).drew w5) (y : Nat) (hy : y < 4) =>
      lv4_cell ((hc.block w3.heap.size (by show w3.heap.size < (w3.alloc (.cells #[.int .i64 (-1), .int .i64 100, .int .i64 99, .int .i64 0] 3)).heap.size; simp) (by omega)).trans (heap_alloc_new w3 (.cells #[.int .i64 (-1), .int .i64 100, .int .i64 99, .int .i64 0] 3))) hy)
    go_wp2_with fail
    go_region_law
      (first
        | (go_simp; (refine (pick_any B (q' + 1) 4 _ RA.out (by omega) (by omega) (by omega)).mono ?_); rintro e w5 ⟨y, hy, rfl, hr5, hc5, hs5⟩; have l1 := FA.out w5 hc5 y hy; have hy' : (y : Int) < 4 := (by omega); have HC5 := Lib.hid (HLA.out.trans hc5); have HR5 := Lib.hid hr5; clear hr5 hc5 hs5)
        | (go_simp; (refine (pick_any B (q' + 1) 4 _ RB.out (by omega) (by omega) (by omega)).mono ?_); rintro e w5 ⟨y, hy, rfl, hr5, hc5, hs5⟩; have l2 : ∀ t, (w5.alloc (.cells #[.int .i64 (-1), .int .i64 100, .int .i64 99, .int .i64 0] t)).cell? ⟨w5.heap.size, y, none⟩ = some (.int .i64 (Lv4 y)) := fun t => lv4_cell (heap_alloc_new w5 _) hy; have hy' : (y : Int) < 4 := (by omega); have HC5 := Lib.hid ((((Below.refl w3.heap.size w3).chg B (B + 1)).drewN 1).trans hc5); have HR5 := Lib.hid hr5; clear hr5 hc5 hs5))
    all_goals go_wp2
    all_goals go_ret2
    all_goals first
      | exact ⟨_, g, _, rfl, ⟨_, _, _, rfl⟩, (RdM.same HM3.out (HC5.out.sameIn (by omega) (Or.inr (Nat.le_refl _)))).mono (Nat.le_refl _) (by have := HC5.out.size; omega), HN.out, (fun r hr => (HL.out r hr).1), lv4_range y hy, ⟨_, by omega, HR5.out⟩, HC3.out.trans HC5.out⟩
      | exact ⟨_, g, _, rfl, ⟨_, _, _, rfl⟩, ((RdM.same HM3.out (HC5.out.sameIn (by omega) (Or.inr (Nat.le_refl _)))).same (SameIn.below ((Below.refl w5.heap.size w5).alloc (Nat.le_refl _) _) (by have := HC5.out.size; omega))).mono (Nat.le_refl _) (by have := HC5.out.size; simp; omega), HN.out, (fun r hr => (HL.out r hr).1), lv4_range y hy, ⟨_, by omega, HR5.out.same (fun k hk => Below.heap_alloc w5 _ k (by have := HC5.out.size; omega))⟩, (HC3.out.trans HC5.out).trans (((Below.refl _ w5).alloc (Nat.le_refl _) _).chg _ _)⟩
  · have e0 : ((x : Int) == 0) = false := by rw [beq_eq_false_iff_ne]; omega
    obtain ⟨bg, og, cg, ev⟩ := RdM.shape HM3.out (by have := HN.out; omega)
    simp only [Value.slice.injEq] at ev
    obtain ⟨rfl, rfl, rfl⟩ := ev
    obtain ⟨hn1, hn5⟩ := HN.out
    have hn1' : (0 : Int) < g.n := by omega
    have hn1'' : 0 < g.n := by omega
    go_wp2_with fail
    refine (pick_any B (q' + 1) g.n _ HR3.out (by omega) (by omega) (by omega)).mono ?_
    rintro e w4 ⟨row, hrow, rfl, hr4, hc4, hs4⟩
    have hl0 := HL.out 0 (by omega)
    have hlr := HL.out row hrow
    have HM4 := Lib.hid (RdM.same HM3.out (hc4.sameIn (by omega) (Or.inr (Nat.le_refl _))))
    have HC4 := Lib.hid (HC3.out.trans hc4)
    have HR4 := Lib.hid hr4
    have hs4' : w3.heap.size ≤ w4.heap.size := by omega
    clear hr4 hc4 hs4 e0
    obtain ⟨⟨hl01, _⟩, hl02⟩ : (1 ≤ g.len 0 ∧ True) ∧ g.len 0 ≤ 9 := ⟨⟨hl0.2.1.1, trivial⟩, hl0.1⟩
    obtain ⟨hlr1, hlr2⟩ : g.len 0 ≤ g.len row ∧ g.len row ≤ 9 := ⟨hlr.2.1.2, hlr.1⟩
    have HZ := Lib.hid hlr.2.2
    obtain ⟨b1, o1, cp1, k1, k2, ⟨k3, k4⟩, ⟨k5, k6⟩, ⟨_, k7⟩, k8, k9⟩ := RdM.rowD HM4.out hrow (by omega)
    obtain ⟨b2, o2, cp2, j1, j2, _, ⟨j5, j6⟩, _, j8, j9⟩ := RdM.rowD HM4.out (r := 0) (by omega) (by omega)
    rw [Nat.add_zero] at j1
    have K2 := Lib.hid k2
    have K1 := Lib.hid k1
    have J1 := Lib.hid j1
    have hrow' : (row : Int) < g.n := by omega
    clear hl0 hlr j2 k2
    have hs4'' : w2.heap.size ≤ w4.heap.size := by omega
    go_wp2_with fail
    go_region_held3 (fun w' => w'.cell? ⟨bg, og + row, none⟩ = some (.slice (some ⟨b1, o1, none⟩) (g.len row) cp1) ∧ w'.cell? ⟨bg, og, none⟩ = some (.slice (some ⟨b2, o2, none⟩) (g.len 0) cp2) ∧ ∀ c, c < g.len row → w'.cell? ⟨b1, o1 + c, none⟩ = some (.int .i64 (g.z row c))) (first | exact ⟨K1.out, J1.out, K2.out⟩ | exact ⟨z0, z1, z2⟩ | exact ⟨y0, y1, y2⟩ | go_keep)
      (first
        | (have ha := HCb.out; go_at_call 74; refine (pick_any B (q' + 1 + 1 + 1) 2 _ HRb.out (by omega) (by omega) (by omega)).mono ?_; rintro e v2 ⟨xx, hxx, rfl, hr6, hc6, hs6⟩; have HCc := Lib.hid (ha.trans hc6); have HRc := Lib.hid hr6; have z0 := chg_cell (ha.trans hc6) k3 (by omega) K1.out; have z1 := chg_cell (ha.trans hc6) k3 (by omega) J1.out; have z2 := (fun c hc => chg_cell (ha.trans hc6) k5 (by omega) (K2.out c hc)); have hw : IntKind.i64.wrap (g.z row y + (xx : Int)) = g.z row y + (xx : Int) := IntWalk.i64_in _ (by have := HZ.out y (by omega); omega); clear ha hr6 hc6 hs6)
        | (go_at_call 74; refine (pick_any B (q' + 1 + 1) (g.len 0) w4.drew (HR4.out.same (fun _ _ => rfl)) (by omega) (by omega) (by omega)).mono ?_; rintro e v1 ⟨y, hy, rfl, hr5, hc5, hs5⟩; have hc5' : Chg B (B + 1) w4 v1 := ((((Below.refl w4.heap.size w4).chg B (B + 1)).drewN 1).trans hc5); have HRb := Lib.hid hr5; have HCb := Lib.hid hc5'; have y0 := chg_cell hc5' k3 (by omega) K1.out; have y1 := chg_cell hc5' k3 (by omega) J1.out; have y2 := (fun c hc => chg_cell hc5' k5 (by omega) (K2.out c hc)); have hy' : (y : Int) < g.len row := (by omega); have hy2 : y < g.len row := (by omega); clear hr5 hc5 hc5' hs5))
    all_goals go_wp2
    all_goals go_ret2
    all_goals exact ⟨_, g, _, rfl, ⟨_, _, _, rfl⟩, (RdM.same HM4.out (HCc.out.sameIn (by omega) (Or.inr (Nat.le_refl _)))).mono (Nat.le_refl _) (by have := HCc.out.size; omega), HN.out, (fun r hr => (HL.out r hr).1), by have := HZ.out y (by omega); omega, ⟨_, by omega, HRc.out⟩, HC4.out.trans HCc.out⟩

end Go.Proofs.Ytcfeckpbjdipeaa

/- The draws of levels for regions, numbers, areas and what lies inside. -/
namespace Go.Proofs.Ytcfeckpbjdipeaa
open Go.RowKit
set_option linter.unusedVariables false

set_option maxHeartbeats 1000000 in
set_option maxRecDepth 100000 in
theorem draw_DrawLevelRegions (v : Value) (n hi : Nat) (w : World) (hv : RdB hi w v n) (hh : hi ≤ w.heap.size) :
    Calls Try.prog 49 #[v] w (DkPost w) := by
  have HO := Lib.hid (open_any v n hi w hv hh)
  obtain ⟨ao, cap, cb, off, Z, rfl, _⟩ := hv
  go_enter Try.func49, Try.ntmps49
  go_wp2_with fail
  refine HO.out.mono ?_
  rintro e w1 ⟨rfl, hr, hb, hs⟩
  have HB := Lib.hid hb
  have HR := Lib.hid hr
  clear hb hr
  go_wp2_with fail
  refine (level_any w.heap.size 0 w1 HR.out (by omega) (by omega)).mono ?_
  rintro e w2 ⟨v, g, k, rfl, ⟨a, l, c, rfl⟩, hm, hn, hl, hk, _, hc⟩
  have HM := Lib.hid hm
  have HN := Lib.hid hn
  have HL := Lib.hid hl
  have HC := Lib.hid hc
  have HK := Lib.hid hk
  clear hm hn hl hc hk
  go_wp2
  go_ret2
  exact ⟨_, g, _, rfl, ⟨_, _, _, rfl⟩, HM.out.mono (Nat.zero_le _) (Nat.le_refl _), HN.out, HL.out, by have := HK.out; omega, chg_below HB.out HC.out⟩

/-- what a draw of a grid, a level and a number leaves -/
def DlPost (w : World) (e : Ending) (w' : World) : Prop :=
  ∃ v g k s, e = .returned (.tuple #[v, .int .i64 k, .int .i64 s]) ∧ (∃ a l c, v = .slice a l c) ∧ RdM 0 w'.heap.size w' v g ∧ (1 ≤ g.n ∧ g.n ≤ 5) ∧ (∀ r, r < g.n → g.len r ≤ 9) ∧ (-1 ≤ k ∧ k ≤ 101) ∧ (-110 ≤ s ∧ s ≤ 110) ∧ Below w.heap.size w w'

set_option maxHeartbeats 1000000 in
set_option maxRecDepth 100000 in
theorem draw_DrawLevelArea (v : Value) (n hi : Nat) (w : World) (hv : RdB hi w v n) (hh : hi ≤ w.heap.size) :
    Calls Try.prog 76 #[v] w (DlPost w) := by
  have HO := Lib.hid (open_any v n hi w hv hh)
  obtain ⟨ao, cap, cb, off, Z, rfl, _⟩ := hv
  go_enter Try.func76, Try.ntmps76
  go_wp2_with fail
  refine HO.out.mono ?_
  rintro e w1 ⟨rfl, hr, hb, hs⟩
  have HB := Lib.hid hb
  have HR := Lib.hid hr
  clear hb hr
  go_wp2_with fail
  refine (level_any w.heap.size 0 w1 HR.out (by omega) (by omega)).mono ?_
  rintro e w2 ⟨v, g, k, rfl, ⟨a, l, c, rfl⟩, hm, hn, hl, ⟨hk1, hk2⟩, ⟨q', hq', hr2⟩, hc⟩
  have HM := Lib.hid hm
  have HN := Lib.hid hn
  have HL := Lib.hid hl
  have HC := Lib.hid hc
  have HR2 := Lib.hid hr2
  have hs2 : w1.heap.size ≤ w2.heap.size := hc.size
  clear hm hn hl hc hr2
  go_wp2_with fail
  refine (pick_any w.heap.size q' 4 _ HR2.out (by omega) (by omega) (by omega)).mono ?_
  rintro e w3 ⟨x, hx, rfl, hr3, hc3, hs3⟩
  have HM3 := Lib.hid (HM.out.same (hc3.sameIn (Nat.le_refl _) (Or.inr (Nat.le_refl _))))
  have HC3 := Lib.hid (HC.out.trans hc3)
  have HR3 := Lib.hid hr3
  have hs3' : w2.heap.size ≤ w3.heap.size := by omega
  clear hr3 hc3 hs3
  go_wp2_with fail
  refine (pick_any w.heap.size (q' + 1) 12 _ HR3.out (by omega) (by omega) (by omega)).mono ?_
  rintro e w4 ⟨y, hy, rfl, hr4, hc4, hs4⟩
  have HM4 := Lib.hid (HM3.out.same (hc4.sameIn (by omega) (Or.inr (Nat.le_refl _))))
  have HC4 := Lib.hid (HC3.out.trans hc4)
  have hs4' : w3.heap.size ≤ w4.heap.size := by omega
  clear hr4 hc4 hs4
  have hy11 : ((y : Int).tdiv 11 = 0 ∨ (y : Int).tdiv 11 = 1) := by rw [Int.tdiv_eq_ediv_of_nonneg (by omega)]; omega
  rcases hy11 with hd | hd
  all_goals
    go_wp2
    go_ret3
    exact ⟨_, g, _, _, rfl, ⟨_, _, _, rfl⟩, HM4.out.mono (Nat.zero_le _) (by omega), HN.out, HL.out, by omega, by omega, chg_below HB.out HC4.out⟩

end Go.Proofs.Ytcfeckpbjdipeaa
