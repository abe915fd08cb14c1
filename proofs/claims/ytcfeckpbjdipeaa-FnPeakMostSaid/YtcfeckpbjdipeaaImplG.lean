/- The program's GridAt and GridSet. -/
import Derived.Test.YtcfeckpbjdipeaaM2
namespace Go.Proofs.Ytcfeckpbjdipeaa
open Go.RowKit
set_option linter.unusedVariables false

set_option maxHeartbeats 1000000 in
set_option maxRecDepth 20000 in
theorem has_yes (R C n gg cap : Nat) (r c : Int) (w : World) (h1 : 0 ≤ r) (h2 : r < R) (h3 : 0 ≤ c) (h4 : c < C) :
    Calls Try.prog 57 #[.agg #[.int .i64 R, .int .i64 C, .slice (some ⟨gg, 0, none⟩) n cap], .int .i64 r, .int .i64 c] w (BlPost true w) := by
  go_enter Try.func57, Try.ntmps57
  go_wp2
  go_ret
  exact ⟨rfl, (Below.refl _ _).alloc (Nat.le_refl _) _⟩

set_option maxHeartbeats 1000000 in
set_option maxRecDepth 20000 in
theorem has_no (R C n gg cap : Nat) (r c : Int) (w : World) (h : ¬ (0 ≤ r ∧ r < R ∧ 0 ≤ c ∧ c < C)) :
    Calls Try.prog 57 #[.agg #[.int .i64 R, .int .i64 C, .slice (some ⟨gg, 0, none⟩) n cap], .int .i64 r, .int .i64 c] w (BlPost false w) := by
  by_cases h1 : 0 ≤ r
  · by_cases h2 : r < R
    · by_cases h3 : 0 ≤ c
      · have h4 : ¬ c < C := fun h4 => h ⟨h1, h2, h3, h4⟩
        have h5 : decide (c < (C : Int)) = false := by simpa using h4
        clear h
        go_enter Try.func57, Try.ntmps57
        go_wp2
        go_ret
        exact ⟨rfl, (Below.refl _ _).alloc (Nat.le_refl _) _⟩
      · have h5 : decide (0 ≤ c) = false := by simpa using h3
        clear h
        go_enter Try.func57, Try.ntmps57
        go_wp2
        go_ret
        exact ⟨rfl, (Below.refl _ _).alloc (Nat.le_refl _) _⟩
    · have h5 : decide (r < (R : Int)) = false := by simpa using h2
      clear h
      go_enter Try.func57, Try.ntmps57
      go_wp2
      go_ret
      exact ⟨rfl, (Below.refl _ _).alloc (Nat.le_refl _) _⟩
  · have h5 : decide (0 ≤ r) = false := by simpa using h1
    clear h
    go_enter Try.func57, Try.ntmps57
    go_wp2
    go_ret
    exact ⟨rfl, (Below.refl _ _).alloc (Nat.le_refl _) _⟩

theorem eqv_upd {g : G} {r c : Nat} {x : Int} (hr : r < g.n) (hc : c < g.len 0) (hv : g.Valid) : G.Eqv (gridOf g.n (g.len 0) (fun i => if i = r * g.len 0 + c then x else g.flat i)) (g.upd r c x) := by
  refine ⟨rfl, fun i hi => ⟨(hv.2.2 i hi).1.symm, fun j hj => ?_⟩⟩
  have hj' : j < g.len 0 := hj
  simp only [gridOf, G.upd]
  have d1 := div_at i j (g.len 0) hj'
  have d2 := div_at r c (g.len 0) hc
  by_cases e : i * g.len 0 + j = r * g.len 0 + c
  · have e1 : i = r := by rw [← d1.1, ← d2.1, e]
    have e2 : j = c := by rw [← d1.2, ← d2.2, e]
    rw [if_pos e, if_pos ⟨e1, e2⟩]
  · have : ¬ (i = r ∧ j = c) := fun ⟨e1, e2⟩ => e (by rw [e1, e2])
    rw [if_neg e, if_neg this, g.flat_at i j hj']

set_option maxHeartbeats 4000000 in
set_option maxRecDepth 20000 in
theorem implGridSet_cell (v : Value) (lo hi : Nat) (g : G) (r c : Nat) (x : Int) (w : World) (hv : RdM lo hi w v g) (hh : hi ≤ w.heap.size) (h : g.Cell r c) (b : Bool) (g' : G)
    (hgrid : ∀ (n gg cap : Nat) (W : World), Rv W g.n (g.len 0) n gg cap (fun i => if i = r * g.len 0 + c then x else g.flat i) → Calls Try.prog 59 #[.agg #[.int .i64 g.n, .int .i64 (g.len 0), .slice (some ⟨gg, 0, none⟩) n cap]] W (GPost b g' W)) :
    Calls Try.prog 17 #[v, .int .i64 r, .int .i64 c, .int .i64 x] w (GPost b g' w) := by
  have HC := Lib.hid (reliefOf_yes v lo hi g w hv hh h.1)
  have HG := Lib.hid hgrid
  have hr : r < g.n := by have := h.2.1.2; omega
  have hc : c < g.len 0 := by have := h.2.2.2; omega
  have hn7 := h.1.1.2
  have hl7 := h.1.2.1.2
  clear hv h hgrid
  go_enter Try.func17, Try.ntmps17
  go_wp2_with fail
  refine HC.out.mono ?_
  rintro e w1 ⟨n, gg, cap, xs, hn, rfl, hown, hval, hb1⟩
  have hlt := cell_lt hn hr hc
  have hn49 : n ≤ 49 := by rw [hn]; exact mul_le_49 hn7 hl7
  have hggl := (hown.lt gg rfl).2
  have HN := Lib.hid hn
  have HLOC := Lib.hid (heap_alloc_new w1 (.cells #[.int .i64 g.n, .int .i64 (g.len 0), .slice (some ⟨gg, 0, none⟩) n cap] 50))
  have HB1 := Lib.hid (hb1.alloc hb1.size (.cells #[.int .i64 g.n, .int .i64 (g.len 0), .slice (some ⟨gg, 0, none⟩) n cap] 50))
  have HO1 := Lib.hid (hown.alloc (.cells #[.int .i64 g.n, .int .i64 (g.len 0), .slice (some ⟨gg, 0, none⟩) n cap] 50))
  have HVAL := Lib.hid hval
  have hw1 : w.heap.size ≤ w1.heap.size := hb1.size
  clear hown hval hb1 hn
  go_wp2_with fail
  refine (has_yes g.n (g.len 0) n gg cap r c _ (by omega) (by omega) (by omega) (by omega)).mono ?_
  rintro e w2 ⟨rfl, hb2⟩
  have own2 := HO1.out.of_below hb2 (fun k hk => by have := (HO1.out.lt k hk).2; exact this)
  obtain ⟨k0, k1, k2, _, _, _⟩ := cells3 ((hb2.block w1.heap.size (by simp)).trans HLOC.out)
  have HL2 := Lib.hid ((hb2.block w1.heap.size (by simp)).trans HLOC.out)
  have HB2 := Lib.hid (HB1.out.trans (hb2.mono HB1.out.size))
  have hs2 : w1.heap.size < w2.heap.size := by have := hb2.size; simp at this; omega
  have HO2 := Lib.hid own2
  have hp0 : (0 : Int) ≤ (r : Int) * (g.len 0 : Int) := Int.mul_nonneg (by omega) (by omega)
  have hmi : (r : Int) * (g.len 0 : Int) + c = ((r * g.len 0 + c : Nat) : Int) := by rw [Int.natCast_add, Int.natCast_mul]
  have hp1 : (r : Int) * (g.len 0 : Int) ≤ 1000 := by omega
  obtain ⟨m, hm⟩ : ∃ m, m = r * g.len 0 + c := ⟨_, rfl⟩
  rw [← hm] at hmi hlt
  have HMI := Lib.hid hmi
  have HM := Lib.hid hm
  have hm0 : (0 : Int) ≤ (m : Int) := by omega
  have hm1 : (m : Int) < (n : Int) := by omega
  clear hb2 own2 hmi hm
  go_wp2_with fail
  go_region_held3 (fun w' => w'.cell? ⟨w1.heap.size, 0, none⟩ = some (.int .i64 g.n) ∧ w'.cell? ⟨w1.heap.size, 1, none⟩ = some (.int .i64 (g.len 0)) ∧ w'.cell? ⟨w1.heap.size, 2, none⟩ = some (.slice (some ⟨gg, 0, none⟩) n cap))
    (first | exact ⟨k0, k1, k2⟩ | exact s3 | exact ⟨(World.cell?_of_block (a := ⟨w1.heap.size, 0, none⟩) (Below.heap_setCell w3 ⟨gg, m, none⟩ _ w1.heap.size (by show w1.heap.size ≠ gg; omega))).trans s3.1, (World.cell?_of_block (a := ⟨w1.heap.size, 1, none⟩) (Below.heap_setCell w3 ⟨gg, m, none⟩ _ w1.heap.size (by show w1.heap.size ≠ gg; omega))).trans s3.2.1, (World.cell?_of_block (a := ⟨w1.heap.size, 2, none⟩) (Below.heap_setCell w3 ⟨gg, m, none⟩ _ w1.heap.size (by show w1.heap.size ≠ gg; omega))).trans s3.2.2⟩)
    (first | (go_at_call 58; refine (index_any g.n (g.len 0) n gg cap r c m _ HMI.out hp0 hp1 (by omega)).mono ?_; rintro e w3 ⟨rfl, hb0⟩; have hb3 := hb0.undrew; have s3 := (⟨(hb3.cell (p := ⟨w1.heap.size, 0, none⟩) hs2).trans k0, (hb3.cell (p := ⟨w1.heap.size, 1, none⟩) hs2).trans k1, (hb3.cell (p := ⟨w1.heap.size, 2, none⟩) hs2).trans k2⟩ : w3.cell? ⟨w1.heap.size, 0, none⟩ = some (.int .i64 g.n) ∧ w3.cell? ⟨w1.heap.size, 1, none⟩ = some (.int .i64 (g.len 0)) ∧ w3.cell? ⟨w1.heap.size, 2, none⟩ = some (.slice (some ⟨gg, 0, none⟩) n cap)); have own3 := HO2.out.of_below hb3 (fun k hk => (HO2.out.lt k hk).2); have q1 : w3.cell? ⟨gg, m, none⟩ = some (.int .i64 (g.flat m)) := (own3.cellAt m (by rw [Nat.mul_one]; exact hlt)).trans (HVAL.out m hlt); have q2 : w3.frozen? ⟨gg, m, none⟩ = false := own3.frozenAt m; have HO3 := Lib.hid own3; have HB3 := Lib.hid (HB2.out.trans (hb3.mono HB2.out.size)); have hs3 := hb3.size; clear hb0 hb3 own3))
  all_goals
    have hrv4 : Rv (w3.setCell ⟨gg, m, none⟩ (.int .i64 x)) g.n (g.len 0) n gg cap (fun i => if i = r * g.len 0 + c then x else g.flat i) := by
      have hst := (HO3.out.stored m (.int .i64 x)).1
      refine Rv.of_own hst HN.out (fun i hi => ?_)
      have hl : xs.length = n := by have := HO3.out.1; omega
      rw [← HM.out]
      by_cases e : i = m
      · subst e; rw [if_pos rfl, List.getElem?_set_self (by omega)]
      · rw [if_neg e, List.getElem?_set_ne (by omega)]; exact HVAL.out i hi
    have HG4 := Lib.hid (HG.out n gg cap _ hrv4)
    have HB4 := Lib.hid (HB3.out.setCell (p := ⟨gg, m, none⟩) (by have := (HO3.out.lt gg rfl).1; exact this) (.int .i64 x))
    clear hrv4
    have t0 : (w3.setCell ⟨gg, m, none⟩ (.int .i64 x)).cell? ⟨w1.heap.size, 0, none⟩ = some (.int .i64 g.n) := (World.cell?_of_block (a := ⟨w1.heap.size, 0, none⟩) (Below.heap_setCell w3 ⟨gg, m, none⟩ _ w1.heap.size (by show w1.heap.size ≠ gg; omega))).trans s3.1
    have t1 : (w3.setCell ⟨gg, m, none⟩ (.int .i64 x)).cell? ⟨w1.heap.size, 1, none⟩ = some (.int .i64 (g.len 0)) := (World.cell?_of_block (a := ⟨w1.heap.size, 1, none⟩) (Below.heap_setCell w3 ⟨gg, m, none⟩ _ w1.heap.size (by show w1.heap.size ≠ gg; omega))).trans s3.2.1
    have t2 : (w3.setCell ⟨gg, m, none⟩ (.int .i64 x)).cell? ⟨w1.heap.size, 2, none⟩ = some (.slice (some ⟨gg, 0, none⟩) n cap) := (World.cell?_of_block (a := ⟨w1.heap.size, 2, none⟩) (Below.heap_setCell w3 ⟨gg, m, none⟩ _ w1.heap.size (by show w1.heap.size ≠ gg; omega))).trans s3.2.2
    go_wp2_with fail
    refine HG4.out.mono ?_
    rintro e w5 ⟨v5, rfl, ⟨a, l, cc, rfl⟩, ho, hb5⟩
    have HP : Hid (GPost b g' w (.returned (.tuple #[.slice a l cc, .bool b])) w5) := GPost.up ⟨_, rfl, ⟨_, _, _, rfl⟩, ho, hb5⟩ HB4.out (G.Eqv.refl _)
    clear ho hb5
    go_wp2
    go_ret2
    exact HP.out

theorem implGridSet_yes (v : Value) (lo hi : Nat) (g : G) (r c x : Int) (w : World) (hv : RdM lo hi w v g) (hh : hi ≤ w.heap.size) (h : g.SetOk r c x) :
    Calls Try.prog 17 #[v, .int .i64 r, .int .i64 c, .int .i64 x] w (GPost true (g.upd r.toNat c.toNat x) w) := by
  obtain ⟨hcell, hx0, hx1⟩ := h
  obtain ⟨r, rfl⟩ := Int.eq_ofNat_of_zero_le hcell.2.1.1
  obtain ⟨c, rfl⟩ := Int.eq_ofNat_of_zero_le hcell.2.2.1
  have hr : r < g.n := by have := hcell.2.1.2; omega
  have hc : c < g.len 0 := by have := hcell.2.2.2; omega
  rw [Int.toNat_natCast, Int.toNat_natCast]
  refine implGridSet_cell v lo hi g r c x w hv hh hcell true _ (fun n gg cap W hrv => ?_)
  refine (grid_yes g.n (g.len 0) n gg cap _ W hrv (relOk_of hrv.n_eq hcell.1.1 hcell.1.2.1 (fun i hi j hj => ?_))).mono fun e W' hp => hp.up (Below.refl _ _) (eqv_upd hr hc hcell.1)
  split
  · exact ⟨hx0, hx1⟩
  · rw [g.flat_at i j hj]; exact valid_at hcell.1 hi hj

set_option maxHeartbeats 2000000 in
set_option maxRecDepth 20000 in
theorem implGridSet_no (v : Value) (lo hi : Nat) (g : G) (r c x : Int) (w : World) (hv : RdM lo hi w v g) (hh : hi ≤ w.heap.size) (h : ¬ g.SetOk r c x) :
    Calls Try.prog 17 #[v, .int .i64 r, .int .i64 c, .int .i64 x] w (GPost false G0 w) := by
  by_cases hval : g.Valid
  case neg =>
    have HC := Lib.hid (reliefOf_no v lo hi g w hv hh hval)
    clear hv h
    go_enter Try.func17, Try.ntmps17
    go_wp2_with fail
    refine HC.out.mono ?_
    rintro e w1 ⟨rfl, hb1⟩
    have HB2 := Lib.hid (hb1.alloc hb1.size (.cells #[.int .i64 0, .int .i64 0, .slice none 0 0] 50))
    clear hb1
    go_wp2
    go_ret2
    exact ⟨_, rfl, ⟨_, _, _, rfl⟩, OwM.none _ _ _, HB2.out⟩
  case pos =>
    by_cases hcell : g.Cell r c
    case neg =>
      have HC := Lib.hid (reliefOf_yes v lo hi g w hv hh hval)
      have hnh : ¬ (0 ≤ r ∧ r < g.n ∧ 0 ≤ c ∧ c < g.len 0) := fun hx => hcell ⟨hval, ⟨hx.1, by omega⟩, hx.2.2.1, by omega⟩
      clear hcell hv hval h
      go_enter Try.func17, Try.ntmps17
      go_wp2_with fail
      refine HC.out.mono ?_
      intro e w1 hq
      obtain ⟨n, gg, cap, rfl, hrv, hb1⟩ := hq.rv
      have HB1 := Lib.hid (hb1.alloc hb1.size (.cells #[.int .i64 g.n, .int .i64 (g.len 0), .slice (some ⟨gg, 0, none⟩) n cap] 50))
      clear hq hrv hb1
      go_wp2_with fail
      refine (has_no g.n (g.len 0) n gg cap r c _ hnh).mono ?_
      rintro e w2 ⟨rfl, hb2⟩
      have HB2 := Lib.hid (HB1.out.trans (hb2.mono HB1.out.size))
      clear hb2
      go_wp2
      go_ret2
      exact ⟨_, rfl, ⟨_, _, _, rfl⟩, OwM.none _ _ _, HB2.out⟩
    case pos =>
      have hx : ¬ (0 ≤ x ∧ x ≤ 99) := fun hx => h ⟨hcell, hx⟩
      obtain ⟨r, rfl⟩ := Int.eq_ofNat_of_zero_le hcell.2.1.1
      obtain ⟨c, rfl⟩ := Int.eq_ofNat_of_zero_le hcell.2.2.1
      have hr : r < g.n := by have := hcell.2.1.2; omega
      have hc : c < g.len 0 := by have := hcell.2.2.2; omega
      refine implGridSet_cell v lo hi g r c x w hv hh hcell false _ (fun n gg cap W hrv => ?_)
      refine grid_no g.n (g.len 0) n gg cap _ W hrv (fun hok => hx ?_) (by rw [hrv.n_eq]; have := mul_le_49 hval.1.2 hval.2.1.2; omega) (by have := hval.1; omega) (by have := hval.2.1; omega)
      have := hok.2.2 (r * g.len 0 + c) (cell_lt hrv.n_eq hr hc)
      simpa using this

end Go.Proofs.Ytcfeckpbjdipeaa
