/- WaterNext of the model and of the program. -/
import Derived.Test.YtjllmidagcniaaaWNext
import Derived.Test.YtjllmidagcniaaaWSpec
namespace Go.Proofs.Ytjllmidagcniaaa
open Go.RowKit
set_option linter.unusedVariables false

theorem wn_lt {g : G} {r c : Int} (h : g.Cell r c) : r.toNat * g.len 0 + c.toNat < g.n * g.len 0 :=
  cell_lt rfl (by have := h.2.1; omega) (by have := h.2.2; omega)
open Classical in
noncomputable def G.wnV (g : G) (r c : Int) : Int := if h : g.Cell r c then (nxt g.n (g.len 0) g.flat ⟨r.toNat * g.len 0 + c.toNat, wn_lt h⟩).1 else -1
theorem G.wnV_no {g : G} {r c : Int} (h : ¬ g.Cell r c) : g.wnV r c = -1 := by unfold G.wnV; rw [dif_neg h]
theorem G.wnV_yes {g : G} {r c : Nat} (h : g.Cell r c) (i : Ix (g.n * g.len 0)) (hi : i.1 = r * g.len 0 + c) : g.wnV r c = (nxt g.n (g.len 0) g.flat i).1 := by
  unfold G.wnV
  rw [dif_pos h]
  have e : (⟨(r : Int).toNat * g.len 0 + (c : Int).toNat, wn_lt h⟩ : Ix (g.n * g.len 0)) = i := Subtype.ext (by rw [hi]; simp)
  rw [e]

set_option maxHeartbeats 2000000 in
set_option maxRecDepth 20000 in
theorem specWaterNext_any (v : Value) (lo hi : Nat) (g : G) (r c : Int) (w : World) (hv : RdM lo hi w v g) (hh : hi ≤ w.heap.size) :
    Calls Try.prog 42 #[v, .int .i64 r, .int .i64 c] w (IntPost (g.wnV r c) w) := by
  have HC := Lib.hid (l1Cell_any v lo hi g r c w hv)
  by_cases h : g.Cell r c
  · have HB := Lib.hid (G.cB_yes h)
    obtain ⟨r, rfl⟩ := Int.eq_ofNat_of_zero_le h.2.1.1
    obtain ⟨c, rfl⟩ := Int.eq_ofNat_of_zero_le h.2.2.1
    have hr : r < g.n := by have := h.2.1.2; omega
    have hc : c < g.len 0 := by have := h.2.2.2; omega
    obtain ⟨b, off, cap, rfl⟩ := hv.shapeW h.1.1.1
    obtain ⟨a1, c1, h1⟩ := hv.headW h.1.1.1 (g.len 0) rfl
    have hlt : r * g.len 0 + c < g.n * g.len 0 := cell_lt rfl hr hc
    obtain ⟨i, hi'⟩ : ∃ i : Ix (g.n * g.len 0), i.1 = r * g.len 0 + c := ⟨⟨_, hlt⟩, rfl⟩
    have HA := Lib.hid (G.wnV_yes h i hi')
    have HN := Lib.hid (fun n1 => l2Next_any _ lo hi g g.n (g.len 0) rfl rfl i (w.drewN n1) (hv.same (fun _ _ _ => rfl)) hh h.1)
    have hq : (r : Int) * (g.len 0 : Int) + (c : Int) = (i.1 : Int) := by rw [hi', Int.natCast_add, Int.natCast_mul]
    have h49 := mul_le_49 h.1.1.2 h.1.2.1.2
    have hp0 : 0 ≤ (r : Int) * (g.len 0 : Int) := Int.mul_nonneg (by omega) (by omega)
    have hi48 := i.2
    have hp1 : (r : Int) * (g.len 0 : Int) ≤ 49 := by omega
    have hn0 : (0 : Int) < g.n := by omega
    have hn0' : 0 < g.n := by omega
    clear hv h hi' hlt hh
    go_enter Try.func42, Try.ntmps42
    go_wp2_with fail
    refine HC.out.mono ?_
    rintro e w1 ⟨rfl, n1, rfl⟩
    rw [HB.out]
    go_wp2_with fail
    refine (HN.out n1).mono ?_
    rintro e w2 ⟨rfl, hb2⟩
    have HB2 := Lib.hid ((below_drewN (Below.refl w.heap.size w) n1).trans hb2)
    clear hb2
    go_wp2
    go_ret
    exact ⟨ret_int HA.out.symm, HB2.out⟩
  · have HB := Lib.hid (G.cB_no h)
    have HA := Lib.hid (G.wnV_no h)
    clear hv h
    go_enter Try.func42, Try.ntmps42
    go_wp2_with fail
    refine HC.out.mono ?_
    rintro e w1 ⟨rfl, n1, rfl⟩
    rw [HB.out]
    go_wp2
    go_ret
    exact ⟨ret_int HA.out.symm, below_drewN (Below.refl _ _) _⟩

set_option maxHeartbeats 4000000 in
set_option maxRecDepth 100000 in
theorem implWaterNext_any (v : Value) (lo hi : Nat) (g : G) (r c : Int) (w : World) (hv : RdM lo hi w v g) (hh : hi ≤ w.heap.size) :
    Calls Try.prog 41 #[v, .int .i64 r, .int .i64 c] w (IntPost (g.wnV r c) w) := by
  by_cases h : g.Valid
  case neg =>
    have HC := Lib.hid (reliefOf_no v lo hi g w hv hh h)
    have HA := Lib.hid (G.wnV_no (g := g) (r := r) (c := c) (fun hc => h hc.1))
    clear hv h
    go_enter Try.func41, Try.ntmps41
    go_wp2_with fail
    refine HC.out.mono ?_
    rintro e w1 ⟨rfl, hb1⟩
    go_wp2
    go_ret
    exact ⟨ret_int HA.out.symm, hb1.alloc hb1.size _⟩
  case pos =>
    have HC := Lib.hid (reliefOf_yes v lo hi g w hv hh h)
    have HH := Lib.hid h
    clear hv h
    by_cases hcell : g.Cell r c
    case neg =>
      have HA := Lib.hid (G.wnV_no hcell)
      have hnh : ¬ (0 ≤ r ∧ r < g.n ∧ 0 ≤ c ∧ c < g.len 0) := fun hx => hcell ⟨HH.out, ⟨hx.1, by omega⟩, hx.2.2.1, by omega⟩
      clear hcell
      go_enter Try.func41, Try.ntmps41
      go_wp2_with fail
      refine HC.out.mono ?_
      intro e w1 hq
      obtain ⟨n, gg, cap, rfl, hrv, hb1⟩ := hq.rv
      have HB1 := Lib.hid (hb1.alloc hb1.size (.cells #[.int .i64 g.n, .int .i64 (g.len 0), .slice (some ⟨gg, 0, none⟩) n cap] 58))
      clear hq hrv hb1
      go_wp2_with fail
      refine (has_no g.n (g.len 0) n gg cap r c _ hnh).mono ?_
      rintro e w2 ⟨rfl, hb2⟩
      have HB2 := Lib.hid (HB1.out.trans (hb2.mono HB1.out.size))
      clear hb2
      go_wp2
      go_ret
      exact ⟨ret_int HA.out.symm, HB2.out⟩
    case pos =>
      obtain ⟨r, rfl⟩ := Int.eq_ofNat_of_zero_le hcell.2.1.1
      obtain ⟨c, rfl⟩ := Int.eq_ofNat_of_zero_le hcell.2.2.1
      have hr : r < g.n := by have := hcell.2.1.2; omega
      have hc : c < g.len 0 := by have := hcell.2.2.2; omega
      have hn7 := HH.out.1.2
      have hl7 := HH.out.2.1.2
      have hlt : r * g.len 0 + c < g.n * g.len 0 := cell_lt rfl hr hc
      obtain ⟨i, hi'⟩ : ∃ i : Ix (g.n * g.len 0), i.1 = r * g.len 0 + c := ⟨⟨_, hlt⟩, rfl⟩
      have HA := Lib.hid (G.wnV_yes hcell i hi')
      have hmi : (r : Int) * (g.len 0 : Int) + c = (i.1 : Int) := by rw [hi', Int.natCast_add, Int.natCast_mul]
      have hp0 : (0 : Int) ≤ (r : Int) * (g.len 0 : Int) := Int.mul_nonneg (by omega) (by omega)
      have h49 := mul_le_49 hn7 hl7
      have hi48 := i.2
      have hp1 : (r : Int) * (g.len 0 : Int) ≤ 1000 := by omega
      have HMI := Lib.hid hmi
      clear hcell hmi hi' hlt
      go_enter Try.func41, Try.ntmps41
      go_wp2_with fail
      refine HC.out.mono ?_
      intro e w1 hq
      obtain ⟨n, gg, cap, rfl, hrv, hb1⟩ := hq.rv
      have hloc := heap_alloc_new w1 (.cells #[.int .i64 g.n, .int .i64 (g.len 0), .slice (some ⟨gg, 0, none⟩) n cap] 58)
      have HLOC := Lib.hid hloc
      have HB1 := Lib.hid (hb1.alloc hb1.size (.cells #[.int .i64 g.n, .int .i64 (g.len 0), .slice (some ⟨gg, 0, none⟩) n cap] 58))
      have HRV := Lib.hid (hrv.keep ((Below.refl w1.heap.size w1).alloc (Nat.le_refl _) (.cells #[.int .i64 g.n, .int .i64 (g.len 0), .slice (some ⟨gg, 0, none⟩) n cap] 58)) (Nat.le_refl _))
      clear hq hrv hb1 hloc
      go_wp2_with fail
      refine (has_yes g.n (g.len 0) n gg cap r c _ (by omega) (by omega) (by omega) (by omega)).mono ?_
      rintro e w2 ⟨rfl, hb2⟩
      have HRV2 := Lib.hid (HRV.out.keep hb2 (Nat.le_refl _))
      obtain ⟨k0, k1, k2, _, _, _⟩ := cells3 ((hb2.block w1.heap.size (by simp)).trans HLOC.out)
      have hw1 : w1.heap.size < w2.heap.size := by have := hb2.size; simp at this; omega
      have HB2 := Lib.hid (HB1.out.trans (hb2.mono HB1.out.size))
      have HK := Lib.hid (show (w2.heap[w1.heap.size]?) = _ from (hb2.block w1.heap.size (by simp)).trans HLOC.out)
      clear hb2
      go_wp2_with fail
      go_region_held3 (fun w' => w'.cell? ⟨w1.heap.size, 0, none⟩ = some (.int .i64 g.n) ∧ w'.cell? ⟨w1.heap.size, 1, none⟩ = some (.int .i64 (g.len 0)) ∧ w'.cell? ⟨w1.heap.size, 2, none⟩ = some (.slice (some ⟨gg, 0, none⟩) n cap)) (first | go_keep | exact ⟨s0, s1, s2⟩)
        (first
          | (go_at_call 70; (refine (index_any g.n (g.len 0) n gg cap r c i.1 _ HMI.out hp0 hp1 (by omega)).mono ?_); rintro e w3 ⟨rfl, hb3⟩; have hbu := hb3.undrew; obtain ⟨s0, s1, s2, _, _, _⟩ := cells3 ((hbu.block w1.heap.size hw1).trans HK.out); have HB3 := Lib.hid hbu; clear hb3 hbu)
          | (go_at_call 75; (refine (next_any g.n (g.len 0) gg cap n hn7 hl7 g.flat i _ (HRV2.out.keep HB3.out (Nat.le_refl _))).mono ?_); rintro e w4 ⟨rfl, hb4⟩; obtain ⟨s0, s1, s2, _, _, _⟩ := cells3 ((hb4.block w1.heap.size (Nat.lt_of_lt_of_le hw1 HB3.out.size)).trans ((HB3.out.block w1.heap.size hw1).trans HK.out)); have HB4 := Lib.hid hb4; clear hb4))
      all_goals go_wp2
      all_goals go_ret
      all_goals exact ⟨ret_int HA.out.symm, HB2.out.trans ((HB3.out.trans (HB4.out.mono HB3.out.size)).mono HB2.out.size)⟩

end Go.Proofs.Ytjllmidagcniaaa
