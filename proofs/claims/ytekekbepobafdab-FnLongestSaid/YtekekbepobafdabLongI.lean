/- WaterLongest of the program. -/
import Derived.Test.YtekekbepobafdabWLen
import Derived.Test.YtekekbepobafdabWLongM
import Derived.Lib.MinMax
namespace Go.Proofs.Ytekekbepobafdab
open Go.RowKit
set_option linter.unusedVariables false

theorem flat_okW {g : G} (h : g.Valid) {i : Nat} (hi : i < g.n * g.len 0) : 0 ≤ g.flat i ∧ g.flat i ≤ 99 := by
  have h0 := h.2.1.1
  have d1 : i / g.len 0 < g.n := (Nat.div_lt_iff_lt_mul h0).2 hi
  exact (h.2.2 _ d1).2 _ (by rw [(h.2.2 _ d1).1]; exact Nat.mod_lt _ h0)

open Classical in
noncomputable def G.lgV (g : G) : Int := if g.Valid then lgst g.n (g.len 0) g.flat (g.n * g.len 0) else -1
theorem G.lgV_yes {g : G} (h : g.Valid) : g.lgV = lgst g.n (g.len 0) g.flat (g.n * g.len 0) := by unfold G.lgV; rw [if_pos h]
theorem G.lgV_no {g : G} (h : ¬ g.Valid) : g.lgV = -1 := by unfold G.lgV; rw [if_neg h]

set_option maxHeartbeats 4000000 in
set_option maxRecDepth 100000 in
theorem implWaterLongest_any (v : Value) (lo hi : Nat) (g : G) (w : World) (hv : RdM lo hi w v g) (hh : hi ≤ w.heap.size) :
    Calls Try.prog 39 #[v] w (IntPost g.lgV w) := by
  by_cases h : g.Valid
  case neg =>
    have HC := Lib.hid (reliefOf_no v lo hi g w hv hh h)
    have HA := Lib.hid (G.lgV_no h)
    clear hv h
    go_enter Try.func39, Try.ntmps39
    go_wp2_with fail
    refine HC.out.mono ?_
    rintro e w1 ⟨rfl, hb1⟩
    go_wp2
    go_ret
    exact ⟨ret_int HA.out.symm, hb1.alloc hb1.size _⟩
  case pos =>
    have HC := Lib.hid (reliefOf_yes v lo hi g w hv hh h)
    have HA := Lib.hid (G.lgV_yes h)
    have HZ := Lib.hid (fun x (hx : x < g.n * g.len 0) => flat_okW h hx)
    have hn7 := h.1.2
    have hl7 := h.2.1.2
    clear hv h
    go_enter Try.func39, Try.ntmps39
    go_wp2_with fail
    refine HC.out.mono ?_
    intro e w1 hq
    obtain ⟨n, gg, cap, rfl, hrv, hb1⟩ := hq.rv
    have hnn := hrv.n_eq
    have hloc := heap_alloc_new w1 (.cells #[.int .i64 g.n, .int .i64 (g.len 0), .slice (some ⟨gg, 0, none⟩) n cap] 49)
    have HLOC := Lib.hid hloc
    have HB1 := Lib.hid (hb1.alloc hb1.size (.cells #[.int .i64 g.n, .int .i64 (g.len 0), .slice (some ⟨gg, 0, none⟩) n cap] 49))
    have HRV := Lib.hid (hrv.keep ((Below.refl w1.heap.size w1).alloc (Nat.le_refl _) (.cells #[.int .i64 g.n, .int .i64 (g.len 0), .slice (some ⟨gg, 0, none⟩) n cap] 49)) (Nat.le_refl _))
    have hn49 : n ≤ 49 := by rw [hnn]; exact mul_le_49 hn7 hl7
    have HNN := Lib.hid hnn
    clear hq hrv hb1 hloc hnn
    go_wp2
    generalize hW1 : w1.alloc (.cells #[.int .i64 g.n, .int .i64 (g.len 0), .slice (some ⟨gg, 0, none⟩) n cap] 49) = W1 at HLOC HB1 HRV ⊢
    have hs1 : w1.heap.size < W1.heap.size := by rw [← hW1]; simp
    clear hW1
    go_loopw [5, 17] (fun lg k wr => ∃ kk : Nat, kk ≤ n ∧ k = .int .i64 kk ∧ lg = .int .i64 (lgst g.n (g.len 0) g.flat kk) ∧ Below W1.heap.size W1 wr) (fun _ k _ => n - (intOf k).toNat)
    case atStart => exact ⟨0, Nat.zero_le _, rfl, rfl, Below.refl _ _⟩
    case round =>
      obtain ⟨kk, hk, rfl, rfl, hb⟩ := hrel
      by_cases hlt : kk < n
      · have hlt' : (kk : Int) < n := by omega
        obtain ⟨k0, k1, k2, _, _, _⟩ := cells3 ((hb.block w1.heap.size hs1).trans HLOC.out)
        obtain ⟨i, hi'⟩ : ∃ i : Ix (g.n * g.len 0), i.1 = kk := ⟨⟨kk, by rw [← HNN.out]; exact hlt⟩, rfl⟩
        have HL := Lib.hid (runLength_any g.n (g.len 0) gg cap n hn7 hl7 g.flat HZ.out i wr (HRV.out.keep hb (Nat.le_refl _)))
        have HE := Lib.hid (show (runL g.n (g.len 0) g.flat i).length = lenAt g.n (g.len 0) g.flat kk by rw [← hi']; exact (lenAt_eq i).symm)
        have hok := lgst_ok g.n (g.len 0) g.flat kk
        obtain ⟨hok1, hok2⟩ := hok
        have hle := lenAt_le g.n (g.len 0) g.flat kk
        have HS := Lib.hid (show lgst g.n (g.len 0) g.flat (kk + 1) = max (lgst g.n (g.len 0) g.flat kk) (lenAt g.n (g.len 0) g.flat kk) from rfl)
        rw [hi', HE.out] at HL
        have HB := Lib.hid hb
        generalize lgst g.n (g.len 0) g.flat kk = lg at hok1 hok2 HS ⊢
        generalize lenAt g.n (g.len 0) g.flat kk = ln at hle HS HL
        clear hi' hb HE
        go_wp2_with fail
        refine HL.out.mono ?_
        rintro e w3 ⟨rfl, hb3⟩
        have HB3 := Lib.hid (HB.out.trans (hb3.mono HB.out.size))
        clear hb3 k0 k1 k2
        go_wp2
        go_roundw
        case rel => exact ⟨kk + 1, by omega, by go_num, by rw [HS.out], HB3.out⟩
        case measure => simp [intOf]; omega
      · have ek : kk = n := by omega
        subst ek
        have HB := Lib.hid hb
        rw [HNN.out, ← HA.out]
        clear hb
        go_wp2
        go_ret
        exact ⟨rfl, HB1.out.trans (HB.out.mono HB1.out.size)⟩

end Go.Proofs.Ytekekbepobafdab
