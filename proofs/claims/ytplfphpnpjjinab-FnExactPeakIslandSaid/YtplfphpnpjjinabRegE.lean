/- LevelRegions of the program. -/
import Derived.Test.YtplfphpnpjjinabNumI
namespace Go.Proofs.Ytplfphpnpjjinab
open Go.RowKit
set_option linter.unusedVariables false

open Classical in
noncomputable def G.rgV (g : G) (lv : Int) : Int := if g.LvOk lv then rgN g.n (g.len 0) g.flat lv (g.n * g.len 0) else -1
theorem G.rgV_yes {g : G} {lv : Int} (h : g.LvOk lv) : g.rgV lv = rgN g.n (g.len 0) g.flat lv (g.n * g.len 0) := by unfold G.rgV; rw [if_pos h]
theorem G.rgV_no {g : G} {lv : Int} (h : ¬ g.LvOk lv) : g.rgV lv = -1 := by unfold G.rgV; rw [if_neg h]

set_option maxHeartbeats 2000000 in
set_option maxRecDepth 100000 in
theorem regionCount_any (R C gg cap cnt : Nat) (hR : R ≤ 7) (hC : C ≤ 7) (Z : Nat → Int) (lv : Int) (w : World) (h : Rv w R C cnt gg cap Z) :
    Calls Try.prog 69 #[.agg #[.int .i64 R, .int .i64 C, .slice (some ⟨gg, 0, none⟩) cnt cap, .int .i64 lv]] w (IntPost (rgN R C Z lv (R * C)) w) := by
  have HCN := Lib.hid h.n_eq
  have hb0 := (Below.refl w.heap.size w).alloc (Nat.le_refl _) (.cells #[.int .i64 R, .int .i64 C, .slice (some ⟨gg, 0, none⟩) cnt cap, .int .i64 lv] 60)
  have HB0 := Lib.hid hb0
  have HN := Lib.hid (numbers_any R C gg cap cnt hR hC Z lv _ (h.keep hb0 (Nat.le_refl _)))
  have HL0 := Lib.hid (heap_alloc_new w (.cells #[.int .i64 R, .int .i64 C, .slice (some ⟨gg, 0, none⟩) cnt cap, .int .i64 lv] 60))
  obtain ⟨m0, m1, m2, m3⟩ := cells4 HL0.out
  clear h hb0
  go_enter Try.func69, Try.ntmps69
  go_wp2_with fail
  refine HN.out.mono ?_
  rintro e w1 ⟨q, rfl, hq, hrow, hb1⟩
  have HB1 := Lib.hid (HB0.out.trans (hb1.mono HB0.out.size))
  clear hb1 hrow
  go_wp2
  go_ret
  exact ⟨ret_int (by rw [HCN.out]), HB1.out⟩

set_option maxHeartbeats 2000000 in
set_option maxRecDepth 100000 in
theorem implLevelRegions_any (v : Value) (lo hi : Nat) (g : G) (lv : Int) (w : World) (hv : RdM lo hi w v g) (hh : hi ≤ w.heap.size) :
    Calls Try.prog 39 #[v, .int .i64 lv] w (IntPost (g.rgV lv) w) := by
  by_cases h : g.LvOk lv
  case neg =>
    have HC := Lib.hid (layerOf_no v lo hi g lv w hv hh h)
    have HA := Lib.hid (G.rgV_no h)
    clear hv h
    go_enter Try.func39, Try.ntmps39
    go_wp2_with fail
    refine HC.out.mono ?_
    rintro e w1 ⟨rfl, hb1⟩
    have HB1 := Lib.hid (hb1.alloc hb1.size (.cells #[.int .i64 0, .int .i64 0, .slice none 0 0, .int .i64 0] 60))
    clear hb1
    go_wp2
    go_ret
    exact ⟨ret_int HA.out.symm, HB1.out⟩
  case pos =>
    have HC := Lib.hid (layerOf_yes v lo hi g lv w hv hh h)
    have HA := Lib.hid (G.rgV_yes h)
    have h49 := mul_le_49 h.1.1.2 h.1.2.1.2
    have h71 := h.1.1.2
    have h72 := h.1.2.1.2
    clear hv h
    go_enter Try.func39, Try.ntmps39
    go_wp2_with fail
    refine HC.out.mono ?_
    rintro e w1 ⟨n, gg, cap, rfl, hrv, hb1⟩
    have HN := Lib.hid hrv.n_eq
    have hn49 : n ≤ 49 := by rw [hrv.n_eq]; exact h49
    have HB1 := Lib.hid (hb1.alloc hb1.size (.cells #[.int .i64 g.n, .int .i64 (g.len 0), .slice (some ⟨gg, 0, none⟩) n cap, .int .i64 lv] 60))
    have HL := Lib.hid (regionCount_any g.n (g.len 0) gg cap n h71 h72 g.flat lv _ (hrv.keep ((Below.refl w1.heap.size w1).alloc (Nat.le_refl _) (.cells #[.int .i64 g.n, .int .i64 (g.len 0), .slice (some ⟨gg, 0, none⟩) n cap, .int .i64 lv] 60)) (Nat.le_refl _)))
    clear hrv hb1
    go_wp2_with fail
    refine HL.out.mono ?_
    rintro e w3 ⟨rfl, hb3⟩
    have HB3 := Lib.hid (HB1.out.trans (hb3.mono HB1.out.size))
    clear hb3
    go_wp2
    go_ret
    exact ⟨ret_int (by rw [HA.out]), HB3.out⟩

end Go.Proofs.Ytplfphpnpjjinab