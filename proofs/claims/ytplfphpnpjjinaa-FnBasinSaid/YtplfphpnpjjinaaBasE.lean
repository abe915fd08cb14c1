/- WaterBasins of the program. -/
import Derived.Test.YtplfphpnpjjinaaBasI
namespace Go.Proofs.Ytplfphpnpjjinaa
open Go.RowKit
set_option linter.unusedVariables false

set_option maxHeartbeats 2000000 in
set_option maxRecDepth 100000 in
theorem implWaterBasins_any (v : Value) (lo hi : Nat) (g : G) (w : World) (hv : RdM lo hi w v g) (hh : hi ≤ w.heap.size) (b : Bool) (hbb : b = true ↔ g.Valid) :
    Calls Try.prog 31 #[v] w (LbPost b g.bsV w) := by
  by_cases h : g.Valid
  case neg =>
    have HC := Lib.hid (reliefOf_no v lo hi g w hv hh h)
    have HA := Lib.hid (G.bsV_no h)
    obtain rfl : b = false := by cases b; rfl; exact absurd (hbb.1 rfl) h
    clear hv h hbb
    go_enter Try.func31, Try.ntmps31
    go_wp2_with fail
    refine HC.out.mono ?_
    rintro e w1 ⟨rfl, hb1⟩
    have HB1 := Lib.hid (hb1.alloc hb1.size (.cells #[.int .i64 0, .int .i64 0, .slice none 0 0] 52))
    clear hb1
    go_wp2
    go_ret2
    exact LbPost.mk' HA.out (lists_nil _ _) HB1.out
  case pos =>
    have HC := Lib.hid (reliefOf_yes v lo hi g w hv hh h)
    have HA := Lib.hid (G.bsV_yes h)
    have HZ := Lib.hid (fun x (hx : x < g.n * g.len 0) => flat_okW h hx)
    obtain rfl : b = true := hbb.2 h
    have hn7 := h.1.2
    have hl7 := h.2.1.2
    clear hv h hbb
    go_enter Try.func31, Try.ntmps31
    go_wp2_with fail
    refine HC.out.mono ?_
    intro e w1 hq
    obtain ⟨n, gg, cap, rfl, hrv, hb1⟩ := hq.rv
    have HB1 := Lib.hid (hb1.alloc hb1.size (.cells #[.int .i64 g.n, .int .i64 (g.len 0), .slice (some ⟨gg, 0, none⟩) n cap] 52))
    have HL := Lib.hid (basins_any g.n (g.len 0) gg cap n hn7 hl7 g.flat HZ.out _ (hrv.keep ((Below.refl w1.heap.size w1).alloc (Nat.le_refl _) (.cells #[.int .i64 g.n, .int .i64 (g.len 0), .slice (some ⟨gg, 0, none⟩) n cap] 52)) (Nat.le_refl _)))
    clear hq hrv hb1
    go_wp2_with fail
    refine HL.out.mono ?_
    rintro e w3 ⟨b3, rfl, hl3, hb3⟩
    have HB3 := Lib.hid (HB1.out.trans (hb3.mono HB1.out.size))
    have HL3 := Lib.hid hl3
    clear hb3 hl3
    go_wp2
    go_ret2
    exact LbPost.mk' HA.out (World.ownsRow.mono HL3.out HB1.out.size) HB3.out

end Go.Proofs.Ytplfphpnpjjinaa
