/- The draws of a grid alone, by name. -/
import Derived.Test.YtplfphpnpjjinaaDrawR
import Derived.Test.YtplfphpnpjjinaaPBase
namespace Go.Proofs.Ytplfphpnpjjinaa
open Go.RowKit
set_option linter.unusedVariables false

set_option maxHeartbeats 1000000 in
set_option maxRecDepth 100000 in
theorem draw_DrawWaterBasins (v : Value) (n hi : Nat) (w : World) (hv : RdB hi w v n) (hh : hi ≤ w.heap.size) :
    Calls Try.prog 30 #[v] w (DrPost w) := by
  have HO := Lib.hid (open_any v n hi w hv hh)
  obtain ⟨ao, cap, cb, off, Z, rfl, _⟩ := hv
  go_enter Try.func30, Try.ntmps30
  go_wp2_with fail
  refine HO.out.mono ?_
  rintro e w1 ⟨rfl, hr, hb, hs⟩
  have HB := Lib.hid hb
  have HR := Lib.hid hr
  clear hb hr hs
  go_wp2_with fail
  refine (grid_any w.heap.size 0 w1 HR.out (by omega)).mono ?_
  rintro e w2 ⟨v, g, rfl, ⟨a, l, c, rfl⟩, hm, hn, hl, _, hc⟩
  have HM := Lib.hid hm
  have HN := Lib.hid hn
  have HL := Lib.hid hl
  have HC := Lib.hid hc
  clear hm hn hl hc
  go_wp2
  go_ret
  exact ⟨_, g, rfl, ⟨_, _, _, rfl⟩, HM.out.mono (Nat.zero_le _) (Nat.le_refl _), HN.out, (fun r hr => (HL.out r hr).1), chg_below HB.out HC.out⟩

set_option maxHeartbeats 1000000 in
set_option maxRecDepth 100000 in
theorem draw_DrawWaterFlow (v : Value) (n hi : Nat) (w : World) (hv : RdB hi w v n) (hh : hi ≤ w.heap.size) :
    Calls Try.prog 45 #[v] w (DrPost w) := by
  have HO := Lib.hid (open_any v n hi w hv hh)
  obtain ⟨ao, cap, cb, off, Z, rfl, _⟩ := hv
  go_enter Try.func45, Try.ntmps45
  go_wp2_with fail
  refine HO.out.mono ?_
  rintro e w1 ⟨rfl, hr, hb, hs⟩
  have HB := Lib.hid hb
  have HR := Lib.hid hr
  clear hb hr hs
  go_wp2_with fail
  refine (grid_any w.heap.size 0 w1 HR.out (by omega)).mono ?_
  rintro e w2 ⟨v, g, rfl, ⟨a, l, c, rfl⟩, hm, hn, hl, _, hc⟩
  have HM := Lib.hid hm
  have HN := Lib.hid hn
  have HL := Lib.hid hl
  have HC := Lib.hid hc
  clear hm hn hl hc
  go_wp2
  go_ret
  exact ⟨_, g, rfl, ⟨_, _, _, rfl⟩, HM.out.mono (Nat.zero_le _) (Nat.le_refl _), HN.out, (fun r hr => (HL.out r hr).1), chg_below HB.out HC.out⟩

end Go.Proofs.Ytplfphpnpjjinaa
