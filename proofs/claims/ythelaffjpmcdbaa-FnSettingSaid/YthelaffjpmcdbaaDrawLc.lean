/- The draws of labels. -/
import Derived.Test.YthelaffjpmcdbaaDrawLb
namespace Go.Proofs.Ythelaffjpmcdbaa
open Go.RowKit
set_option linter.unusedVariables false

/-- what a law's draw of labels leaves -/
def LnPost (w : World) (e : Ending) (w' : World) : Prop :=
  ∃ b cap m Z, e = .returned (.slice (some ⟨b, 0, none⟩) m cap) ∧ RdT 0 w'.heap.size w' (.slice (some ⟨b, 0, none⟩) m cap) m Z ∧ m ≤ 7 ∧ (∀ j, j < m * 4 → -100 ≤ Z j ∧ Z j ≤ 100) ∧ Below w.heap.size w w'

set_option maxHeartbeats 1000000 in
set_option maxRecDepth 100000 in
theorem draw_DrawLabelsValid (v : Value) (n hi : Nat) (w : World) (hv : RdB hi w v n) (hh : hi ≤ w.heap.size) :
    Calls Try.prog 13 #[v] w (LnPost w) := by
  have HO := Lib.hid (open_any v n hi w hv hh)
  obtain ⟨ao, cap, cb, off, Z, rfl, _⟩ := hv
  go_enter Try.func13, Try.ntmps13
  go_wp2_with fail
  refine HO.out.mono ?_
  rintro e w1 ⟨rfl, hr, hb, hs⟩
  have HB := Lib.hid hb
  have HR := Lib.hid hr
  have hs1 : w.heap.size < w1.heap.size := by omega
  clear hb hr hs
  go_wp2_with fail
  refine (labels_any w.heap.size 0 6 w1 HR.out (by omega) (by omega) (by omega)).mono ?_
  rintro e w2 ⟨b, cp, m, Z2, q', rfl, ho, hm, hz, _, _, hc⟩
  have HO2 := Lib.hid ho.rd
  have HC := Lib.hid hc
  have HZ := Lib.hid hz
  clear ho hc hz
  go_wp2
  go_ret
  exact ⟨b, cp, m, Z2, rfl, HO2.out.mono (Nat.zero_le _) (Nat.le_refl _), hm, HZ.out, chg_below HB.out HC.out⟩

set_option maxHeartbeats 1000000 in
set_option maxRecDepth 100000 in
theorem draw_DrawLabelsFlip (v : Value) (n hi : Nat) (w : World) (hv : RdB hi w v n) (hh : hi ≤ w.heap.size) :
    Calls Try.prog 33 #[v] w (LnPost w) := by
  have HO := Lib.hid (open_any v n hi w hv hh)
  obtain ⟨ao, cap, cb, off, Z, rfl, _⟩ := hv
  go_enter Try.func33, Try.ntmps33
  go_wp2_with fail
  refine HO.out.mono ?_
  rintro e w1 ⟨rfl, hr, hb, hs⟩
  have HB := Lib.hid hb
  have HR := Lib.hid hr
  have hs1 : w.heap.size < w1.heap.size := by omega
  clear hb hr hs
  go_wp2_with fail
  refine (labels_any w.heap.size 0 4 w1 HR.out (by omega) (by omega) (by omega)).mono ?_
  rintro e w2 ⟨b, cp, m, Z2, q', rfl, ho, hm, hz, _, _, hc⟩
  have HO2 := Lib.hid ho.rd
  have HC := Lib.hid hc
  have HZ := Lib.hid hz
  clear ho hc hz
  go_wp2
  go_ret
  exact ⟨b, cp, m, Z2, rfl, HO2.out.mono (Nat.zero_le _) (Nat.le_refl _), hm, HZ.out, chg_below HB.out HC.out⟩

set_option maxHeartbeats 1000000 in
set_option maxRecDepth 100000 in
theorem draw_DrawSettingMany (v : Value) (n hi : Nat) (w : World) (hv : RdB hi w v n) (hh : hi ≤ w.heap.size) :
    Calls Try.prog 25 #[v] w (LnPost w) := by
  have HO := Lib.hid (open_any v n hi w hv hh)
  obtain ⟨ao, cap, cb, off, Z, rfl, _⟩ := hv
  go_enter Try.func25, Try.ntmps25
  go_wp2_with fail
  refine HO.out.mono ?_
  rintro e w1 ⟨rfl, hr, hb, hs⟩
  have HB := Lib.hid hb
  have HR := Lib.hid hr
  have hs1 : w.heap.size < w1.heap.size := by omega
  clear hb hr hs
  go_wp2_with fail
  refine (labels_any w.heap.size 0 4 w1 HR.out (by omega) (by omega) (by omega)).mono ?_
  rintro e w2 ⟨b, cp, m, Z2, q', rfl, ho, hm, hz, _, _, hc⟩
  have HO2 := Lib.hid ho.rd
  have HC := Lib.hid hc
  have HZ := Lib.hid hz
  clear ho hc hz
  go_wp2
  go_ret
  exact ⟨b, cp, m, Z2, rfl, HO2.out.mono (Nat.zero_le _) (Nat.le_refl _), hm, HZ.out, chg_below HB.out HC.out⟩

set_option maxHeartbeats 1000000 in
set_option maxRecDepth 100000 in
theorem draw_DrawSettingGreedy (v : Value) (n hi : Nat) (w : World) (hv : RdB hi w v n) (hh : hi ≤ w.heap.size) :
    Calls Try.prog 37 #[v] w (LnPost w) := by
  have HO := Lib.hid (open_any v n hi w hv hh)
  obtain ⟨ao, cap, cb, off, Z, rfl, _⟩ := hv
  go_enter Try.func37, Try.ntmps37
  go_wp2_with fail
  refine HO.out.mono ?_
  rintro e w1 ⟨rfl, hr, hb, hs⟩
  have HB := Lib.hid hb
  have HR := Lib.hid hr
  have hs1 : w.heap.size < w1.heap.size := by omega
  clear hb hr hs
  go_wp2_with fail
  refine (labels_any w.heap.size 0 6 w1 HR.out (by omega) (by omega) (by omega)).mono ?_
  rintro e w2 ⟨b, cp, m, Z2, q', rfl, ho, hm, hz, _, _, hc⟩
  have HO2 := Lib.hid ho.rd
  have HC := Lib.hid hc
  have HZ := Lib.hid hz
  clear ho hc hz
  go_wp2
  go_ret
  exact ⟨b, cp, m, Z2, rfl, HO2.out.mono (Nat.zero_le _) (Nat.le_refl _), hm, HZ.out, chg_below HB.out HC.out⟩

set_option maxHeartbeats 1000000 in
set_option maxRecDepth 100000 in
theorem draw_DrawSettingBest (v : Value) (n hi : Nat) (w : World) (hv : RdB hi w v n) (hh : hi ≤ w.heap.size) :
    Calls Try.prog 41 #[v] w (LnPost w) := by
  have HO := Lib.hid (open_any v n hi w hv hh)
  obtain ⟨ao, cap, cb, off, Z, rfl, _⟩ := hv
  go_enter Try.func41, Try.ntmps41
  go_wp2_with fail
  refine HO.out.mono ?_
  rintro e w1 ⟨rfl, hr, hb, hs⟩
  have HB := Lib.hid hb
  have HR := Lib.hid hr
  have hs1 : w.heap.size < w1.heap.size := by omega
  clear hb hr hs
  go_wp2_with fail
  refine (labels_any w.heap.size 0 4 w1 HR.out (by omega) (by omega) (by omega)).mono ?_
  rintro e w2 ⟨b, cp, m, Z2, q', rfl, ho, hm, hz, _, _, hc⟩
  have HO2 := Lib.hid ho.rd
  have HC := Lib.hid hc
  have HZ := Lib.hid hz
  clear ho hc hz
  go_wp2
  go_ret
  exact ⟨b, cp, m, Z2, rfl, HO2.out.mono (Nat.zero_le _) (Nat.le_refl _), hm, HZ.out, chg_below HB.out HC.out⟩

set_option maxHeartbeats 1000000 in
set_option maxRecDepth 100000 in
theorem draw_DrawSettingMost (v : Value) (n hi : Nat) (w : World) (hv : RdB hi w v n) (hh : hi ≤ w.heap.size) :
    Calls Try.prog 43 #[v] w (LnPost w) := by
  have HO := Lib.hid (open_any v n hi w hv hh)
  obtain ⟨ao, cap, cb, off, Z, rfl, _⟩ := hv
  go_enter Try.func43, Try.ntmps43
  go_wp2_with fail
  refine HO.out.mono ?_
  rintro e w1 ⟨rfl, hr, hb, hs⟩
  have HB := Lib.hid hb
  have HR := Lib.hid hr
  have hs1 : w.heap.size < w1.heap.size := by omega
  clear hb hr hs
  go_wp2_with fail
  refine (labels_any w.heap.size 0 4 w1 HR.out (by omega) (by omega) (by omega)).mono ?_
  rintro e w2 ⟨b, cp, m, Z2, q', rfl, ho, hm, hz, _, _, hc⟩
  have HO2 := Lib.hid ho.rd
  have HC := Lib.hid hc
  have HZ := Lib.hid hz
  clear ho hc hz
  go_wp2
  go_ret
  exact ⟨b, cp, m, Z2, rfl, HO2.out.mono (Nat.zero_le _) (Nat.le_refl _), hm, HZ.out, chg_below HB.out HC.out⟩

end Go.Proofs.Ythelaffjpmcdbaa
