/- The draws of labels with sides. -/
import Derived.Test.YthelaffjpmcdbaaDrawSt
namespace Go.Proofs.Ythelaffjpmcdbaa
open Go.RowKit
set_option linter.unusedVariables false

/-- what a law's draw of labels with sides leaves -/
def ShPost (w : World) (e : Ending) (w' : World) : Prop :=
  ∃ b cap m Z b2 c2 D, e = .returned (.tuple #[.slice (some ⟨b, 0, none⟩) m cap, .slice (some ⟨b2, 0, none⟩) m c2]) ∧ RdT 0 w'.heap.size w' (.slice (some ⟨b, 0, none⟩) m cap) m Z ∧ RdI 0 w'.heap.size w' (.slice (some ⟨b2, 0, none⟩) m c2) m D ∧ m ≤ 7 ∧ (∀ j, j < m * 4 → -100 ≤ Z j ∧ Z j ≤ 100) ∧ (∀ j, j < m → -100 ≤ D j ∧ D j ≤ 100) ∧ Below w.heap.size w w'

set_option maxHeartbeats 1000000 in
set_option maxRecDepth 100000 in
theorem draw_DrawSettingValid (v : Value) (n hi : Nat) (w : World) (hv : RdB hi w v n) (hh : hi ≤ w.heap.size) :
    Calls Try.prog 17 #[v] w (ShPost w) := by
  have HO := Lib.hid (open_any v n hi w hv hh)
  obtain ⟨ao, cap, cb, off, Z, rfl, _⟩ := hv
  go_enter Try.func17, Try.ntmps17
  go_wp2_with fail
  refine HO.out.mono ?_
  rintro e w1 ⟨rfl, hr, hb, hs⟩
  have HB := Lib.hid hb
  have HR := Lib.hid hr
  have hs1 : w.heap.size < w1.heap.size := by omega
  clear hb hr hs
  go_wp2_with fail
  refine (setting_draw w.heap.size 0 w1 HR.out (by omega) (by omega)).mono ?_
  rintro e w2 ⟨b, cp, m, Z2, b2, c2, D, q', rfl, ho, hd, hm, hz, hdr, _, _, hc⟩
  have HO2 := Lib.hid ho
  have HD2 := Lib.hid hd
  have HC := Lib.hid hc
  have HZ := Lib.hid hz
  have HDR := Lib.hid hdr
  clear ho hd hc hz hdr
  go_wp2
  go_ret2
  exact ⟨b, cp, m, Z2, b2, c2, D, rfl, HO2.out.mono (Nat.zero_le _) (Nat.le_refl _), HD2.out.mono (Nat.zero_le _) (Nat.le_refl _), hm, HZ.out, HDR.out, chg_below HB.out HC.out⟩

set_option maxHeartbeats 1000000 in
set_option maxRecDepth 100000 in
theorem draw_DrawSettingWeight (v : Value) (n hi : Nat) (w : World) (hv : RdB hi w v n) (hh : hi ≤ w.heap.size) :
    Calls Try.prog 22 #[v] w (ShPost w) := by
  have HO := Lib.hid (open_any v n hi w hv hh)
  obtain ⟨ao, cap, cb, off, Z, rfl, _⟩ := hv
  go_enter Try.func22, Try.ntmps22
  go_wp2_with fail
  refine HO.out.mono ?_
  rintro e w1 ⟨rfl, hr, hb, hs⟩
  have HB := Lib.hid hb
  have HR := Lib.hid hr
  have hs1 : w.heap.size < w1.heap.size := by omega
  clear hb hr hs
  go_wp2_with fail
  refine (setting_draw w.heap.size 0 w1 HR.out (by omega) (by omega)).mono ?_
  rintro e w2 ⟨b, cp, m, Z2, b2, c2, D, q', rfl, ho, hd, hm, hz, hdr, _, _, hc⟩
  have HO2 := Lib.hid ho
  have HD2 := Lib.hid hd
  have HC := Lib.hid hc
  have HZ := Lib.hid hz
  have HDR := Lib.hid hdr
  clear ho hd hc hz hdr
  go_wp2
  go_ret2
  exact ⟨b, cp, m, Z2, b2, c2, D, rfl, HO2.out.mono (Nat.zero_le _) (Nat.le_refl _), HD2.out.mono (Nat.zero_le _) (Nat.le_refl _), hm, HZ.out, HDR.out, chg_below HB.out HC.out⟩

end Go.Proofs.Ythelaffjpmcdbaa
