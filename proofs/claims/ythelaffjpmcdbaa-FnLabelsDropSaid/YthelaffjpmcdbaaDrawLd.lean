/- The draw of labels and a number. -/
import Derived.Test.YthelaffjpmcdbaaDrawLc
import Derived.Test.YthelaffjpmcdbaaDrawQ
namespace Go.Proofs.Ythelaffjpmcdbaa
open Go.RowKit
set_option linter.unusedVariables false

def LkPost (w : World) (e : Ending) (w' : World) : Prop :=
  ∃ b cap m Z k, e = .returned (.tuple #[.slice (some ⟨b, 0, none⟩) m cap, .int .i64 k]) ∧ RdT 0 w'.heap.size w' (.slice (some ⟨b, 0, none⟩) m cap) m Z ∧ m ≤ 7 ∧ (∀ j, j < m * 4 → -100 ≤ Z j ∧ Z j ≤ 100) ∧ (-1 ≤ k ∧ k ≤ m) ∧ Below w.heap.size w w'

set_option maxHeartbeats 1000000 in
set_option maxRecDepth 100000 in
theorem draw_DrawLabelsDrop (v : Value) (n hi : Nat) (w : World) (hv : RdB hi w v n) (hh : hi ≤ w.heap.size) :
    Calls Try.prog 28 #[v] w (LkPost w) := by
  have HO := Lib.hid (open_any v n hi w hv hh)
  obtain ⟨ao, cap, cb, off, Z, rfl, _⟩ := hv
  go_enter Try.func28, Try.ntmps28
  go_wp2_with fail
  refine HO.out.mono ?_
  rintro e w1 ⟨rfl, hr, hb, hs⟩
  have HB := Lib.hid hb
  have HR := Lib.hid hr
  have hs1 : w.heap.size < w1.heap.size := by omega
  clear hb hr hs
  go_wp2_with fail
  refine (labels_any w.heap.size 0 4 w1 HR.out (by omega) (by omega) (by omega)).mono ?_
  rintro e w2 ⟨b, cp, m, Z2, q', rfl, ho, hm, hz, hq2, hr2, hc⟩
  have HO2 := Lib.hid ho.rd
  have HC := Lib.hid hc
  have HR2 := Lib.hid hr2
  have HZ := Lib.hid hz
  have hs2 : w1.heap.size ≤ w2.heap.size := hc.size
  clear ho hc hz hr2
  go_wp2_with fail
  refine (l91At_any w.heap.size q' m w2 HR2.out (by omega) (by omega) (by omega)).mono ?_
  rintro e w3 ⟨k, rfl, hk, ⟨_, _, _⟩, hc3⟩
  have HC3 := Lib.hid hc3
  have hs3 : w2.heap.size ≤ w3.heap.size := hc3.size
  have HO3 := Lib.hid (HO2.out.same (fun k h1 h2 => hc3.block k (by omega) (by omega)))
  clear hc3
  go_wp2
  go_ret2
  exact ⟨b, cp, m, Z2, k, rfl, HO3.out.mono (Nat.zero_le _) (by omega), hm, HZ.out, hk, by exact chg_below HB.out (HC.out.trans HC3.out)⟩
end Go.Proofs.Ythelaffjpmcdbaa
