/- Draws of profiles to be thinned, and of points. -/
import Derived.Test.YtmfdflkpbejpoaaDrawQ
namespace Go.Proofs.Ytmfdflkpbejpoaa
open Go.RowKit
set_option linter.unusedVariables false

set_option maxHeartbeats 4000000 in
set_option maxRecDepth 100000 in
theorem draw_DrawThinHalf (v : Value) (n hi : Nat) (w : World) (hv : RdB hi w v n) (hh : hi ≤ w.heap.size) :
    Calls Try.prog 42 #[v] w (DpPost w) := by
  have HO := Lib.hid (open_any v n hi w hv hh)
  obtain ⟨ao, cap, cb, off, Z, rfl, _⟩ := hv
  obtain ⟨B, eB⟩ : ∃ B, w.heap.size = B := ⟨_, rfl⟩
  have EB := Lib.hid eB
  clear eB
  go_enter Try.func42, Try.ntmps42
  go_wp2_with fail
  refine HO.out.mono ?_
  rintro e w1 ⟨rfl, hr, hb, hs⟩
  rw [EB.out] at hr hb hs ⊢
  have HB := Lib.hid hb
  have HR := Lib.hid hr
  have hs1 : B < w1.heap.size := by omega
  clear hb hr hs
  go_wp2_with fail
  refine (profile_any B 0 9 w1 HR.out hs1 (by omega) (by omega) (by omega)).mono ?_
  rintro e w2 ⟨v, n2, Z2, rfl, ⟨a, l, c, rfl⟩, hm, hn2, hz2, ⟨q2, hq2, hr2⟩, hc⟩
  have HM2 := Lib.hid hm
  have HZ2 := Lib.hid hz2
  have HC2 := Lib.hid hc
  have HR2 := Lib.hid hr2
  have hs2 : w1.heap.size ≤ w2.heap.size := hc.size
  obtain ⟨_, _, e0⟩ := hm.shape
  simp only [Value.slice.injEq] at e0
  obtain ⟨rfl, rfl, rfl⟩ := e0
  clear hm hz2 hc hr2
  go_wp2
  go_ret
  exact ⟨_, l, Z2, rfl, ⟨_, _, _, rfl⟩, HM2.out.mono (Nat.zero_le _) (Nat.le_refl _), hn2, HZ2.out, by rw [← EB.out] at *; exact chg_below HB.out HC2.out⟩


end Go.Proofs.Ytmfdflkpbejpoaa
