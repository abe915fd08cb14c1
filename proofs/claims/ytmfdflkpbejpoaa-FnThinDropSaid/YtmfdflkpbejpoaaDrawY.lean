/- The draw of a profile, points and an index. -/
import Derived.Test.YtmfdflkpbejpoaaDrawX
namespace Go.Proofs.Ytmfdflkpbejpoaa
open Go.RowKit
set_option linter.unusedVariables false

/-- a profile, points and an index of a point, drawn from the start -/
def DiPost (w : World) (e : Ending) (w' : World) : Prop :=
  ∃ v n Z u m Y k, e = .returned (.tuple #[v, u, .int .i64 k]) ∧ RdI 0 w'.heap.size w' v n Z ∧ RdI 0 w'.heap.size w' u m Y ∧ n ≤ 8 ∧ m ≤ 8 ∧ (∀ i, i < n → -1 ≤ Z i ∧ Z i ≤ 100) ∧ (-1 ≤ k ∧ k ≤ m) ∧ Below w.heap.size w w'

set_option maxHeartbeats 4000000 in
set_option maxRecDepth 100000 in
theorem draw_DrawThinDrop (v : Value) (n hi : Nat) (w : World) (hv : RdB hi w v n) (hh : hi ≤ w.heap.size) :
    Calls Try.prog 45 #[v] w (DiPost w) := by
  have HO := Lib.hid (open_any v n hi w hv hh)
  obtain ⟨ao, cap, cb, off, Z, rfl, _⟩ := hv
  obtain ⟨B, eB⟩ : ∃ B, w.heap.size = B := ⟨_, rfl⟩
  have EB := Lib.hid eB
  clear eB
  go_enter Try.func45, Try.ntmps45
  go_wp2_with fail
  refine HO.out.mono ?_
  rintro e w1 ⟨rfl, hr, hb, hs⟩
  rw [EB.out] at hr hb hs ⊢
  have HB := Lib.hid hb
  have HR := Lib.hid hr
  have hs1 : B < w1.heap.size := by omega
  clear hb hr hs
  go_wp2_with fail
  refine (thin_any B 0 w1 HR.out hs1 (by omega)).mono ?_
  rintro e w2 ⟨v, n2, Z2, u, m2, Y2, rfl, hm, hu, hn2, hm2, hz2, ⟨q2, hq2, hr2⟩, hc⟩
  have HM2 := Lib.hid hm
  have HU2 := Lib.hid hu
  have HZ2 := Lib.hid hz2
  have HC2 := Lib.hid hc
  have HPK := Lib.hid (show Calls Try.prog 73 #[.pointer (some ⟨B, 0, none⟩), .int .i64 ((m2 : Int) + 1)] w2 (PickPost B q2 (m2 + 1) w2) from by
    have h := pick_any B q2 (m2 + 1) w2 hr2 (by omega) (by omega) (by omega)
    rw [show ((m2 + 1 : Nat) : Int) = (m2 : Int) + 1 by omega] at h
    exact h)
  have hs2 : w1.heap.size ≤ w2.heap.size := hc.size
  obtain ⟨va, vc, rfl⟩ := hm.shape
  obtain ⟨ua, uc, rfl⟩ := hu.shape
  clear hm hu hz2 hc hr2
  go_wp2_with fail
  refine HPK.out.mono ?_
  rintro e w3 ⟨x, hx, rfl, hr3, hc3, hs3⟩
  have HM3 := Lib.hid (HM2.out.same (hc3.sameIn (Nat.le_refl _) (Or.inr (Nat.le_refl _))))
  have HU3 := Lib.hid (HU2.out.same (hc3.sameIn (Nat.le_refl _) (Or.inr (Nat.le_refl _))))
  have HC3 := Lib.hid (HC2.out.trans hc3)
  have HR3 := Lib.hid hr3
  have hs3' : w2.heap.size ≤ w3.heap.size := by omega
  clear hr3 hc3 hs3
  go_wp2_with fail
  refine (pick_any B (q2 + 1) 12 _ HR3.out (by omega) (by omega) (by omega)).mono ?_
  rintro e w4 ⟨y, hy, rfl, hr4, hc4, hs4⟩
  have HM4 := Lib.hid (HM3.out.same (hc4.sameIn (by omega) (Or.inr (Nat.le_refl _))))
  have HU4 := Lib.hid (HU3.out.same (hc4.sameIn (by omega) (Or.inr (Nat.le_refl _))))
  have HC4 := Lib.hid (HC3.out.trans hc4)
  have hs4' : w3.heap.size ≤ w4.heap.size := by omega
  clear hr4 hc4 hs4
  have hy11 : ((y : Int).tdiv 11 = 0 ∨ (y : Int).tdiv 11 = 1) := by rw [Int.tdiv_eq_ediv_of_nonneg (by omega)]; omega
  rcases hy11 with hd | hd
  all_goals
    go_wp2
    go_ret3
    exact ⟨_, n2, Z2, _, m2, Y2, _, rfl, HM4.out.mono (Nat.zero_le _) (by omega), HU4.out.mono (Nat.zero_le _) (by omega), hn2, hm2, HZ2.out, by omega, by rw [← EB.out] at *; exact chg_below HB.out HC4.out⟩

end Go.Proofs.Ytmfdflkpbejpoaa
