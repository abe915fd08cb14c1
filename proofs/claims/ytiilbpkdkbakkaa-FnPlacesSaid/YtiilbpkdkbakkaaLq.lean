/- LabelPlaces: the model, and the exact law. -/
import Derived.Test.YtiilbpkdkbakkaaLp
namespace Go.Proofs.Ytiilbpkdkbakkaa
open Go.RowKit
set_option linter.unusedVariables false

/-- one label as a list -/
def lbZ (x y a g : Int) (j : Nat) : Int := if j = 0 then x else if j = 1 then y else if j = 2 then a else g
theorem lsB_one (x y a g : Int) : lsB 1 (lbZ x y a g) = lbB x y a g := by
  by_cases h : LbOk x y a g
  · rw [lbB_yes h, lsB_yes]
    refine ⟨by omega, fun i hi => ?_⟩
    obtain rfl : i = 0 := by omega
    exact ⟨h, fun k hk => by omega⟩
  · rw [lbB_no h, lsB_no]
    intro hk
    exact h (hk.2 0 (by omega)).1

theorem rdT_one {W : World} {B : Nat} {x y a g : Int} (hr : (-9223372036854775808 ≤ x ∧ x ≤ 9223372036854775807) ∧ (-9223372036854775808 ≤ y ∧ y ≤ 9223372036854775807) ∧ (-9223372036854775808 ≤ a ∧ a ≤ 9223372036854775807) ∧ (-9223372036854775808 ≤ g ∧ g ≤ 9223372036854775807))
    (h : W.heap[B]? = some (.cells #[.int .i64 x, .int .i64 y, .int .i64 a, .int .i64 g] 24 (0, 0))) : RdT 0 W.heap.size W (.slice (some ⟨B, 0, none⟩) 1 1) 1 (lbZ x y a g) := by
  obtain ⟨c0, c1, c2, c3⟩ := cellsLb h
  refine ⟨_, 1, B, 0, rfl, Nat.le_refl _, by omega, fun j hj => ?_, fun _ => ⟨rfl, Nat.zero_le _, lt_of_block h⟩, fun j hj => ?_⟩
  · unfold lbZ; obtain ⟨h0, h1, h2, h3⟩ := hr; split; exact h0; split; exact h1; split; exact h2; exact h3
  · rcases (by omega : j = 0 ∨ j = 1 ∨ j = 2 ∨ j = 3) with rfl | rfl | rfl | rfl
    · exact c0
    · exact c1
    · exact c2
    · exact c3

set_option maxRecDepth 20000 in
set_option maxHeartbeats 8000000 in
theorem specLabelPlaces_any (x y a g s : Int) (w : World) (hr : (-9223372036854775808 ≤ x ∧ x ≤ 9223372036854775807) ∧ (-9223372036854775808 ≤ y ∧ y ≤ 9223372036854775807) ∧ (-9223372036854775808 ≤ a ∧ a ≤ 9223372036854775807) ∧ (-9223372036854775808 ≤ g ∧ g ≤ 9223372036854775807)) :
    Calls Try.prog 6 #[.agg #[.int .i64 x, .int .i64 y, .int .i64 a, .int .i64 g], .int .i64 s] w (NbPost (lpB x y a g s) (lpL x y a g s) w) := by
  obtain ⟨W0, hW0⟩ : ∃ W0, (w.alloc (.cells #[.int .i64 x, .int .i64 y, .int .i64 a, .int .i64 g] 24)).alloc (.cells #[.int .i64 x, .int .i64 y, .int .i64 a, .int .i64 g] 24) = W0 := ⟨_, rfl⟩
  have HN := Lib.hid (show W0.heap[w.heap.size]? = some (.cells #[.int .i64 x, .int .i64 y, .int .i64 a, .int .i64 g] 24 (0, 0)) from by rw [← hW0]; exact heap_alloc2_old w _ _)
  have HN1 := Lib.hid (show W0.heap[w.heap.size + 1]? = some (.cells #[.int .i64 x, .int .i64 y, .int .i64 a, .int .i64 g] 24 (0, 0)) from by rw [← hW0]; exact heap_alloc2_new w _ _)
  have HB := Lib.hid (show Below w.heap.size w W0 from by rw [← hW0]; exact ((Below.refl _ _).alloc (Nat.le_refl _) _).alloc (by simp) _)
  have HI := Lib.hid (specLabelsValid_any _ 0 _ 1 _ W0 (rdT_one hr HN1.out) (Nat.le_refl _) (by omega))
  rw [lsB_one] at HI
  unfold lpB lpL
  by_cases h : LbOk x y a g
  case neg =>
    have HL := Lib.hid (lbB_no h)
    rw [HL.out]
    clear h
    go_enter Try.func6, Try.ntmps6
    go_wp2_with fail
    try rw [hW0]
    refine HI.out.mono ?_
    rintro e w1 ⟨rfl, hb1⟩
    rw [HL.out]
    have HB1 := Lib.hid (HB.out.trans (hb1.mono HB.out.size))
    clear hb1 hW0
    go_wp2
    go_ret2
    exact ⟨_, by simp, ownsRow_base (nums_lit w1) HB1.out.size, HB1.out.alloc HB1.out.size _⟩
  have HL := Lib.hid (lbB_yes h)
  rw [HL.out]
  by_cases hs : 0 ≤ s ∧ s ≤ 3
  case neg =>
    have HS := Lib.hid (show s < 0 ∨ 3 < s by omega)
    have HP := Lib.hid (show pcB x y a s = false from decide_eq_false (fun k => hs k.1))
    have HM := Lib.hid (show pcM x y a s = [] from if_neg (fun k => hs k.1))
    rw [HP.out, HM.out]
    clear h hs
    go_enter Try.func6, Try.ntmps6
    go_wp2_with fail
    try rw [hW0]
    refine HI.out.mono ?_
    rintro e w1 ⟨rfl, hb1⟩
    rw [HL.out]
    have HB1 := Lib.hid (HB.out.trans (hb1.mono HB.out.size))
    clear hb1 hW0
    go_wp2_with fail
    refine (l6In_no _ _ _ _ HS.out).mono ?_
    rintro e w2 ⟨rfl, rfl⟩
    go_wp2
    go_ret2
    exact ⟨_, by simp, ownsRow_base (nums_lit w1) HB1.out.size, HB1.out.alloc HB1.out.size _⟩
  have HS := Lib.hid hs
  have HQ := Lib.hid (fun W : World => l8Places_any x y a g s W h hs)
  have HX : ∃ (b : Bool) (l : List Int), pcB x y a s = b ∧ pcM x y a s = l ∧ pcL x y a s = l ∧ b = decide (0 < (l.length : Int)) := by
    by_cases hp : PcOk x y a s
    · refine ⟨true, _, decide_eq_true ⟨hs, hp⟩, if_pos ⟨hs, hp⟩, pcL_yes hp, ?_⟩
      rw [plK_len]
      have := h.2.2.1
      exact (decide_eq_true (by omega)).symm
    · exact ⟨false, [], decide_eq_false (fun k => hp k.2), if_neg (fun k => hp k.2), pcL_no hp, rfl⟩
  obtain ⟨b, l, e1, e2, e3, e4⟩ := HX
  rw [e1, e2]
  rw [e3] at HQ
  have HE := Lib.hid e4
  clear e1 e2 e3 e4 h hs
  go_enter Try.func6, Try.ntmps6
  go_wp2_with fail
  try rw [hW0]
  refine HI.out.mono ?_
  rintro e w1 ⟨rfl, hb1⟩
  rw [HL.out]
  have HB1 := Lib.hid (HB.out.trans (hb1.mono HB.out.size))
  have hlt := lt_of_block HN.out
  obtain ⟨c0, c1, c2, c3⟩ := cellsLb ((hb1.block _ hlt).trans HN.out)
  clear hb1 hW0
  go_wp2_with fail
  refine (l6In_yes _ _ _ _ HS.out.1 HS.out.2).mono ?_
  rintro e w2 ⟨rfl, rfl⟩
  go_wp2_with fail
  refine (HQ.out _).mono ?_
  rintro e w2 ⟨v, rfl, hn2, hb2⟩
  have HN2 := Lib.hid hn2
  have HB2 := Lib.hid (HB1.out.trans (hb2.mono HB1.out.size))
  have hs1 := HB1.out.size
  obtain ⟨va, vc, rfl⟩ := hn2.shape
  clear hn2 hb2 c0 c1 c2 c3
  go_wp2
  go_ret2
  exact ⟨_, by simp [HE.out], ownsRow_base HN2.out hs1, HB2.out⟩

/-- the places' numbers and bounds -/
theorem lpL_ok {x y a g s : Int} : NsOk (lpL x y a g s) ∧ (lpL x y a g s).length ≤ 1048576 := by
  unfold lpL pcM
  by_cases h : LbOk x y a g
  · rw [if_pos (lbB_yes h)]
    by_cases hs : (0 ≤ s ∧ s ≤ 3) ∧ PcOk x y a s
    · rw [if_pos hs, plK_len]
      have hp := hs.2
      unfold PcOk at hp
      have ha := h.2.2.1
      exact ⟨plK_ok (by unfold pcA; omega) (by unfold pcA; omega) (by omega), by omega⟩
    · rw [if_neg hs]; exact ⟨fun z hz => (by cases hz), by simp⟩
  · rw [if_neg (by rw [lbB_no h]; simp)]; exact ⟨fun z hz => (by cases hz), by simp⟩

end Go.Proofs.Ytiilbpkdkbakkaa
