/- The draws of levels for regions, numbers, areas and what lies inside. -/
import Derived.Test.YtplfphpnpjjinaaDrawL
namespace Go.Proofs.Ytplfphpnpjjinaa
open Go.RowKit
set_option linter.unusedVariables false

set_option maxHeartbeats 1000000 in
set_option maxRecDepth 100000 in
theorem draw_DrawLevelRegions (v : Value) (n hi : Nat) (w : World) (hv : RdB hi w v n) (hh : hi ≤ w.heap.size) :
    Calls Try.prog 11 #[v] w (DkPost w) := by
  have HO := Lib.hid (open_any v n hi w hv hh)
  obtain ⟨ao, cap, cb, off, Z, rfl, _⟩ := hv
  go_enter Try.func11, Try.ntmps11
  go_wp2_with fail
  refine HO.out.mono ?_
  rintro e w1 ⟨rfl, hr, hb, hs⟩
  have HB := Lib.hid hb
  have HR := Lib.hid hr
  clear hb hr
  go_wp2_with fail
  refine (level_any w.heap.size 0 w1 HR.out (by omega) (by omega)).mono ?_
  rintro e w2 ⟨v, g, k, rfl, ⟨a, l, c, rfl⟩, hm, hn, hl, hk, _, hc⟩
  have HM := Lib.hid hm
  have HN := Lib.hid hn
  have HL := Lib.hid hl
  have HC := Lib.hid hc
  have HK := Lib.hid hk
  clear hm hn hl hc hk
  go_wp2
  go_ret2
  exact ⟨_, g, _, rfl, ⟨_, _, _, rfl⟩, HM.out.mono (Nat.zero_le _) (Nat.le_refl _), HN.out, HL.out, by have := HK.out; omega, chg_below HB.out HC.out⟩

set_option maxHeartbeats 1000000 in
set_option maxRecDepth 100000 in
theorem draw_DrawLevelNumbers (v : Value) (n hi : Nat) (w : World) (hv : RdB hi w v n) (hh : hi ≤ w.heap.size) :
    Calls Try.prog 20 #[v] w (DkPost w) := by
  have HO := Lib.hid (open_any v n hi w hv hh)
  obtain ⟨ao, cap, cb, off, Z, rfl, _⟩ := hv
  go_enter Try.func20, Try.ntmps20
  go_wp2_with fail
  refine HO.out.mono ?_
  rintro e w1 ⟨rfl, hr, hb, hs⟩
  have HB := Lib.hid hb
  have HR := Lib.hid hr
  clear hb hr
  go_wp2_with fail
  refine (level_any w.heap.size 0 w1 HR.out (by omega) (by omega)).mono ?_
  rintro e w2 ⟨v, g, k, rfl, ⟨a, l, c, rfl⟩, hm, hn, hl, hk, _, hc⟩
  have HM := Lib.hid hm
  have HN := Lib.hid hn
  have HL := Lib.hid hl
  have HC := Lib.hid hc
  have HK := Lib.hid hk
  clear hm hn hl hc hk
  go_wp2
  go_ret2
  exact ⟨_, g, _, rfl, ⟨_, _, _, rfl⟩, HM.out.mono (Nat.zero_le _) (Nat.le_refl _), HN.out, HL.out, by have := HK.out; omega, chg_below HB.out HC.out⟩

/-- what a draw of a grid, a level and a number leaves -/
def DlPost (w : World) (e : Ending) (w' : World) : Prop :=
  ∃ v g k s, e = .returned (.tuple #[v, .int .i64 k, .int .i64 s]) ∧ (∃ a l c, v = .slice a l c) ∧ RdM 0 w'.heap.size w' v g ∧ (1 ≤ g.n ∧ g.n ≤ 5) ∧ (∀ r, r < g.n → g.len r ≤ 9) ∧ (-1 ≤ k ∧ k ≤ 101) ∧ (-110 ≤ s ∧ s ≤ 110) ∧ Below w.heap.size w w'

set_option maxHeartbeats 1000000 in
set_option maxRecDepth 100000 in
theorem draw_DrawLevelArea (v : Value) (n hi : Nat) (w : World) (hv : RdB hi w v n) (hh : hi ≤ w.heap.size) :
    Calls Try.prog 17 #[v] w (DlPost w) := by
  have HO := Lib.hid (open_any v n hi w hv hh)
  obtain ⟨ao, cap, cb, off, Z, rfl, _⟩ := hv
  go_enter Try.func17, Try.ntmps17
  go_wp2_with fail
  refine HO.out.mono ?_
  rintro e w1 ⟨rfl, hr, hb, hs⟩
  have HB := Lib.hid hb
  have HR := Lib.hid hr
  clear hb hr
  go_wp2_with fail
  refine (level_any w.heap.size 0 w1 HR.out (by omega) (by omega)).mono ?_
  rintro e w2 ⟨v, g, k, rfl, ⟨a, l, c, rfl⟩, hm, hn, hl, ⟨hk1, hk2⟩, ⟨q', hq', hr2⟩, hc⟩
  have HM := Lib.hid hm
  have HN := Lib.hid hn
  have HL := Lib.hid hl
  have HC := Lib.hid hc
  have HR2 := Lib.hid hr2
  have hs2 : w1.heap.size ≤ w2.heap.size := hc.size
  clear hm hn hl hc hr2
  go_wp2_with fail
  refine (pick_any w.heap.size q' 4 _ HR2.out (by omega) (by omega) (by omega)).mono ?_
  rintro e w3 ⟨x, hx, rfl, hr3, hc3, hs3⟩
  have HM3 := Lib.hid (HM.out.same (hc3.sameIn (Nat.le_refl _) (Or.inr (Nat.le_refl _))))
  have HC3 := Lib.hid (HC.out.trans hc3)
  have HR3 := Lib.hid hr3
  have hs3' : w2.heap.size ≤ w3.heap.size := by omega
  clear hr3 hc3 hs3
  go_wp2_with fail
  refine (pick_any w.heap.size (q' + 1) 12 _ HR3.out (by omega) (by omega) (by omega)).mono ?_
  rintro e w4 ⟨y, hy, rfl, hr4, hc4, hs4⟩
  have HM4 := Lib.hid (HM3.out.same (hc4.sameIn (by omega) (Or.inr (Nat.le_refl _))))
  have HC4 := Lib.hid (HC3.out.trans hc4)
  have hs4' : w3.heap.size ≤ w4.heap.size := by omega
  clear hr4 hc4 hs4
  have hy11 : ((y : Int).tdiv 11 = 0 ∨ (y : Int).tdiv 11 = 1) := by rw [Int.tdiv_eq_ediv_of_nonneg (by omega)]; omega
  rcases hy11 with hd | hd
  all_goals
    go_wp2
    go_ret3
    exact ⟨_, g, _, _, rfl, ⟨_, _, _, rfl⟩, HM4.out.mono (Nat.zero_le _) (by omega), HN.out, HL.out, by omega, by omega, chg_below HB.out HC4.out⟩

set_option maxHeartbeats 1000000 in
set_option maxRecDepth 100000 in
theorem draw_DrawLevelInside (v : Value) (n hi : Nat) (w : World) (hv : RdB hi w v n) (hh : hi ≤ w.heap.size) :
    Calls Try.prog 27 #[v] w (DlPost w) := by
  have HO := Lib.hid (open_any v n hi w hv hh)
  obtain ⟨ao, cap, cb, off, Z, rfl, _⟩ := hv
  go_enter Try.func27, Try.ntmps27
  go_wp2_with fail
  refine HO.out.mono ?_
  rintro e w1 ⟨rfl, hr, hb, hs⟩
  have HB := Lib.hid hb
  have HR := Lib.hid hr
  clear hb hr
  go_wp2_with fail
  refine (level_any w.heap.size 0 w1 HR.out (by omega) (by omega)).mono ?_
  rintro e w2 ⟨v, g, k, rfl, ⟨a, l, c, rfl⟩, hm, hn, hl, ⟨hk1, hk2⟩, ⟨q', hq', hr2⟩, hc⟩
  have HM := Lib.hid hm
  have HN := Lib.hid hn
  have HL := Lib.hid hl
  have HC := Lib.hid hc
  have HR2 := Lib.hid hr2
  have hs2 : w1.heap.size ≤ w2.heap.size := hc.size
  clear hm hn hl hc hr2
  go_wp2_with fail
  refine (pick_any w.heap.size q' 3 _ HR2.out (by omega) (by omega) (by omega)).mono ?_
  rintro e w3 ⟨x, hx, rfl, hr3, hc3, hs3⟩
  have HM3 := Lib.hid (HM.out.same (hc3.sameIn (Nat.le_refl _) (Or.inr (Nat.le_refl _))))
  have HC3 := Lib.hid (HC.out.trans hc3)
  have HR3 := Lib.hid hr3
  have hs3' : w2.heap.size ≤ w3.heap.size := by omega
  clear hr3 hc3 hs3
  go_wp2_with fail
  refine (pick_any w.heap.size (q' + 1) 12 _ HR3.out (by omega) (by omega) (by omega)).mono ?_
  rintro e w4 ⟨y, hy, rfl, hr4, hc4, hs4⟩
  have HM4 := Lib.hid (HM3.out.same (hc4.sameIn (by omega) (Or.inr (Nat.le_refl _))))
  have HC4 := Lib.hid (HC3.out.trans hc4)
  have hs4' : w3.heap.size ≤ w4.heap.size := by omega
  clear hr4 hc4 hs4
  have hy11 : ((y : Int).tdiv 11 = 0 ∨ (y : Int).tdiv 11 = 1) := by rw [Int.tdiv_eq_ediv_of_nonneg (by omega)]; omega
  rcases hy11 with hd | hd
  all_goals
    go_wp2
    go_ret3
    exact ⟨_, g, _, _, rfl, ⟨_, _, _, rfl⟩, HM4.out.mono (Nat.zero_le _) (by omega), HN.out, HL.out, by omega, by omega, chg_below HB.out HC4.out⟩

end Go.Proofs.Ytplfphpnpjjinaa
