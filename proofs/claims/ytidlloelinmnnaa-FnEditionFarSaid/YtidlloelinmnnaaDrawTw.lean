/- The draws of two grids. -/
import Derived.Test.YtidlloelinmnnaaDrawR
import Derived.Test.YtidlloelinmnnaaPBase
namespace Go.Proofs.Ytidlloelinmnnaa
open Go.RowKit
set_option linter.unusedVariables false

/-- what the draw of two grids leaves -/
def TwoPost (B : Nat) (w : World) (e : Ending) (w' : World) : Prop :=
  ∃ v g u h, e = .returned (.tuple #[v, u]) ∧ (∃ a l c, v = .slice a l c) ∧ (∃ a l c, u = .slice a l c) ∧ RdM (B + 1) w'.heap.size w' v g ∧ RdM (B + 1) w'.heap.size w' u h ∧ (1 ≤ g.n ∧ g.n ≤ 5) ∧ (1 ≤ h.n ∧ h.n ≤ 5) ∧ (∀ r, r < g.n → g.len r ≤ 9) ∧ (∀ r, r < h.n → h.len r ≤ 9) ∧ Chg B (B + 1) w w'

set_option maxHeartbeats 4000000 in
set_option maxRecDepth 100000 in
theorem two_any (B q : Nat) (w : World) (h : Rdr w B q) (hBw : B < w.heap.size) (hq : q ≤ 300) :
    Calls Try.prog 88 #[.pointer (some ⟨B, 0, none⟩)] w (TwoPost B w) := by
  have HR := Lib.hid h
  clear h
  go_enter Try.func88, Try.ntmps88
  go_wp2_with fail
  refine (pick_any B q 4 _ HR.out (by omega) (by omega) (by omega)).mono ?_
  rintro e w1 ⟨x, hx, rfl, hr1, hc1, hs1⟩
  have HR1 := Lib.hid hr1
  have HC1 := Lib.hid hc1
  have hs1' : w.heap.size ≤ w1.heap.size := by omega
  clear hr1 hc1 hs1
  go_wp2_with fail
  refine (pick_any B (q + 1) 4 _ HR1.out (by omega) (by omega) (by omega)).mono ?_
  rintro e w2 ⟨y, hy, rfl, hr2, hc2, hs2⟩
  have HR2 := Lib.hid hr2
  have HC2 := Lib.hid (HC1.out.trans hc2)
  have hs2' : w1.heap.size ≤ w2.heap.size := by omega
  clear hr2 hc2 hs2
  have ex1 : 1 + (x : Int) = ((x + 1 : Nat) : Int) := by omega
  have ey1 : 1 + (y : Int) = ((y + 1 : Nat) : Int) := by omega
  have EX := Lib.hid ex1
  have EY := Lib.hid ey1
  have EX2 := Lib.hid (show (x : Int) + 1 = ((x + 1 : Nat) : Int) by omega)
  have EY2 := Lib.hid (show (y : Int) + 1 = ((y + 1 : Nat) : Int) by omega)
  clear ex1 ey1
  go_wp2_with fail
  rw [EX.out, EY.out]
  refine (rough_any B (q + 2) (x + 1) (y + 1) _ HR2.out (by omega) (by omega) (by omega) (by omega) (by omega)).mono ?_
  rintro e w3 ⟨v, g, rfl, ⟨a1, l1, c1, rfl⟩, hm, hn, hsh, ⟨q3, hq3, hr3⟩, hc3⟩
  have HM := Lib.hid hm
  have HN := Lib.hid (show 1 ≤ g.n ∧ g.n ≤ 5 by omega)
  have HL := Lib.hid (fun r hr => (hsh r hr).1)
  have HR3 := Lib.hid hr3
  have HC3 := Lib.hid (HC2.out.trans hc3)
  have hs3' : w2.heap.size ≤ w3.heap.size := hc3.size
  clear hm hn hsh hr3 hc3
  go_wp2_with fail
  refine (pick_any B q3 10 _ HR3.out (by omega) (by omega) (by omega)).mono ?_
  rintro e w4 ⟨z, hz, rfl, hr4, hc4, hs4⟩
  have HR4 := Lib.hid hr4
  have HC4 := Lib.hid (HC3.out.trans hc4)
  have HM4 := Lib.hid (HM.out.same (hc4.sameIn (Nat.le_refl _) (Or.inr (Nat.le_refl _))))
  have hs4' : w3.heap.size ≤ w4.heap.size := by omega
  clear hr4 hc4 hs4 HM
  by_cases z0 : z = 0
  · subst z0
    go_wp2_with fail
    refine (grid_any B (q3 + 1) _ HR4.out (by omega)).mono ?_
    rintro e w5 ⟨u, h, rfl, ⟨a2, l2, c2, rfl⟩, hm5, hn5, hl5, _, hc5⟩
    have HM5 := Lib.hid hm5
    have HN5 := Lib.hid hn5
    have HL5 := Lib.hid (fun r hr => (hl5 r hr).1)
    have HC5 := Lib.hid hc5
    have hs5' : w4.heap.size ≤ w5.heap.size := hc5.size
    clear hm5 hn5 hl5 hc5
    go_wp2
    go_ret2
    exact ⟨_, g, _, h, rfl, ⟨_, _, _, rfl⟩, ⟨_, _, _, rfl⟩, (HM4.out.same (HC5.out.sameIn (by omega) (Or.inr (Nat.le_refl _)))).mono (Nat.le_refl _) (by omega), HM5.out, HN.out, HN5.out, HL.out, HL5.out, HC4.out.trans HC5.out⟩
  · have e0 : ((z : Int) == 0) = false := by rw [beq_eq_false_iff_ne]; omega
    clear z0
    go_wp2_with fail
    rw [EX2.out, EY2.out]
    refine (rough_any B (q3 + 1) (x + 1) (y + 1) _ HR4.out (by omega) (by omega) (by omega) (by omega) (by omega)).mono ?_
    rintro e w5 ⟨u, h, rfl, ⟨a2, l2, c2, rfl⟩, hm5, hn5, hsh5, _, hc5⟩
    have HM5 := Lib.hid hm5
    have HN5 := Lib.hid (show 1 ≤ h.n ∧ h.n ≤ 5 by omega)
    have HL5 := Lib.hid (fun r hr => (hsh5 r hr).1)
    have HC5 := Lib.hid hc5
    have hs5' : w4.heap.size ≤ w5.heap.size := hc5.size
    clear hm5 hn5 hsh5 hc5
    go_wp2
    go_ret2
    exact ⟨_, g, _, h, rfl, ⟨_, _, _, rfl⟩, ⟨_, _, _, rfl⟩, (HM4.out.same (HC5.out.sameIn (by omega) (Or.inr (Nat.le_refl _)))).mono (Nat.le_refl _) (by omega), HM5.out, HN.out, HN5.out, HL.out, HL5.out, HC4.out.trans HC5.out⟩

/-- what a law's draw of two grids leaves -/
def DwPost (w : World) (e : Ending) (w' : World) : Prop :=
  ∃ v g u h, e = .returned (.tuple #[v, u]) ∧ (∃ a l c, v = .slice a l c) ∧ (∃ a l c, u = .slice a l c) ∧ RdM 0 w'.heap.size w' v g ∧ RdM 0 w'.heap.size w' u h ∧ (1 ≤ g.n ∧ g.n ≤ 5) ∧ (1 ≤ h.n ∧ h.n ≤ 5) ∧ (∀ r, r < g.n → g.len r ≤ 9) ∧ (∀ r, r < h.n → h.len r ≤ 9) ∧ Below w.heap.size w w'

set_option maxHeartbeats 1000000 in
set_option maxRecDepth 100000 in
theorem draw_DrawFixesMake (v : Value) (n hi : Nat) (w : World) (hv : RdB hi w v n) (hh : hi ≤ w.heap.size) :
    Calls Try.prog 49 #[v] w (DwPost w) := by
  have HO := Lib.hid (open_any v n hi w hv hh)
  obtain ⟨ao, cap, cb, off, Z, rfl, _⟩ := hv
  go_enter Try.func49, Try.ntmps49
  go_wp2_with fail
  refine HO.out.mono ?_
  rintro e w1 ⟨rfl, hr, hb, hs⟩
  have HB := Lib.hid hb
  have HR := Lib.hid hr
  clear hb hr
  go_wp2_with fail
  refine (two_any w.heap.size 0 w1 HR.out (by omega) (by omega)).mono ?_
  rintro e w2 ⟨v, g, u, h, rfl, ⟨a1, l1, c1, rfl⟩, ⟨a2, l2, c2, rfl⟩, hm, hu, hn, hnu, hl, hlu, hc⟩
  have HM := Lib.hid hm
  have HU := Lib.hid hu
  have HN := Lib.hid hn
  have HNU := Lib.hid hnu
  have HL := Lib.hid hl
  have HLU := Lib.hid hlu
  have HC := Lib.hid hc
  clear hm hu hn hnu hl hlu hc
  go_wp2
  go_ret2
  exact ⟨_, g, _, h, rfl, ⟨_, _, _, rfl⟩, ⟨_, _, _, rfl⟩, HM.out.mono (Nat.zero_le _) (Nat.le_refl _), HU.out.mono (Nat.zero_le _) (Nat.le_refl _), HN.out, HNU.out, HL.out, HLU.out, chg_below HB.out HC.out⟩

set_option maxHeartbeats 1000000 in
set_option maxRecDepth 100000 in
theorem draw_DrawEditionFar (v : Value) (n hi : Nat) (w : World) (hv : RdB hi w v n) (hh : hi ≤ w.heap.size) :
    Calls Try.prog 55 #[v] w (DwPost w) := by
  have HO := Lib.hid (open_any v n hi w hv hh)
  obtain ⟨ao, cap, cb, off, Z, rfl, _⟩ := hv
  go_enter Try.func55, Try.ntmps55
  go_wp2_with fail
  refine HO.out.mono ?_
  rintro e w1 ⟨rfl, hr, hb, hs⟩
  have HB := Lib.hid hb
  have HR := Lib.hid hr
  clear hb hr
  go_wp2_with fail
  refine (two_any w.heap.size 0 w1 HR.out (by omega) (by omega)).mono ?_
  rintro e w2 ⟨v, g, u, h, rfl, ⟨a1, l1, c1, rfl⟩, ⟨a2, l2, c2, rfl⟩, hm, hu, hn, hnu, hl, hlu, hc⟩
  have HM := Lib.hid hm
  have HU := Lib.hid hu
  have HN := Lib.hid hn
  have HNU := Lib.hid hnu
  have HL := Lib.hid hl
  have HLU := Lib.hid hlu
  have HC := Lib.hid hc
  clear hm hu hn hnu hl hlu hc
  go_wp2
  go_ret2
  exact ⟨_, g, _, h, rfl, ⟨_, _, _, rfl⟩, ⟨_, _, _, rfl⟩, HM.out.mono (Nat.zero_le _) (Nat.le_refl _), HU.out.mono (Nat.zero_le _) (Nat.le_refl _), HN.out, HNU.out, HL.out, HLU.out, chg_below HB.out HC.out⟩

end Go.Proofs.Ytidlloelinmnnaa
