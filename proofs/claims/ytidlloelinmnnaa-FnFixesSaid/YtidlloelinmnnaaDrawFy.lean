/- The draws of a grid and a list of corrections. -/
import Derived.Test.YtidlloelinmnnaaDrawFx
import Derived.Test.YtidlloelinmnnaaDrawR
namespace Go.Proofs.Ytidlloelinmnnaa
open Go.RowKit
set_option linter.unusedVariables false

/-- what the draw of a grid and corrections leaves -/
def FdPost (B q : Nat) (w : World) (e : Ending) (w' : World) : Prop :=
  ∃ v g u m Z, e = .returned (.tuple #[v, u]) ∧ (∃ a l c, v = .slice a l c) ∧ ShB u ∧ RdM (B + 1) w'.heap.size w' v g ∧ RdT (B + 1) w'.heap.size w' u m Z ∧ (1 ≤ g.n ∧ g.n ≤ 5) ∧ (∀ r, r < g.n → g.len r ≤ 9) ∧ m ≤ 6 ∧ (∃ q', q' ≤ q + 400 ∧ Rdr w' B q') ∧ Chg B (B + 1) w w'

set_option maxHeartbeats 4000000 in
set_option maxRecDepth 100000 in
theorem fixes_any (B q : Nat) (w : World) (h : Rdr w B q) (hBw : B < w.heap.size) (hq : q ≤ 100) :
    Calls Try.prog 81 #[.pointer (some ⟨B, 0, none⟩)] w (FdPost B q w) := by
  have HR := Lib.hid h
  clear h
  go_enter Try.func81, Try.ntmps81
  go_wp2_with fail
  refine (grid_any B q w HR.out (by omega)).mono ?_
  rintro e w1 ⟨v, g, rfl, ⟨a1, l1, c1, rfl⟩, hm, hn, hl, ⟨q1, hq1, hr1⟩, hc1⟩
  have HM1 := Lib.hid hm
  have HN := Lib.hid hn
  have HL := Lib.hid (fun r hr => (hl r hr).1)
  have HR1 := Lib.hid hr1
  have HC1 := Lib.hid hc1
  have hs1 : w.heap.size ≤ w1.heap.size := hc1.size
  clear hm hn hl hr1 hc1 HR
  go_wp2_with fail
  refine (pick_any B q1 7 w1 HR1.out (by omega) (by omega) (by omega)).mono ?_
  rintro e w2 ⟨k, hk, rfl, hr2, hc2, hs2⟩
  have HM2 := Lib.hid ((HM1.out.same (hc2.sameIn (Nat.le_refl _) (Or.inr (Nat.le_refl _)))).mono (Nat.le_refl _) hc2.size)
  have HR2 := Lib.hid hr2
  have HC2 := Lib.hid (HC1.out.trans hc2)
  clear hr2 hc2 HM1 HC1 HR1
  go_wp2_with fail
  refine (some_any _ B (q1 + 1) k g w2 HM2.out HR2.out (by omega) (by omega) (by omega)).mono ?_
  rintro e w3 ⟨u, m, Z, rfl, hsb, ht, hmn, ⟨q3, hq3, hr3⟩, hc3⟩
  obtain ⟨a2, c2, rfl⟩ := ht.shape
  have HSB := Lib.hid hsb
  have HT := Lib.hid ht
  have HR3 := Lib.hid hr3
  have HC3 := Lib.hid hc3
  have hs3 : w2.heap.size ≤ w3.heap.size := hc3.size
  clear ht hr3 hc3 hsb
  go_wp2
  go_ret2
  exact ⟨_, g, _, m, Z, rfl, ⟨_, _, _, rfl⟩, HSB.out, (HM2.out.same (HC3.out.sameIn (Nat.le_refl _) (Or.inr (Nat.le_refl _)))).mono (Nat.le_refl _) hs3, HT.out.mono (by omega) (Nat.le_refl _), HN.out, HL.out, by omega, ⟨q3, by omega, HR3.out⟩, HC2.out.trans HC3.out⟩

/-- what a law's draw of a grid and corrections leaves -/
def FePost (w : World) (e : Ending) (w' : World) : Prop :=
  ∃ v g u m Z, e = .returned (.tuple #[v, u]) ∧ (∃ a l c, v = .slice a l c) ∧ ShB u ∧ RdM 0 w'.heap.size w' v g ∧ RdT 0 w'.heap.size w' u m Z ∧ (1 ≤ g.n ∧ g.n ≤ 5) ∧ (∀ r, r < g.n → g.len r ≤ 9) ∧ m ≤ 6 ∧ Below w.heap.size w w'

set_option maxHeartbeats 1000000 in
set_option maxRecDepth 100000 in
theorem draw_DrawFixesValid (v : Value) (n hi : Nat) (w : World) (hv : RdB hi w v n) (hh : hi ≤ w.heap.size) :
    Calls Try.prog 35 #[v] w (FePost w) := by
  have HO := Lib.hid (open_any v n hi w hv hh)
  obtain ⟨ao, cap, cb, off, Z, rfl, _⟩ := hv
  go_enter Try.func35, Try.ntmps35
  go_wp2_with fail
  refine HO.out.mono ?_
  rintro e w1 ⟨rfl, hr, hb, hs⟩
  have HB := Lib.hid hb
  have HR := Lib.hid hr
  clear hb hr
  go_wp2_with fail
  refine (fixes_any w.heap.size 0 w1 HR.out (by omega) (by omega)).mono ?_
  rintro e w2 ⟨v, g, u, m, Z, rfl, ⟨a1, l1, c1, rfl⟩, hsb, hm, ht, hn, hl, hm6, _, hc⟩
  have HM := Lib.hid hm
  obtain ⟨a2, c2, rfl⟩ := ht.shape
  have HSB := Lib.hid hsb
  have HT := Lib.hid ht
  have HN := Lib.hid hn
  have HL := Lib.hid hl
  have HC := Lib.hid hc
  clear hm ht hn hl hc hsb
  go_wp2
  go_ret2
  exact ⟨_, g, _, m, Z, rfl, ⟨_, _, _, rfl⟩, HSB.out, HM.out.mono (Nat.zero_le _) (Nat.le_refl _), HT.out.mono (Nat.zero_le _) (Nat.le_refl _), HN.out, HL.out, hm6, chg_below HB.out HC.out⟩

set_option maxHeartbeats 1000000 in
set_option maxRecDepth 100000 in
theorem draw_DrawFixesDo (v : Value) (n hi : Nat) (w : World) (hv : RdB hi w v n) (hh : hi ≤ w.heap.size) :
    Calls Try.prog 61 #[v] w (FePost w) := by
  have HO := Lib.hid (open_any v n hi w hv hh)
  obtain ⟨ao, cap, cb, off, Z, rfl, _⟩ := hv
  go_enter Try.func61, Try.ntmps61
  go_wp2_with fail
  refine HO.out.mono ?_
  rintro e w1 ⟨rfl, hr, hb, hs⟩
  have HB := Lib.hid hb
  have HR := Lib.hid hr
  clear hb hr
  go_wp2_with fail
  refine (fixes_any w.heap.size 0 w1 HR.out (by omega) (by omega)).mono ?_
  rintro e w2 ⟨v, g, u, m, Z, rfl, ⟨a1, l1, c1, rfl⟩, hsb, hm, ht, hn, hl, hm6, _, hc⟩
  have HM := Lib.hid hm
  obtain ⟨a2, c2, rfl⟩ := ht.shape
  have HSB := Lib.hid hsb
  have HT := Lib.hid ht
  have HN := Lib.hid hn
  have HL := Lib.hid hl
  have HC := Lib.hid hc
  clear hm ht hn hl hc hsb
  go_wp2
  go_ret2
  exact ⟨_, g, _, m, Z, rfl, ⟨_, _, _, rfl⟩, HSB.out, HM.out.mono (Nat.zero_le _) (Nat.le_refl _), HT.out.mono (Nat.zero_le _) (Nat.le_refl _), HN.out, HL.out, hm6, chg_below HB.out HC.out⟩

set_option maxHeartbeats 1000000 in
set_option maxRecDepth 100000 in
theorem draw_DrawFixesBack (v : Value) (n hi : Nat) (w : World) (hv : RdB hi w v n) (hh : hi ≤ w.heap.size) :
    Calls Try.prog 40 #[v] w (FePost w) := by
  have HO := Lib.hid (open_any v n hi w hv hh)
  obtain ⟨ao, cap, cb, off, Z, rfl, _⟩ := hv
  go_enter Try.func40, Try.ntmps40
  go_wp2_with fail
  refine HO.out.mono ?_
  rintro e w1 ⟨rfl, hr, hb, hs⟩
  have HB := Lib.hid hb
  have HR := Lib.hid hr
  clear hb hr
  go_wp2_with fail
  refine (fixes_any w.heap.size 0 w1 HR.out (by omega) (by omega)).mono ?_
  rintro e w2 ⟨v, g, u, m, Z, rfl, ⟨a1, l1, c1, rfl⟩, hsb, hm, ht, hn, hl, hm6, _, hc⟩
  have HM := Lib.hid hm
  obtain ⟨a2, c2, rfl⟩ := ht.shape
  have HSB := Lib.hid hsb
  have HT := Lib.hid ht
  have HN := Lib.hid hn
  have HL := Lib.hid hl
  have HC := Lib.hid hc
  clear hm ht hn hl hc hsb
  go_wp2
  go_ret2
  exact ⟨_, g, _, m, Z, rfl, ⟨_, _, _, rfl⟩, HSB.out, HM.out.mono (Nat.zero_le _) (Nat.le_refl _), HT.out.mono (Nat.zero_le _) (Nat.le_refl _), HN.out, HL.out, hm6, chg_below HB.out HC.out⟩

set_option maxHeartbeats 1000000 in
set_option maxRecDepth 100000 in
theorem draw_DrawFixesShort (v : Value) (n hi : Nat) (w : World) (hv : RdB hi w v n) (hh : hi ≤ w.heap.size) :
    Calls Try.prog 45 #[v] w (FePost w) := by
  have HO := Lib.hid (open_any v n hi w hv hh)
  obtain ⟨ao, cap, cb, off, Z, rfl, _⟩ := hv
  go_enter Try.func45, Try.ntmps45
  go_wp2_with fail
  refine HO.out.mono ?_
  rintro e w1 ⟨rfl, hr, hb, hs⟩
  have HB := Lib.hid hb
  have HR := Lib.hid hr
  clear hb hr
  go_wp2_with fail
  refine (fixes_any w.heap.size 0 w1 HR.out (by omega) (by omega)).mono ?_
  rintro e w2 ⟨v, g, u, m, Z, rfl, ⟨a1, l1, c1, rfl⟩, hsb, hm, ht, hn, hl, hm6, _, hc⟩
  have HM := Lib.hid hm
  obtain ⟨a2, c2, rfl⟩ := ht.shape
  have HSB := Lib.hid hsb
  have HT := Lib.hid ht
  have HN := Lib.hid hn
  have HL := Lib.hid hl
  have HC := Lib.hid hc
  clear hm ht hn hl hc hsb
  go_wp2
  go_ret2
  exact ⟨_, g, _, m, Z, rfl, ⟨_, _, _, rfl⟩, HSB.out, HM.out.mono (Nat.zero_le _) (Nat.le_refl _), HT.out.mono (Nat.zero_le _) (Nat.le_refl _), HN.out, HL.out, hm6, chg_below HB.out HC.out⟩

set_option maxHeartbeats 1000000 in
set_option maxRecDepth 100000 in
theorem draw_DrawFixesRise (v : Value) (n hi : Nat) (w : World) (hv : RdB hi w v n) (hh : hi ≤ w.heap.size) :
    Calls Try.prog 53 #[v] w (FePost w) := by
  have HO := Lib.hid (open_any v n hi w hv hh)
  obtain ⟨ao, cap, cb, off, Z, rfl, _⟩ := hv
  go_enter Try.func53, Try.ntmps53
  go_wp2_with fail
  refine HO.out.mono ?_
  rintro e w1 ⟨rfl, hr, hb, hs⟩
  have HB := Lib.hid hb
  have HR := Lib.hid hr
  clear hb hr
  go_wp2_with fail
  refine (fixes_any w.heap.size 0 w1 HR.out (by omega) (by omega)).mono ?_
  rintro e w2 ⟨v, g, u, m, Z, rfl, ⟨a1, l1, c1, rfl⟩, hsb, hm, ht, hn, hl, hm6, _, hc⟩
  have HM := Lib.hid hm
  obtain ⟨a2, c2, rfl⟩ := ht.shape
  have HSB := Lib.hid hsb
  have HT := Lib.hid ht
  have HN := Lib.hid hn
  have HL := Lib.hid hl
  have HC := Lib.hid hc
  clear hm ht hn hl hc hsb
  go_wp2
  go_ret2
  exact ⟨_, g, _, m, Z, rfl, ⟨_, _, _, rfl⟩, HSB.out, HM.out.mono (Nat.zero_le _) (Nat.le_refl _), HT.out.mono (Nat.zero_le _) (Nat.le_refl _), HN.out, HL.out, hm6, chg_below HB.out HC.out⟩

end Go.Proofs.Ytidlloelinmnnaa
