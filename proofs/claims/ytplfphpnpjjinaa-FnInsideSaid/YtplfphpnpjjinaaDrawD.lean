/- The draws of the promises' laws: a grid; a grid and a number. -/
import Derived.Test.YtplfphpnpjjinaaDrawC
namespace Go.Proofs.Ytplfphpnpjjinaa
open Go.RowKit
set_option linter.unusedVariables false

/-- what a draw of a grid leaves -/
def GridPost (B q : Nat) (w : World) (e : Ending) (w' : World) : Prop :=
  ∃ v g, e = .returned v ∧ (∃ a l c, v = .slice a l c) ∧ RdM (B + 1) w'.heap.size w' v g ∧ (1 ≤ g.n ∧ g.n ≤ 5) ∧ GrShape g ∧ (∃ q', q' ≤ q + 210 ∧ Rdr w' B q') ∧ Chg B (B + 1) w w'

set_option maxHeartbeats 1000000 in
set_option maxRecDepth 100000 in
theorem grid_any (B q : Nat) (w : World) (h : Rdr w B q) (hq : q ≤ 1000) :
    Calls Try.prog 64 #[.pointer (some ⟨B, 0, none⟩)] w (GridPost B q w) := by
  have H0 := Lib.hid h
  clear h
  go_enter Try.func64, Try.ntmps64
  go_wp2_with fail
  refine (pick_any B q 5 _ H0.out (by omega) (by omega) (by omega)).mono ?_
  rintro e w1 ⟨x, hx, rfl, hr1, hc1, hs1⟩
  have HR1 := Lib.hid hr1
  have HC1 := Lib.hid hc1
  clear hr1 hc1 hs1
  go_wp2_with fail
  refine (pick_any B (q + 1) 5 _ HR1.out (by omega) (by omega) (by omega)).mono ?_
  rintro e w2 ⟨y, hy, rfl, hr2, hc2, hs2⟩
  have HR2 := Lib.hid hr2
  have HC2 := Lib.hid (HC1.out.trans hc2)
  clear hr2 hc2 hs2
  go_wp2_with fail
  have ex : ((1 + x : Nat) : Int) = 1 + (x : Int) := by omega
  have ey : ((1 + y : Nat) : Int) = 1 + (y : Int) := by omega
  have HD := rough_any B (q + 1 + 1) (1 + x) (1 + y) w2 HR2.out (by omega) (by omega) (by omega) (by omega) (by omega)
  rw [ex, ey] at HD
  refine HD.mono ?_
  clear ex ey HD
  rintro e w3 ⟨v, g, rfl, ⟨a, l, c, rfl⟩, hm, hn, hl, ⟨q', hq', hr⟩, hc⟩
  have HM := Lib.hid hm
  have HR := Lib.hid hr
  have HC := Lib.hid hc
  have HN := Lib.hid hn
  have HL := Lib.hid hl
  clear hm hr hc hn hl
  go_wp2
  go_ret
  exact ⟨_, g, rfl, ⟨_, _, _, rfl⟩, HM.out, by have := HN.out; omega, HL.out, ⟨q', by omega, HR.out⟩, HC2.out.trans HC.out⟩

/-- what a drawn grid for a law leaves -/
def DrPost (w : World) (e : Ending) (w' : World) : Prop :=
  ∃ v g, e = .returned v ∧ (∃ a l c, v = .slice a l c) ∧ RdM 0 w'.heap.size w' v g ∧ (1 ≤ g.n ∧ g.n ≤ 5) ∧ (∀ r, r < g.n → g.len r ≤ 9) ∧ Below w.heap.size w w'

theorem chg_below {w w1 w' : World} (h1 : Below w.heap.size w w1) (h2 : Chg w.heap.size (w.heap.size + 1) w1 w') : Below w.heap.size w w' :=
  h1.trans (h2.below (Nat.le_refl _) h1.size)

end Go.Proofs.Ytplfphpnpjjinaa
