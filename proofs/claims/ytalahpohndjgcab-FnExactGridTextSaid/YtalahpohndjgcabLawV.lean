/- The exact law of GridValid: its walk. -/
import Derived.Test.YtalahpohndjgcabImplC
namespace Go.Proofs.Ytalahpohndjgcab
open Go.RowKit
set_option linter.unusedVariables false

/-- what a law leaves: true, and all that was there -/
def LawPost (w : World) (e : Ending) (w' : World) : Prop := e = .returned (.bool true) ∧ Below w.heap.size w w'

theorem EqPost.below {b : Bool} {w w' : World} {e : Ending} (h : EqPost b w e w') : e = .returned (.bool b) ∧ Below w.heap.size w w' := by
  obtain ⟨h1, n, rfl⟩ := h
  exact ⟨h1, below_drewN (Below.refl _ _) n⟩

theorem RdM.keep {lo hi : Nat} {w w' : World} {v : Value} {g : G} (h : RdM lo hi w v g) (hb : Below hi w w') : RdM lo hi w' v g := h.same (SameIn.below hb (Nat.le_refl _))
theorem OwM.keep {lo hi : Nat} {w w' : World} {v : Value} {g : G} (h : OwM lo hi w v g) (hb : Below hi w w') : OwM lo hi w' v g := h.same (SameIn.below hb (Nat.le_refl _))

set_option maxHeartbeats 2000000 in
theorem law_GridValid (v : Value) (g : G) (w : World) (hv : RdM 0 w.heap.size w v g) :
    Calls Try.prog 3 #[v] w (LawPost w) := by
  have HS := Lib.hid (szIntSS_any v 0 w.heap.size g w 1048576 hv (by omega) (by omega))
  have HV := Lib.hid hv
  have hx : (g.vB != g.vB) = false := by simp
  clear hv
  go_enter Try.func3, Try.ntmps3
  go_wp2_with fail
  refine HS.out.mono ?_
  rintro e w' ⟨rfl | ⟨l, h0, h1, rfl, hn, hl⟩, rfl⟩
  · go_wp2
    go_ret
    exact ⟨rfl, Below.refl _ _⟩
  · have HL := Lib.hid hl
    clear hl
    go_wp2_with fail
    refine (toIntSS_any v 0 w.heap.size g _ HV.out hn HL.out (Nat.le_refl _)).mono ?_
    rintro e w1 ⟨rfl, o1, b1⟩
    have O1 := Lib.hid o1
    have B1 := Lib.hid b1
    clear o1 b1
    go_wp2_with fail
    refine (specValid_any _ w.heap.size w1.heap.size g _ O1.out.rd).mono ?_
    intro e w2 hq
    obtain ⟨rfl, b2⟩ := hq.below
    have B2 := Lib.hid (B1.out.trans (b2.mono B1.out.size))
    clear b2 hq
    go_wp2_with fail
    refine (toIntSS_any v 0 w.heap.size g _ (HV.out.keep B2.out) hn HL.out B2.out.size).mono ?_
    rintro e w3 ⟨rfl, o3, b3⟩
    have O3 := Lib.hid o3
    have B3 := Lib.hid (B2.out.trans (b3.mono B2.out.size))
    clear o3 b3
    go_wp2_with fail
    refine (implValid_any _ w2.heap.size w3.heap.size g _ O3.out.rd (Nat.le_refl _)).mono ?_
    rintro e w4 ⟨rfl, b4⟩
    have B4 := Lib.hid (B3.out.trans (b4.mono B3.out.size))
    have O4 := Lib.hid (O3.out.keep b4)
    have hs4 := b4.size
    clear b4
    go_wp2_with fail
    refine (toIntSS_any v 0 w.heap.size g _ (HV.out.keep B4.out) hn HL.out B4.out.size).mono ?_
    rintro e w5 ⟨rfl, o5, b5⟩
    have O5 := Lib.hid o5
    have R5 := Lib.hid (O4.out.keep (b5.mono hs4)).rd
    have B5 := Lib.hid (B4.out.trans (b5.mono B4.out.size))
    clear o5 b5
    go_wp2_with fail
    refine (eqIntSS_any _ _ _ _ _ _ g _ R5.out O5.out.rd).mono ?_
    intro e w6 hq
    obtain ⟨rfl, b6⟩ := hq.below
    have B6 := Lib.hid (B5.out.trans (b6.mono B5.out.size))
    clear b6 hq
    go_wp2
    go_ret
    exact ⟨rfl, B6.out⟩

end Go.Proofs.Ytalahpohndjgcab
