/- Land, shore, sides, corners and their sum in the model, by contract. -/
import Derived.Test.YtplfphpnpjjinabWSpec
import Derived.Test.YtplfphpnpjjinabLongS
import Derived.Test.YtplfphpnpjjinabLvM
import Derived.Test.YtplfphpnpjjinabRange
import Derived.Lib.MinMax
namespace Go.Proofs.Ytplfphpnpjjinab
open Go.RowKit
set_option linter.unusedVariables false

noncomputable def G.lvB (g : G) (lv : Int) : Bool := @decide (g.LvOk lv) (Classical.propDecidable _)
theorem G.lvB_yes {g : G} {lv : Int} (h : g.LvOk lv) : g.lvB lv = true := by simp [G.lvB, h]
theorem G.lvB_no {g : G} {lv : Int} (h : ¬ g.LvOk lv) : g.lvB lv = false := by simp [G.lvB, h]

set_option maxHeartbeats 1000000 in
set_option maxRecDepth 20000 in
theorem l3Ok_any (v : Value) (lo hi : Nat) (g : G) (lv : Int) (w : World) (hv : RdM lo hi w v g) :
    Calls Try.prog 85 #[v, .int .i64 lv] w (EqPost (g.lvB lv) w) := by
  have HV := Lib.hid (specValid_any v lo hi g w hv)
  by_cases h : g.Valid
  case neg =>
    have HB := Lib.hid (G.vB_no h)
    have HC := Lib.hid (G.lvB_no (g := g) (lv := lv) (fun hc => h hc.1))
    clear hv h
    go_enter Try.func85, Try.ntmps85
    go_wp2_with fail
    refine HV.out.mono ?_
    rintro e w1 ⟨rfl, n1, rfl⟩
    rw [HB.out]
    go_wp2
    go_ret
    exact eq_post HC.out _ _
  case pos =>
    have HB := Lib.hid (G.vB_yes h)
    by_cases hl : 0 ≤ lv ∧ lv ≤ 99
    case neg =>
      have HC := Lib.hid (G.lvB_no (g := g) (lv := lv) (fun hc => hl hc.2))
      have HL := Lib.hid hl
      clear hv h hl
      go_enter Try.func85, Try.ntmps85
      go_wp2_with fail
      refine HV.out.mono ?_
      rintro e w1 ⟨rfl, n1, rfl⟩
      rw [HB.out]
      go_wp2_with fail
      refine (l6In_no _ _ _ _ (by have := HL.out; omega)).mono ?_
      rintro e w' ⟨rfl, rfl⟩
      go_wp2
      go_ret
      exact eq_post HC.out _ _
    case pos =>
      have HC := Lib.hid (G.lvB_yes (g := g) (lv := lv) ⟨h, hl⟩)
      obtain ⟨hl1, hl2⟩ := hl
      clear hv h
      go_enter Try.func85, Try.ntmps85
      go_wp2_with fail
      refine HV.out.mono ?_
      rintro e w1 ⟨rfl, n1, rfl⟩
      rw [HB.out]
      go_wp2_with fail
      refine (l6In_yes _ _ _ _ hl1 hl2).mono ?_
      rintro e w' ⟨rfl, rfl⟩
      go_wp2
      go_ret
      exact eq_post HC.out _ _

end Go.Proofs.Ytplfphpnpjjinab
