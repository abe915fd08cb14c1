/- The draw of FnGridSees; GridSees, cleanly. -/
import Derived.Test.YtgcebhmenffbjabDrawD
import Derived.Test.YtgcebhmenffbjabPrGs
import Derived.Test.YtgcebhmenffbjabImplH
namespace Go.Proofs.Ytgcebhmenffbjab
open Go.RowKit
set_option linter.unusedVariables false

set_option maxHeartbeats 1000000 in
set_option maxRecDepth 100000 in
theorem draw_DrawGridSees (v : Value) (n hi : Nat) (w : World) (hv : RdB hi w v n) (hh : hi ≤ w.heap.size) :
    Calls Try.prog 46 #[v] w (DrPost w) := by
  have HO := Lib.hid (open_any v n hi w hv hh)
  obtain ⟨ao, cap, cb, off, Z, rfl, _⟩ := hv
  go_enter Try.func46, Try.ntmps46
  go_wp2_with fail
  refine HO.out.mono ?_
  rintro e w1 ⟨rfl, hr, hb, hs⟩
  have HB := Lib.hid hb
  have HR := Lib.hid hr
  clear hb hr hs
  go_wp2_with fail
  refine (grid_any w.heap.size 0 w1 HR.out (by omega)).mono ?_
  rintro e w2 ⟨v, g, rfl, ⟨a, l, c, rfl⟩, hm, hn, hl, _, hc⟩
  have HM := Lib.hid hm
  have HN := Lib.hid hn
  have HL := Lib.hid hl
  have HC := Lib.hid hc
  clear hm hn hl hc
  go_wp2
  go_ret
  exact ⟨_, g, rfl, ⟨_, _, _, rfl⟩, HM.out.mono (Nat.zero_le _) (Nat.le_refl _), HN.out, (fun r hr => (HL.out r hr).1), chg_below HB.out HC.out⟩

theorem implSG_b (v : Value) (lo hi : Nat) (g : G) (m : Int) (w : World) (hv : RdM lo hi w v g) (hh : hi ≤ w.heap.size) (hm : g.gsV = m) : Calls Try.prog 47 #[v] w (IntPost m w) := by
  rw [← hm]; exact implGridSees_any v lo hi g w hv hh
theorem specSG_b (v : Value) (lo hi : Nat) (g : G) (m : Int) (w : World) (hv : RdM lo hi w v g) (hh : hi ≤ w.heap.size) (hm : g.gsV = m) : Calls Try.prog 48 #[v] w (IntPost m w) := by
  rw [← hm]; exact specGridSees_any v lo hi g w hv hh
theorem RdM.shapeG {lo hi : Nat} {w : World} {v : Value} {g : G} (h : RdM lo hi w v g) : ∃ a c, v = .slice a g.n c := by
  obtain ⟨ao, cap, _, _, _, _, h, _⟩ := h
  exact ⟨ao, cap, h⟩

end Go.Proofs.Ytgcebhmenffbjab
