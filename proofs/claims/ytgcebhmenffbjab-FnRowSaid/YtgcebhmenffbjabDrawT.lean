/- The draw of a grid and a row; rows of grids, cleanly. -/
import Derived.Test.YtgcebhmenffbjabDrawQ
import Derived.Test.YtgcebhmenffbjabPrC
import Derived.Test.YtgcebhmenffbjabPrN
namespace Go.Proofs.Ytgcebhmenffbjab
open Go.RowKit
set_option linter.unusedVariables false

def DgPost (w : World) (e : Ending) (w' : World) : Prop :=
  ∃ v g k, e = .returned (.tuple #[v, .int .i64 k]) ∧ (∃ a l c, v = .slice a l c) ∧ RdM 0 w'.heap.size w' v g ∧ (1 ≤ g.n ∧ g.n ≤ 5) ∧ (∀ r, r < g.n → g.len r ≤ 9) ∧ (-100 ≤ k ∧ k ≤ 100) ∧ Below w.heap.size w w'

theorem RdM.shapeL {lo hi : Nat} {w : World} {v : Value} {g : G} (h : RdM lo hi w v g) : ∃ a c, v = .slice a g.n c := by
  obtain ⟨ao, cap, _, _, _, _, h, _⟩ := h
  exact ⟨ao, cap, h⟩

set_option maxHeartbeats 4000000 in
set_option maxRecDepth 100000 in
theorem draw_DrawProfileRow (v : Value) (n hi : Nat) (w : World) (hv : RdB hi w v n) (hh : hi ≤ w.heap.size) :
    Calls Try.prog 42 #[v] w (DgPost w) := by
  have HO := Lib.hid (open_any v n hi w hv hh)
  obtain ⟨ao, cap, cb, off, Z, rfl, _⟩ := hv
  obtain ⟨B, eB⟩ : ∃ B, w.heap.size = B := ⟨_, rfl⟩
  have EB := Lib.hid eB
  clear eB
  go_enter Try.func42, Try.ntmps42
  go_wp2_with fail
  refine HO.out.mono ?_
  rintro e w1 ⟨rfl, hr, hb, hs⟩
  rw [EB.out] at hr hb hs ⊢
  have HB := Lib.hid hb
  have HR := Lib.hid hr
  have hs1 : B < w1.heap.size := by omega
  clear hb hr hs
  go_wp2_with fail
  refine (grid_any B 0 w1 HR.out (by omega)).mono ?_
  rintro e w2 ⟨v, g, rfl, ⟨a, l, c, rfl⟩, hm, hn, hl, ⟨q2, hq2, hr2⟩, hc⟩
  have HM2 := Lib.hid hm
  have HL := Lib.hid hl
  have HC2 := Lib.hid hc
  have HR2 := Lib.hid hr2
  have hs2 : w1.heap.size ≤ w2.heap.size := hc.size
  obtain ⟨_, _, e0⟩ := hm.shapeL
  simp only [Value.slice.injEq] at e0
  obtain ⟨rfl, rfl, rfl⟩ := e0
  obtain ⟨hn1, hn5⟩ := hn
  clear hm hl hc hr2
  go_wp2_with fail
  refine (l91At_any B q2 g.n w2 HR2.out (by omega) (by omega) (by omega)).mono ?_
  rintro e w3 ⟨k3, rfl, hk3, ⟨q3, hq3, hr⟩, hc⟩
  have HM3 := Lib.hid ((HM2.out.same (hc.sameIn (Nat.le_refl _) (Or.inr (Nat.le_refl _)))).mono (Nat.le_refl _) hc.size)
  have HC3 := Lib.hid (HC2.out.trans hc)
  have HK3 := Lib.hid hk3
  clear hr hc hk3
  go_wp2
  go_ret2
  exact ⟨_, g, k3, rfl, ⟨_, _, _, rfl⟩, HM3.out.mono (Nat.zero_le _) (Nat.le_refl _), ⟨hn1, hn5⟩, (fun r hr => (HL.out r hr).1), by have := HK3.out; omega, by rw [← EB.out] at *; exact chg_below HB.out HC3.out⟩

theorem implRow_yes (v : Value) (lo hi : Nat) (g : G) (r : Nat) (w : World) (hv : RdM lo hi w v g) (hh : hi ≤ w.heap.size) (h : g.Cell r 0) : Calls Try.prog 43 #[v, .int .i64 r] w (LgPost true (g.len 0) (g.z r) w) := by
  have := implProfileRow_any v lo hi g r w hv hh
  rwa [G.cB_yes h, rwN_yes h] at this
theorem implRow_no (v : Value) (lo hi : Nat) (g : G) (r : Int) (w : World) (hv : RdM lo hi w v g) (hh : hi ≤ w.heap.size) (h : ¬ g.Cell r 0) : Calls Try.prog 43 #[v, .int .i64 r] w (LgPost false 0 (g.z r.toNat) w) := by
  have := implProfileRow_any v lo hi g r w hv hh
  rwa [G.cB_no h, rwN_no h] at this
theorem specRow_yes (v : Value) (lo hi : Nat) (g : G) (r : Nat) (w : World) (hv : RdM lo hi w v g) (hh : hi ≤ w.heap.size) (h : g.Cell r 0) : Calls Try.prog 44 #[v, .int .i64 r] w (LsPost true (g.len 0) (g.z r) w) := by
  have := specProfileRow_any v lo hi g r w hv hh
  rwa [G.cB_yes h, rwN_yes h] at this
theorem specRow_no (v : Value) (lo hi : Nat) (g : G) (r : Int) (w : World) (hv : RdM lo hi w v g) (hh : hi ≤ w.heap.size) (h : ¬ g.Cell r 0) : Calls Try.prog 44 #[v, .int .i64 r] w (LsPost false 0 (g.z r.toNat) w) := by
  have := specProfileRow_any v lo hi g r w hv hh
  rwa [G.cB_no h, rwN_no h] at this
theorem cell_mirror {g : G} {r : Int} (h : g.Cell r 0) : (mirrorG g).Cell r 0 := ⟨mirror_valid h.1, h.2.1, h.2.2⟩

end Go.Proofs.Ytgcebhmenffbjab
