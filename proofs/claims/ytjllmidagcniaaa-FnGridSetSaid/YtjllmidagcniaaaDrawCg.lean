/- The draw of a grid, a cell and a height. -/
import Derived.Test.YtjllmidagcniaaaDrawCe
namespace Go.Proofs.Ytjllmidagcniaaa
open Go.RowKit
set_option linter.unusedVariables false

theorem results_tmp4g {fn : Func} {t u v x : Tmp} (h : fn.results = #[.tmp t, .tmp u, .tmp v, .tmp x]) (tmps : Array Value) (P : Program) (w : World) :
    (results fn tmps).run P w = .ok (.tuple #[tmps.getD t undef, tmps.getD u undef, tmps.getD v undef, tmps.getD x undef]) w := by
  simp [results, h]
def CgPost (w : World) (e : Ending) (w' : World) : Prop :=
  ∃ v g, ∃ a b c : Int, e = .returned (.tuple #[v, .int .i64 a, .int .i64 b, .int .i64 c]) ∧ (∃ x l c, v = .slice x l c) ∧ RdM 0 w'.heap.size w' v g ∧ (1 ≤ g.n ∧ g.n ≤ 5) ∧ (∀ r, r < g.n → g.len r ≤ 9) ∧ (-1 ≤ a ∧ a ≤ 7) ∧ (-1 ≤ b ∧ b ≤ 9) ∧ (-1 ≤ c ∧ c ≤ 101) ∧ Below w.heap.size w w'

set_option maxHeartbeats 1000000 in
set_option maxRecDepth 100000 in
theorem draw_DrawGridSet (v : Value) (n hi : Nat) (w : World) (hv : RdB hi w v n) (hh : hi ≤ w.heap.size) :
    Calls Try.prog 33 #[v] w (CgPost w) := by
  have HO := Lib.hid (open_any v n hi w hv hh)
  obtain ⟨ao, cap, cb, off, Z, rfl, _⟩ := hv
  obtain ⟨B, eB⟩ : ∃ B, w.heap.size = B := ⟨_, rfl⟩
  have EB := Lib.hid eB
  clear eB
  go_enter Try.func33, Try.ntmps33
  go_wp2_with fail
  refine HO.out.mono ?_
  rintro e w1 ⟨rfl, hr, hb, hs⟩
  rw [EB.out] at hr hb hs ⊢
  have HB := Lib.hid hb
  have HR := Lib.hid hr
  have hs1 : B < w1.heap.size := by omega
  clear hb hr hs
  go_wp2_with fail
  refine (cell_any B 0 w1 HR.out (by omega) (by omega)).mono ?_
  rintro e w2 ⟨v, g, a, b, q', rfl, ⟨a1, l1, c1, rfl⟩, hm, hn, hl, ha, hb, hq', hr2, hc⟩
  have HM := Lib.hid hm
  have HN := Lib.hid hn
  have HL := Lib.hid hl
  have HC := Lib.hid hc
  have HR2 := Lib.hid hr2
  have hs2 : w1.heap.size ≤ w2.heap.size := hc.size
  clear hm hn hl hc hr2
  go_wp2_with fail
  refine (pick_any B q' 102 _ HR2.out (by omega) (by omega) (by omega)).mono ?_
  rintro e w3 ⟨x, hx, rfl, hr3, hc3, hs3⟩
  have HC3 := Lib.hid hc3
  have hs3' : w2.heap.size ≤ w3.heap.size := by omega
  clear hr3 hc3 hs3
  go_wp2
  refine bodyPost_ret (results_tmp4g rfl _ _ _) rfl ?_
  exact ⟨_, g, a, b, (x : Int) - 1, rfl, ⟨_, _, _, rfl⟩, (HM.out.same (HC3.out.sameIn (by omega) (Or.inr (Nat.le_refl _)))).mono (Nat.zero_le _) hs3', HN.out, HL.out, ha, hb, ⟨by omega, by omega⟩, by rw [← EB.out] at *; exact chg_below HB.out (HC.out.trans HC3.out)⟩

end Go.Proofs.Ytjllmidagcniaaa
