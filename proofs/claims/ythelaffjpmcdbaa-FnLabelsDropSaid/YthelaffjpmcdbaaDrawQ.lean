/- Draws of profiles for the laws. -/
import Derived.Test.YthelaffjpmcdbaaDrawP
namespace Go.Proofs.Ythelaffjpmcdbaa
open Go.RowKit
set_option linter.unusedVariables false

def AtPost (B q n : Nat) (w : World) (e : Ending) (w' : World) : Prop :=
  ∃ k : Int, e = .returned (.int .i64 k) ∧ (-1 ≤ k ∧ k ≤ n) ∧ (∃ q', q' ≤ q + 2 ∧ Rdr w' B q') ∧ Chg B (B + 1) w w'

set_option maxHeartbeats 4000000 in
set_option maxRecDepth 100000 in
theorem at_two (B q n : Nat) (w : World) (hr : Rdr w B q) (hB : B < w.heap.size) (hq : q ≤ 3000) (hn : n ≤ 20) (t : Nat) (ht : t < 2) (w7 : World) (hc7 : Chg B (B + 1) (w.alloc (.cells #[.int .i64 (-1), .int .i64 n] 3)) w7) :
    ∃ Y : Int, w7.cell? ⟨w.heap.size, t, none⟩ = some (.int .i64 Y) ∧ (-1 ≤ Y ∧ Y ≤ n) := by
  have hbb := (hc7.block w.heap.size (by simp) (by omega)).trans (heap_alloc_new w (.cells #[.int .i64 (-1), .int .i64 n] 3))
  rcases (by omega : t = 0 ∨ t = 1) with rfl | rfl
  · exact ⟨-1, by simp [World.cell?, hbb], by omega⟩
  · exact ⟨n, by simp [World.cell?, hbb], by omega⟩

set_option maxHeartbeats 4000000 in
set_option maxRecDepth 100000 in
theorem l91At_any (B q n : Nat) (w : World) (hr : Rdr w B q) (hB : B < w.heap.size) (hq : q ≤ 2000) (hn : n ≤ 20) :
    Calls Try.prog 63 #[.pointer (some ⟨B, 0, none⟩), .int .i64 n] w (AtPost B q n w) := by
  by_cases h0 : n = 0
  · have h0' : ((n : Int) == 0) = true := by rw [beq_iff_eq]; omega
    clear h0
    have hba := (Below.refl w.heap.size w).alloc (Nat.le_refl _) (.cells #[.int .i64 (-1), .int .i64 n] 3)
    have HR := Lib.hid (hr.keep hba hB)
    have HCA := Lib.hid (hba.chg B (B + 1))
    have HT := Lib.hid (fun t (ht : t < 2) w7 hc => at_two B q n w hr hB (by omega) hn t ht w7 hc)
    clear hba hr
    go_enter Try.func63, Try.ntmps63
    go_wp2_with fail
    refine (pick_any B q 2 _ HR.out (by omega) (by omega) (by omega)).mono ?_
    rintro e w7 ⟨t, ht, rfl, hr7, hc7, hs7⟩
    obtain ⟨Y, hY, hYr⟩ := HT.out t ht w7 hc7
    have HYR := Lib.hid hYr
    have HR7 := Lib.hid hr7
    have HC7 := Lib.hid (HCA.out.trans hc7)
    have ht' : (t : Int) < 2 := by omega
    clear hr7 hc7 hs7 hYr
    go_wp2
    go_ret
    exact ⟨_, rfl, HYR.out, ⟨_, by omega, HR7.out⟩, HC7.out⟩
  · have h0' : ((n : Int) == 0) = false := by rw [beq_eq_false_iff_ne]; omega
    have HR0 := Lib.hid hr
    clear hr
    go_enter Try.func63, Try.ntmps63
    go_wp2_with fail
    refine (pick_any B q 20 _ HR0.out (by omega) (by omega) (by omega)).mono ?_
    rintro e w1 ⟨x, hx, rfl, hr1, hc1, hs1⟩
    have HR1 := Lib.hid hr1
    have HC1 := Lib.hid hc1
    have hB1 : B < w1.heap.size := by omega
    have hs1' : w.heap.size ≤ w1.heap.size := by omega
    clear hr1 hc1 hs1
    by_cases x0 : x = 0
    · subst x0
      have hba := (Below.refl w1.heap.size w1).alloc (Nat.le_refl _) (.cells #[.int .i64 (-1), .int .i64 n] 3)
      have HR := Lib.hid (HR1.out.keep hba hB1)
      have HCA := Lib.hid (Chg.then_below HC1.out hba hs1')
      have HT := Lib.hid (fun t (ht : t < 2) w7 hc => at_two B (q + 1) n w1 HR1.out hB1 (by omega) hn t ht w7 hc)
      clear hba
      go_wp2_with fail
      refine (pick_any B (q + 1) 2 _ HR.out (by omega) (by omega) (by omega)).mono ?_
      rintro e w7 ⟨t, ht, rfl, hr7, hc7, hs7⟩
      obtain ⟨Y, hY, hYr⟩ := HT.out t ht w7 hc7
      have HYR := Lib.hid hYr
      have HR7 := Lib.hid hr7
      have HC7 := Lib.hid (HCA.out.trans hc7)
      have ht' : (t : Int) < 2 := by omega
      clear hr7 hc7 hs7 hYr
      go_wp2
      go_ret
      exact ⟨_, rfl, HYR.out, ⟨_, by omega, HR7.out⟩, HC7.out⟩
    · have x0' : ((x : Int) == 0) = false := by rw [beq_eq_false_iff_ne]; omega
      go_wp2_with fail
      refine (pick_any B (q + 1) n _ HR1.out (by omega) (by omega) (by omega)).mono ?_
      rintro e w7 ⟨t, ht, rfl, hr7, hc7, hs7⟩
      have HR7 := Lib.hid hr7
      have HC7 := Lib.hid (HC1.out.trans hc7)
      clear hr7 hc7 hs7
      go_wp2
      go_ret
      exact ⟨_, rfl, by omega, ⟨_, by omega, HR7.out⟩, HC7.out⟩

/-- what a drawn profile leaves -/
def DpPost (w : World) (e : Ending) (w' : World) : Prop :=
  ∃ v n Z, e = .returned v ∧ (∃ a l c, v = .slice a l c) ∧ RdI 0 w'.heap.size w' v n Z ∧ n ≤ 9 ∧ (∀ i, i < n → -1 ≤ Z i ∧ Z i ≤ 100) ∧ Below w.heap.size w w'
def DqPost (w : World) (e : Ending) (w' : World) : Prop :=
  ∃ v n Z k, e = .returned (.tuple #[v, .int .i64 k]) ∧ (∃ a l c, v = .slice a l c) ∧ RdI 0 w'.heap.size w' v n Z ∧ n ≤ 9 ∧ (∀ i, i < n → -1 ≤ Z i ∧ Z i ≤ 100) ∧ (-100 ≤ k ∧ k ≤ 100) ∧ Below w.heap.size w w'
def DrrPost (w : World) (e : Ending) (w' : World) : Prop :=
  ∃ v n Z i k, e = .returned (.tuple #[v, .int .i64 i, .int .i64 k]) ∧ (∃ a l c, v = .slice a l c) ∧ RdI 0 w'.heap.size w' v n Z ∧ n ≤ 9 ∧ (∀ i, i < n → -1 ≤ Z i ∧ Z i ≤ 100) ∧ (-100 ≤ i ∧ i ≤ 100) ∧ (-100 ≤ k ∧ k ≤ 100) ∧ Below w.heap.size w w'

end Go.Proofs.Ythelaffjpmcdbaa
