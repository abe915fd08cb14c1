/- Draws of profiles for the laws. -/
import Derived.Test.YtgcebhmenffbjabDrawP
namespace Go.Proofs.Ytgcebhmenffbjab
open Go.RowKit
set_option linter.unusedVariables false

def AtPost (B q n : Nat) (w : World) (e : Ending) (w' : World) : Prop :=
  ∃ k : Int, e = .returned (.int .i64 k) ∧ (-1 ≤ k ∧ k ≤ n) ∧ (∃ q', q' ≤ q + 2 ∧ Rdr w' B q') ∧ Chg B (B + 1) w w'

set_option maxHeartbeats 4000000 in
set_option maxRecDepth 100000 in
theorem at_two (B q n : Nat) (w : World) (hr : Rdr w B q) (hB : B < w.heap.size) (hq : q ≤ 3000) (hn : n ≤ 20) (t : Nat) (ht : t < 2) (w7 : World) (hc7 : Chg B (B + 1) (w.alloc (.cells #[.int .i64 (-1), .int .i64 n] 3)) w7) :
    ∃ Y : Int, w7.cell? ⟨w.heap.size, t, none⟩ = some (.int .i64 Y) ∧ (-1 ≤ Y ∧ Y ≤ n) := by
  have hbb := (hc7.block w.heap.size (by simp) (by omega)).trans (heap_alloc_new w (.cells #[.int .i64 (-1), .int .i64 n] 3))
  rcases (by omega : t = 0 ∨ t = 1) with rfl | rfl
  · exact ⟨-1, by simp [World.cell?, hbb], by omega⟩
  · exact ⟨n, by simp [World.cell?, hbb], by omega⟩

set_option maxHeartbeats 4000000 in
set_option maxRecDepth 100000 in
theorem l91At_any (B q n : Nat) (w : World) (hr : Rdr w B q) (hB : B < w.heap.size) (hq : q ≤ 2000) (hn : n ≤ 20) :
    Calls Try.prog 59 #[.pointer (some ⟨B, 0, none⟩), .int .i64 n] w (AtPost B q n w) := by
  by_cases h0 : n = 0
  · have h0' : ((n : Int) == 0) = true := by rw [beq_iff_eq]; omega
    clear h0
    have hba := (Below.refl w.heap.size w).alloc (Nat.le_refl _) (.cells #[.int .i64 (-1), .int .i64 n] 3)
    have HR := Lib.hid (hr.keep hba hB)
    have HCA := Lib.hid (hba.chg B (B + 1))
    have HT := Lib.hid (fun t (ht : t < 2) w7 hc => at_two B q n w hr hB (by omega) hn t ht w7 hc)
    clear hba hr
    go_enter Try.func59, Try.ntmps59
    go_wp2_with fail
    refine (pick_any B q 2 _ HR.out (by omega) (by omega) (by omega)).mono ?_
    rintro e w7 ⟨t, ht, rfl, hr7, hc7, hs7⟩
    obtain ⟨Y, hY, hYr⟩ := HT.out t ht w7 hc7
    have HYR := Lib.hid hYr
    have HR7 := Lib.hid hr7
    have HC7 := Lib.hid (HCA.out.trans hc7)
    have ht' : (t : Int) < 2 := by omega
    clear hr7 hc7 hs7 hYr
    go_wp2
    go_ret
    exact ⟨_, rfl, HYR.out, ⟨_, by omega, HR7.out⟩, HC7.out⟩
  · have h0' : ((n : Int) == 0) = false := by rw [beq_eq_false_iff_ne]; omega
    have HR0 := Lib.hid hr
    clear hr
    go_enter Try.func59, Try.ntmps59
    go_wp2_with fail
    refine (pick_any B q 20 _ HR0.out (by omega) (by omega) (by omega)).mono ?_
    rintro e w1 ⟨x, hx, rfl, hr1, hc1, hs1⟩
    have HR1 := Lib.hid hr1
    have HC1 := Lib.hid hc1
    have hB1 : B < w1.heap.size := by omega
    have hs1' : w.heap.size ≤ w1.heap.size := by omega
    clear hr1 hc1 hs1
    by_cases x0 : x = 0
    · subst x0
      have hba := (Below.refl w1.heap.size w1).alloc (Nat.le_refl _) (.cells #[.int .i64 (-1), .int .i64 n] 3)
      have HR := Lib.hid (HR1.out.keep hba hB1)
      have HCA := Lib.hid (Chg.then_below HC1.out hba hs1')
      have HT := Lib.hid (fun t (ht : t < 2) w7 hc => at_two B (q + 1) n w1 HR1.out hB1 (by omega) hn t ht w7 hc)
      clear hba
      go_wp2_with fail
      refine (pick_any B (q + 1) 2 _ HR.out (by omega) (by omega) (by omega)).mono ?_
      rintro e w7 ⟨t, ht, rfl, hr7, hc7, hs7⟩
      obtain ⟨Y, hY, hYr⟩ := HT.out t ht w7 hc7
      have HYR := Lib.hid hYr
      have HR7 := Lib.hid hr7
      have HC7 := Lib.hid (HCA.out.trans hc7)
      have ht' : (t : Int) < 2 := by omega
      clear hr7 hc7 hs7 hYr
      go_wp2
      go_ret
      exact ⟨_, rfl, HYR.out, ⟨_, by omega, HR7.out⟩, HC7.out⟩
    · have x0' : ((x : Int) == 0) = false := by rw [beq_eq_false_iff_ne]; omega
      go_wp2_with fail
      refine (pick_any B (q + 1) n _ HR1.out (by omega) (by omega) (by omega)).mono ?_
      rintro e w7 ⟨t, ht, rfl, hr7, hc7, hs7⟩
      have HR7 := Lib.hid hr7
      have HC7 := Lib.hid (HC1.out.trans hc7)
      clear hr7 hc7 hs7
      go_wp2
      go_ret
      exact ⟨_, rfl, by omega, ⟨_, by omega, HR7.out⟩, HC7.out⟩

/-- what a drawn profile leaves -/
def DpPost (w : World) (e : Ending) (w' : World) : Prop :=
  ∃ v n Z, e = .returned v ∧ (∃ a l c, v = .slice a l c) ∧ RdI 0 w'.heap.size w' v n Z ∧ n ≤ 9 ∧ (∀ i, i < n → -1 ≤ Z i ∧ Z i ≤ 100) ∧ Below w.heap.size w w'
def DqPost (w : World) (e : Ending) (w' : World) : Prop :=
  ∃ v n Z k, e = .returned (.tuple #[v, .int .i64 k]) ∧ (∃ a l c, v = .slice a l c) ∧ RdI 0 w'.heap.size w' v n Z ∧ n ≤ 9 ∧ (∀ i, i < n → -1 ≤ Z i ∧ Z i ≤ 100) ∧ (-100 ≤ k ∧ k ≤ 100) ∧ Below w.heap.size w w'
def DrrPost (w : World) (e : Ending) (w' : World) : Prop :=
  ∃ v n Z i k, e = .returned (.tuple #[v, .int .i64 i, .int .i64 k]) ∧ (∃ a l c, v = .slice a l c) ∧ RdI 0 w'.heap.size w' v n Z ∧ n ≤ 9 ∧ (∀ i, i < n → -1 ≤ Z i ∧ Z i ≤ 100) ∧ (-100 ≤ i ∧ i ≤ 100) ∧ (-100 ≤ k ∧ k ≤ 100) ∧ Below w.heap.size w w'

set_option maxHeartbeats 4000000 in
set_option maxRecDepth 100000 in
theorem draw_DrawProfilePairs (v : Value) (n hi : Nat) (w : World) (hv : RdB hi w v n) (hh : hi ≤ w.heap.size) :
    Calls Try.prog 24 #[v] w (DpPost w) := by
  have HO := Lib.hid (open_any v n hi w hv hh)
  obtain ⟨ao, cap, cb, off, Z, rfl, _⟩ := hv
  obtain ⟨B, eB⟩ : ∃ B, w.heap.size = B := ⟨_, rfl⟩
  have EB := Lib.hid eB
  clear eB
  go_enter Try.func24, Try.ntmps24
  go_wp2_with fail
  refine HO.out.mono ?_
  rintro e w1 ⟨rfl, hr, hb, hs⟩
  rw [EB.out] at hr hb hs ⊢
  have HB := Lib.hid hb
  have HR := Lib.hid hr
  have hs1 : B < w1.heap.size := by omega
  clear hb hr hs
  go_wp2_with fail
  refine (profile_any B 0 9 w1 HR.out hs1 (by omega) (by omega) (by omega)).mono ?_
  rintro e w2 ⟨v, n2, Z2, rfl, ⟨a, l, c, rfl⟩, hm, hn2, hz2, ⟨q2, hq2, hr2⟩, hc⟩
  have HM2 := Lib.hid hm
  have HZ2 := Lib.hid hz2
  have HC2 := Lib.hid hc
  have HR2 := Lib.hid hr2
  have hs2 : w1.heap.size ≤ w2.heap.size := hc.size
  obtain ⟨_, _, e0⟩ := hm.shape
  simp only [Value.slice.injEq] at e0
  obtain ⟨rfl, rfl, rfl⟩ := e0
  clear hm hz2 hc hr2
  go_wp2
  go_ret
  exact ⟨_, l, Z2, rfl, ⟨_, _, _, rfl⟩, HM2.out.mono (Nat.zero_le _) (Nat.le_refl _), hn2, HZ2.out, by rw [← EB.out] at *; exact chg_below HB.out HC2.out⟩

set_option maxHeartbeats 4000000 in
set_option maxRecDepth 100000 in
theorem draw_DrawProfileHull (v : Value) (n hi : Nat) (w : World) (hv : RdB hi w v n) (hh : hi ≤ w.heap.size) :
    Calls Try.prog 31 #[v] w (DpPost w) := by
  have HO := Lib.hid (open_any v n hi w hv hh)
  obtain ⟨ao, cap, cb, off, Z, rfl, _⟩ := hv
  obtain ⟨B, eB⟩ : ∃ B, w.heap.size = B := ⟨_, rfl⟩
  have EB := Lib.hid eB
  clear eB
  go_enter Try.func31, Try.ntmps31
  go_wp2_with fail
  refine HO.out.mono ?_
  rintro e w1 ⟨rfl, hr, hb, hs⟩
  rw [EB.out] at hr hb hs ⊢
  have HB := Lib.hid hb
  have HR := Lib.hid hr
  have hs1 : B < w1.heap.size := by omega
  clear hb hr hs
  go_wp2_with fail
  refine (profile_any B 0 9 w1 HR.out hs1 (by omega) (by omega) (by omega)).mono ?_
  rintro e w2 ⟨v, n2, Z2, rfl, ⟨a, l, c, rfl⟩, hm, hn2, hz2, ⟨q2, hq2, hr2⟩, hc⟩
  have HM2 := Lib.hid hm
  have HZ2 := Lib.hid hz2
  have HC2 := Lib.hid hc
  have HR2 := Lib.hid hr2
  have hs2 : w1.heap.size ≤ w2.heap.size := hc.size
  obtain ⟨_, _, e0⟩ := hm.shape
  simp only [Value.slice.injEq] at e0
  obtain ⟨rfl, rfl, rfl⟩ := e0
  clear hm hz2 hc hr2
  go_wp2
  go_ret
  exact ⟨_, l, Z2, rfl, ⟨_, _, _, rfl⟩, HM2.out.mono (Nat.zero_le _) (Nat.le_refl _), hn2, HZ2.out, by rw [← EB.out] at *; exact chg_below HB.out HC2.out⟩

set_option maxHeartbeats 4000000 in
set_option maxRecDepth 100000 in
theorem draw_DrawProfileBack (v : Value) (n hi : Nat) (w : World) (hv : RdB hi w v n) (hh : hi ≤ w.heap.size) :
    Calls Try.prog 34 #[v] w (DpPost w) := by
  have HO := Lib.hid (open_any v n hi w hv hh)
  obtain ⟨ao, cap, cb, off, Z, rfl, _⟩ := hv
  obtain ⟨B, eB⟩ : ∃ B, w.heap.size = B := ⟨_, rfl⟩
  have EB := Lib.hid eB
  clear eB
  go_enter Try.func34, Try.ntmps34
  go_wp2_with fail
  refine HO.out.mono ?_
  rintro e w1 ⟨rfl, hr, hb, hs⟩
  rw [EB.out] at hr hb hs ⊢
  have HB := Lib.hid hb
  have HR := Lib.hid hr
  have hs1 : B < w1.heap.size := by omega
  clear hb hr hs
  go_wp2_with fail
  refine (profile_any B 0 9 w1 HR.out hs1 (by omega) (by omega) (by omega)).mono ?_
  rintro e w2 ⟨v, n2, Z2, rfl, ⟨a, l, c, rfl⟩, hm, hn2, hz2, ⟨q2, hq2, hr2⟩, hc⟩
  have HM2 := Lib.hid hm
  have HZ2 := Lib.hid hz2
  have HC2 := Lib.hid hc
  have HR2 := Lib.hid hr2
  have hs2 : w1.heap.size ≤ w2.heap.size := hc.size
  obtain ⟨_, _, e0⟩ := hm.shape
  simp only [Value.slice.injEq] at e0
  obtain ⟨rfl, rfl, rfl⟩ := e0
  clear hm hz2 hc hr2
  go_wp2
  go_ret
  exact ⟨_, l, Z2, rfl, ⟨_, _, _, rfl⟩, HM2.out.mono (Nat.zero_le _) (Nat.le_refl _), hn2, HZ2.out, by rw [← EB.out] at *; exact chg_below HB.out HC2.out⟩

set_option maxHeartbeats 4000000 in
set_option maxRecDepth 100000 in
theorem draw_DrawProfileClimb (v : Value) (n hi : Nat) (w : World) (hv : RdB hi w v n) (hh : hi ≤ w.heap.size) :
    Calls Try.prog 40 #[v] w (DpPost w) := by
  have HO := Lib.hid (open_any v n hi w hv hh)
  obtain ⟨ao, cap, cb, off, Z, rfl, _⟩ := hv
  obtain ⟨B, eB⟩ : ∃ B, w.heap.size = B := ⟨_, rfl⟩
  have EB := Lib.hid eB
  clear eB
  go_enter Try.func40, Try.ntmps40
  go_wp2_with fail
  refine HO.out.mono ?_
  rintro e w1 ⟨rfl, hr, hb, hs⟩
  rw [EB.out] at hr hb hs ⊢
  have HB := Lib.hid hb
  have HR := Lib.hid hr
  have hs1 : B < w1.heap.size := by omega
  clear hb hr hs
  go_wp2_with fail
  refine (profile_any B 0 9 w1 HR.out hs1 (by omega) (by omega) (by omega)).mono ?_
  rintro e w2 ⟨v, n2, Z2, rfl, ⟨a, l, c, rfl⟩, hm, hn2, hz2, ⟨q2, hq2, hr2⟩, hc⟩
  have HM2 := Lib.hid hm
  have HZ2 := Lib.hid hz2
  have HC2 := Lib.hid hc
  have HR2 := Lib.hid hr2
  have hs2 : w1.heap.size ≤ w2.heap.size := hc.size
  obtain ⟨_, _, e0⟩ := hm.shape
  simp only [Value.slice.injEq] at e0
  obtain ⟨rfl, rfl, rfl⟩ := e0
  clear hm hz2 hc hr2
  go_wp2
  go_ret
  exact ⟨_, l, Z2, rfl, ⟨_, _, _, rfl⟩, HM2.out.mono (Nat.zero_le _) (Nat.le_refl _), hn2, HZ2.out, by rw [← EB.out] at *; exact chg_below HB.out HC2.out⟩

set_option maxHeartbeats 4000000 in
set_option maxRecDepth 100000 in
theorem draw_DrawProfileSeen (v : Value) (n hi : Nat) (w : World) (hv : RdB hi w v n) (hh : hi ≤ w.heap.size) :
    Calls Try.prog 19 #[v] w (DqPost w) := by
  have HO := Lib.hid (open_any v n hi w hv hh)
  obtain ⟨ao, cap, cb, off, Z, rfl, _⟩ := hv
  obtain ⟨B, eB⟩ : ∃ B, w.heap.size = B := ⟨_, rfl⟩
  have EB := Lib.hid eB
  clear eB
  go_enter Try.func19, Try.ntmps19
  go_wp2_with fail
  refine HO.out.mono ?_
  rintro e w1 ⟨rfl, hr, hb, hs⟩
  rw [EB.out] at hr hb hs ⊢
  have HB := Lib.hid hb
  have HR := Lib.hid hr
  have hs1 : B < w1.heap.size := by omega
  clear hb hr hs
  go_wp2_with fail
  refine (profile_any B 0 9 w1 HR.out hs1 (by omega) (by omega) (by omega)).mono ?_
  rintro e w2 ⟨v, n2, Z2, rfl, ⟨a, l, c, rfl⟩, hm, hn2, hz2, ⟨q2, hq2, hr2⟩, hc⟩
  have HM2 := Lib.hid hm
  have HZ2 := Lib.hid hz2
  have HC2 := Lib.hid hc
  have HR2 := Lib.hid hr2
  have hs2 : w1.heap.size ≤ w2.heap.size := hc.size
  obtain ⟨_, _, e0⟩ := hm.shape
  simp only [Value.slice.injEq] at e0
  obtain ⟨rfl, rfl, rfl⟩ := e0
  clear hm hz2 hc hr2
  go_wp2_with fail
  refine (l91At_any B q2 l w2 HR2.out (by omega) (by omega) (by omega)).mono ?_
  rintro e w3 ⟨k3, rfl, hk3, ⟨q3, hq3, hr⟩, hc⟩
  have HM3 := Lib.hid ((HM2.out.same (hc.sameIn (Nat.le_refl _) (Or.inr (Nat.le_refl _)))).mono (Nat.le_refl _) hc.size)
  have HC3 := Lib.hid (HC2.out.trans hc)
  have HR3 := Lib.hid hr
  have HK3 := Lib.hid hk3
  have hs3 : w2.heap.size ≤ w3.heap.size := hc.size
  clear hr hc hk3
  go_wp2
  go_ret2
  exact ⟨_, l, Z2, k3, rfl, ⟨_, _, _, rfl⟩, HM3.out.mono (Nat.zero_le _) (Nat.le_refl _), hn2, HZ2.out, by have := HK3.out; omega, by rw [← EB.out] at *; exact chg_below HB.out HC3.out⟩

set_option maxHeartbeats 4000000 in
set_option maxRecDepth 100000 in
theorem draw_DrawProfileSees (v : Value) (n hi : Nat) (w : World) (hv : RdB hi w v n) (hh : hi ≤ w.heap.size) :
    Calls Try.prog 15 #[v] w (DrrPost w) := by
  have HO := Lib.hid (open_any v n hi w hv hh)
  obtain ⟨ao, cap, cb, off, Z, rfl, _⟩ := hv
  obtain ⟨B, eB⟩ : ∃ B, w.heap.size = B := ⟨_, rfl⟩
  have EB := Lib.hid eB
  clear eB
  go_enter Try.func15, Try.ntmps15
  go_wp2_with fail
  refine HO.out.mono ?_
  rintro e w1 ⟨rfl, hr, hb, hs⟩
  rw [EB.out] at hr hb hs ⊢
  have HB := Lib.hid hb
  have HR := Lib.hid hr
  have hs1 : B < w1.heap.size := by omega
  clear hb hr hs
  go_wp2_with fail
  refine (profile_any B 0 9 w1 HR.out hs1 (by omega) (by omega) (by omega)).mono ?_
  rintro e w2 ⟨v, n2, Z2, rfl, ⟨a, l, c, rfl⟩, hm, hn2, hz2, ⟨q2, hq2, hr2⟩, hc⟩
  have HM2 := Lib.hid hm
  have HZ2 := Lib.hid hz2
  have HC2 := Lib.hid hc
  have HR2 := Lib.hid hr2
  have hs2 : w1.heap.size ≤ w2.heap.size := hc.size
  obtain ⟨_, _, e0⟩ := hm.shape
  simp only [Value.slice.injEq] at e0
  obtain ⟨rfl, rfl, rfl⟩ := e0
  clear hm hz2 hc hr2
  go_wp2_with fail
  refine (l91At_any B q2 l w2 HR2.out (by omega) (by omega) (by omega)).mono ?_
  rintro e w3 ⟨k3, rfl, hk3, ⟨q3, hq3, hr⟩, hc⟩
  have HM3 := Lib.hid ((HM2.out.same (hc.sameIn (Nat.le_refl _) (Or.inr (Nat.le_refl _)))).mono (Nat.le_refl _) hc.size)
  have HC3 := Lib.hid (HC2.out.trans hc)
  have HR3 := Lib.hid hr
  have HK3 := Lib.hid hk3
  have hs3 : w2.heap.size ≤ w3.heap.size := hc.size
  clear hr hc hk3
  go_wp2_with fail
  refine (l91At_any B q3 l w3 HR3.out (by omega) (by omega) (by omega)).mono ?_
  rintro e w4 ⟨k4, rfl, hk4, ⟨q4, hq4, hr⟩, hc⟩
  have HM4 := Lib.hid ((HM3.out.same (hc.sameIn (Nat.le_refl _) (Or.inr (Nat.le_refl _)))).mono (Nat.le_refl _) hc.size)
  have HC4 := Lib.hid (HC3.out.trans hc)
  have HR4 := Lib.hid hr
  have HK4 := Lib.hid hk4
  have hs4 : w3.heap.size ≤ w4.heap.size := hc.size
  clear hr hc hk4
  go_wp2
  go_ret3
  exact ⟨_, l, Z2, k3, k4, rfl, ⟨_, _, _, rfl⟩, HM4.out.mono (Nat.zero_le _) (Nat.le_refl _), hn2, HZ2.out, by have := HK3.out; omega, by have := HK4.out; omega, by rw [← EB.out] at *; exact chg_below HB.out HC4.out⟩

set_option maxHeartbeats 4000000 in
set_option maxRecDepth 100000 in
theorem draw_DrawProfileTilt (v : Value) (n hi : Nat) (w : World) (hv : RdB hi w v n) (hh : hi ≤ w.heap.size) :
    Calls Try.prog 37 #[v] w (DqPost w) := by
  have HO := Lib.hid (open_any v n hi w hv hh)
  obtain ⟨ao, cap, cb, off, Z, rfl, _⟩ := hv
  obtain ⟨B, eB⟩ : ∃ B, w.heap.size = B := ⟨_, rfl⟩
  have EB := Lib.hid eB
  clear eB
  go_enter Try.func37, Try.ntmps37
  go_wp2_with fail
  refine HO.out.mono ?_
  rintro e w1 ⟨rfl, hr, hb, hs⟩
  rw [EB.out] at hr hb hs ⊢
  have HB := Lib.hid hb
  have HR := Lib.hid hr
  have hs1 : B < w1.heap.size := by omega
  clear hb hr hs
  go_wp2_with fail
  refine (profile_any B 0 8 w1 HR.out hs1 (by omega) (by omega) (by omega)).mono ?_
  rintro e w2 ⟨v, n2, Z2, rfl, ⟨a, l, c, rfl⟩, hm, hn2, hz2, ⟨q2, hq2, hr2⟩, hc⟩
  have HM2 := Lib.hid hm
  have HZ2 := Lib.hid hz2
  have HC2 := Lib.hid hc
  have HR2 := Lib.hid hr2
  have hs2 : w1.heap.size ≤ w2.heap.size := hc.size
  obtain ⟨_, _, e0⟩ := hm.shape
  simp only [Value.slice.injEq] at e0
  obtain ⟨rfl, rfl, rfl⟩ := e0
  clear hm hz2 hc hr2
  go_wp2_with fail
  refine (pick_any B q2 23 _ HR2.out (by omega) (by omega) (by omega)).mono ?_
  rintro e w3 ⟨x, hx, rfl, hr, hc, hs⟩
  have HM3 := Lib.hid ((HM2.out.same (hc.sameIn (Nat.le_refl _) (Or.inr (Nat.le_refl _)))).mono (Nat.le_refl _) hc.size)
  have HC3 := Lib.hid (HC2.out.trans hc)
  clear hr hc hs
  go_wp2
  go_ret2
  exact ⟨_, l, Z2, _, rfl, ⟨_, _, _, rfl⟩, HM3.out.mono (Nat.zero_le _) (Nat.le_refl _), by omega, HZ2.out, by omega, by rw [← EB.out] at *; exact chg_below HB.out HC3.out⟩

set_option maxHeartbeats 4000000 in
set_option maxRecDepth 100000 in
theorem draw_DrawProfileEye (v : Value) (n hi : Nat) (w : World) (hv : RdB hi w v n) (hh : hi ≤ w.heap.size) :
    Calls Try.prog 27 #[v] w (DrrPost w) := by
  have HO := Lib.hid (draw_DrawProfileSees v n hi w hv hh)
  obtain ⟨ao, cap, cb, off, Z, rfl, _⟩ := hv
  go_enter Try.func27, Try.ntmps27
  go_wp2_with fail
  refine HO.out.mono ?_
  rintro e w1 ⟨v1, n1, Z1, i1, k1, rfl, ⟨a, l, c, rfl⟩, hm, hn, hz, hi1, hk1, hb⟩
  have HM := Lib.hid hm
  have HZ := Lib.hid hz
  have HB := Lib.hid hb
  clear hm hz hb
  go_wp2
  go_ret3
  exact ⟨_, n1, Z1, i1, k1, rfl, ⟨_, _, _, rfl⟩, HM.out, hn, HZ.out, hi1, hk1, HB.out⟩

end Go.Proofs.Ytgcebhmenffbjab
