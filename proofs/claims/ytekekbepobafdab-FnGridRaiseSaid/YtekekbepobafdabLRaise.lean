/- The law FnGridRaise of the promises: its walk. -/
import Derived.Test.YtekekbepobafdabPHelp
import Derived.Test.YtekekbepobafdabDrawR
namespace Go.Proofs.Ytekekbepobafdab
open Go.RowKit
set_option linter.unusedVariables false

theorem mn_add (Z : Nat → Int) (k : Int) : ∀ n, mn (fun i => Z i + k) n = mn Z n + k
  | 0 => rfl
  | n + 1 => by simp only [mn]; rw [mn_add Z k n]; omega
theorem mx_add (Z : Nat → Int) (k : Int) : ∀ n, mx (fun i => Z i + k) n = mx Z n + k
  | 0 => rfl
  | n + 1 => by simp only [mx]; rw [mx_add Z k n]; omega
theorem raise_flat (g : G) (k : Int) : (raiseG g k).flat = fun i => g.flat i + k := rfl
theorem raise_back {g : G} (h : g.Valid) (k : Int) : G.Eqv (raiseG (raiseG g k) (-k)) g := by
  refine ⟨rfl, fun r hr => ⟨?_, fun c hc => ?_⟩⟩
  · simp only [raiseG] at hr ⊢; rw [(h.2.2 r hr).1]
  · simp only [raiseG] at hr hc ⊢; omega
theorem raise_ok_back {g : G} {k : Int} (h : g.RaiseOk k) : (raiseG g k).RaiseOk (-k) := by
  obtain ⟨h1, h2, h3⟩ := h
  refine ⟨h3, by omega, ⟨h1.1, h1.2.1, fun r hr => ⟨rfl, fun c hc => ?_⟩⟩⟩
  have := (h1.2.2 r hr).2 c (by simp only [raiseG] at hr hc; rw [(h1.2.2 r hr).1]; exact hc)
  simp only [raiseG]; omega
theorem mn_ok {Z : Nat → Int} : ∀ {n}, 0 < n → (∀ i, i < n → 0 ≤ Z i ∧ Z i ≤ 99) → 0 ≤ mn Z n ∧ mn Z n ≤ 99 := fun h1 h2 => by
  obtain ⟨i, h3, h4⟩ := mn_is Z _ h1
  have := h2 i h3; omega
theorem mx_ok {Z : Nat → Int} : ∀ {n}, 0 < n → (∀ i, i < n → 0 ≤ Z i ∧ Z i ≤ 99) → 0 ≤ mx Z n ∧ mx Z n ≤ 99 := fun h1 h2 => by
  obtain ⟨i, h3, h4⟩ := mx_is Z _ h1
  have := h2 i h3; omega

set_option maxHeartbeats 4000000 in
set_option maxRecDepth 100000 in
theorem law_FnGridRaise (v : Value) (n : Nat) (w : World) (hv : RdB w.heap.size w v n) : Calls Try.prog 5 #[v] w (LawPost w) := by
  have HD := Lib.hid (draw_raise v n w.heap.size w hv (Nat.le_refl _))
  obtain ⟨ao, cap, cb, off, Z, rfl, hc1, hc2, _⟩ := hv
  by_cases hn : 1048576 < n
  · have hn' : (1048576 : Int) < n := by omega
    go_enter Try.func5, Try.ntmps5
    go_wp2
    go_ret
    exact ⟨rfl, Below.refl _ _⟩
  · have hn' : ¬ (1048576 : Int) < n := by omega
    go_enter Try.func5, Try.ntmps5
    go_wp2_with fail
    refine HD.out.mono ?_
    rintro e w1 ⟨vg, g, k, rfl, _, hm, hgn, hgl, ⟨hk1, hk2⟩, bw1⟩
    obtain ⟨bg, og, cg, rfl⟩ := hm.shape (by omega)
    have R_g := Lib.hid hm
    obtain ⟨hgn1, hgn5⟩ := hgn
    clear hm hgl HD
    have sw1 : w.heap.size ≤ w1.heap.size := bw1.size
    have BL := Lib.hid bw1
    clear bw1
    by_cases hok : g.RaiseOk k
    case neg =>
      have HVN := Lib.hid hok
      clear hok
      go_wp2_with fail
      refine (implGridRaise_any _ 0 w1.heap.size g k _ (R_g.out.mono (Nat.zero_le _) (by omega)) (Nat.le_refl _)).mono ?_
      intro e w2 hp
      obtain ⟨r_1, rfl, ⟨_, _, _, rfl⟩, ow2, bw2⟩ := hp.2 HVN.out
      clear hp
      have Nw2 := Lib.hid (ow2.rd)
      clear ow2
      have sw2 : w1.heap.size ≤ w2.heap.size := bw2.size
      have L_2 := Lib.hid (R_g.out.same (SameIn.below bw2 (by omega)))
      clear R_g
      have BL_3 := Lib.hid (BL.out.trans (bw2.mono (by omega)))
      clear BL bw2
      go_wp2_with fail
      refine (specGridRaise_any _ 0 w2.heap.size g k _ (L_2.out.mono (Nat.zero_le _) (by omega)) (Nat.le_refl _)).mono ?_
      intro e w3 hp
      obtain ⟨r_4, rfl, ⟨_, _, _, rfl⟩, ow3, bw3⟩ := hp.2 HVN.out
      clear hp
      have Nw3 := Lib.hid (ow3)
      clear ow3
      have sw3 : w2.heap.size ≤ w3.heap.size := bw3.size
      have L_5 := Lib.hid (L_2.out.same (SameIn.below bw3 (by omega)))
      clear L_2
      have L_6 := Lib.hid (Nw2.out.same (SameIn.below bw3 (by omega)))
      clear Nw2
      have BL_7 := Lib.hid (BL_3.out.trans (bw3.mono (by omega)))
      clear BL_3 bw3
      go_wp2_with fail
      refine (sameGrid_any _ _ _ _ _ _ (G0) _ (L_6.out) (Nw3.out)).mono ?_
      intro e w4 hq
      obtain ⟨rfl, bw4⟩ := hq.below
      clear hq
      have sw4 : w3.heap.size ≤ w4.heap.size := bw4.size
      have L_8 := Lib.hid (L_5.out.same (SameIn.below bw4 (by omega)))
      clear L_5
      have L_9 := Lib.hid (L_6.out.same (SameIn.below bw4 (by omega)))
      clear L_6
      have L_10 := Lib.hid (Nw3.out.same (SameIn.below bw4 (by omega)))
      clear Nw3
      have BL_11 := Lib.hid (BL_7.out.trans (bw4.mono (by omega)))
      clear BL_7 bw4
      go_wp2_with fail
      refine (sameGrid_any _ _ _ _ _ _ (G0) _ (L_9.out) (L_10.out)).mono ?_
      intro e w5 hq
      obtain ⟨rfl, bw5⟩ := hq.below
      clear hq
      have sw5 : w4.heap.size ≤ w5.heap.size := bw5.size
      have L_12 := Lib.hid (L_8.out.same (SameIn.below bw5 (by omega)))
      clear L_8
      have L_13 := Lib.hid (L_9.out.same (SameIn.below bw5 (by omega)))
      clear L_9
      have L_14 := Lib.hid (L_10.out.same (SameIn.below bw5 (by omega)))
      clear L_10
      have BL_15 := Lib.hid (BL_11.out.trans (bw5.mono (by omega)))
      clear BL_11 bw5
      go_wp2
      go_ret
      exact ⟨rfl, BL_15.out⟩
    case pos =>
      have HOK := Lib.hid hok
      have hk3 := hok.2.1
      obtain ⟨hk3, hk4⟩ := hk3
      have HV := Lib.hid hok.1
      clear hok
      go_wp2_with fail
      refine (implGridRaise_any _ 0 w1.heap.size g k _ (R_g.out.mono (Nat.zero_le _) (by omega)) (Nat.le_refl _)).mono ?_
      intro e w2 hp
      obtain ⟨r_1, rfl, ⟨_, _, _, rfl⟩, ow2, bw2⟩ := hp.1 HOK.out
      clear hp
      have Nw2 := Lib.hid (ow2.rd)
      clear ow2
      have sw2 : w1.heap.size ≤ w2.heap.size := bw2.size
      have L_2 := Lib.hid (R_g.out.same (SameIn.below bw2 (by omega)))
      clear R_g
      have BL_3 := Lib.hid (BL.out.trans (bw2.mono (by omega)))
      clear BL bw2
      go_wp2_with fail
      refine (specGridRaise_any _ 0 w2.heap.size g k _ (L_2.out.mono (Nat.zero_le _) (by omega)) (Nat.le_refl _)).mono ?_
      intro e w3 hp
      obtain ⟨r_4, rfl, ⟨_, _, _, rfl⟩, ow3, bw3⟩ := hp.1 HOK.out
      clear hp
      have Nw3 := Lib.hid (ow3)
      clear ow3
      have sw3 : w2.heap.size ≤ w3.heap.size := bw3.size
      have L_5 := Lib.hid (L_2.out.same (SameIn.below bw3 (by omega)))
      clear L_2
      have L_6 := Lib.hid (Nw2.out.same (SameIn.below bw3 (by omega)))
      clear Nw2
      have BL_7 := Lib.hid (BL_3.out.trans (bw3.mono (by omega)))
      clear BL_3 bw3
      go_wp2_with fail
      refine (sameGrid_any _ _ _ _ _ _ (raiseG g k) _ (L_6.out) (Nw3.out)).mono ?_
      intro e w4 hq
      obtain ⟨rfl, bw4⟩ := hq.below
      clear hq
      have sw4 : w3.heap.size ≤ w4.heap.size := bw4.size
      have L_8 := Lib.hid (L_5.out.same (SameIn.below bw4 (by omega)))
      clear L_5
      have L_9 := Lib.hid (L_6.out.same (SameIn.below bw4 (by omega)))
      clear L_6
      have L_10 := Lib.hid (Nw3.out.same (SameIn.below bw4 (by omega)))
      clear Nw3
      have BL_11 := Lib.hid (BL_7.out.trans (bw4.mono (by omega)))
      clear BL_7 bw4
      go_wp2_with fail
      refine (implGridRaise_any _ 0 w4.heap.size (raiseG g k) (-k) _ (L_9.out.mono (Nat.zero_le _) (by omega)) (Nat.le_refl _)).mono ?_
      intro e w5 hp
      obtain ⟨r_12, rfl, ⟨_, _, _, rfl⟩, ow5, bw5⟩ := hp.1 (raise_ok_back HOK.out)
      clear hp
      have Nw5 := Lib.hid (ow5.rd)
      clear ow5
      have sw5 : w4.heap.size ≤ w5.heap.size := bw5.size
      have L_13 := Lib.hid (L_8.out.same (SameIn.below bw5 (by omega)))
      clear L_8
      have L_14 := Lib.hid (L_9.out.same (SameIn.below bw5 (by omega)))
      clear L_9
      have BL_15 := Lib.hid (BL_11.out.trans (bw5.mono (by omega)))
      clear BL_11 bw5
      obtain ⟨lo, elo⟩ : ∃ lo, mn g.flat (g.n * g.len 0) = lo := ⟨_, rfl⟩
      obtain ⟨hi, ehi⟩ : ∃ hi, mx g.flat (g.n * g.len 0) = hi := ⟨_, rfl⟩
      have hlo : (0 ≤ lo ∧ lo ≤ 99) ∧ (0 ≤ hi ∧ hi ≤ 99) := by
        rw [← elo, ← ehi]
        have h1 : 0 < g.n * g.len 0 := Nat.mul_pos HV.out.1.1 HV.out.2.1.1
        exact ⟨mn_ok h1 (fun i hi => G.flat_ok HV.out hi), mx_ok h1 (fun i hi => G.flat_ok HV.out hi)⟩
      obtain ⟨⟨hlo1, hlo2⟩, hhi1, hhi2⟩ := hlo
      have ELO := Lib.hid elo
      have EHI := Lib.hid ehi
      have ELK := Lib.hid (show mn (raiseG g k).flat ((raiseG g k).n * (raiseG g k).len 0) = lo + k by rw [raise_flat, mn_add, ← elo]; rfl)
      have EHK := Lib.hid (show mx (raiseG g k).flat ((raiseG g k).n * (raiseG g k).len 0) = hi + k by rw [raise_flat, mx_add, ← ehi]; rfl)
      clear elo ehi
      go_wp2_with fail
      refine ((implGridRange_yes _ 0 w5.heap.size g _ (L_13.out.mono (Nat.zero_le _) (by omega)) (Nat.le_refl _) HV.out)).mono ?_
      rintro e w6 ⟨rfl, bw6⟩
      have sw6 : w5.heap.size ≤ w6.heap.size := bw6.size
      have L_16 := Lib.hid (L_13.out.same (SameIn.below bw6 (by omega)))
      clear L_13
      have L_17 := Lib.hid (L_14.out.same (SameIn.below bw6 (by omega)))
      clear L_14
      have L_18 := Lib.hid (Nw5.out.same (SameIn.below bw6 (by omega)))
      clear Nw5
      have BL_19 := Lib.hid (BL_15.out.trans (bw6.mono (by omega)))
      clear BL_15 bw6
      rw [ELO.out, EHI.out]
      go_wp2_with fail
      refine ((implGridRange_yes _ 0 w6.heap.size (raiseG g k) _ (L_17.out.mono (Nat.zero_le _) (by omega)) (Nat.le_refl _) HOK.out.2.2)).mono ?_
      rintro e w7 ⟨rfl, bw7⟩
      have sw7 : w6.heap.size ≤ w7.heap.size := bw7.size
      have L_20 := Lib.hid (L_16.out.same (SameIn.below bw7 (by omega)))
      clear L_16
      have L_21 := Lib.hid (L_17.out.same (SameIn.below bw7 (by omega)))
      clear L_17
      have L_22 := Lib.hid (L_18.out.same (SameIn.below bw7 (by omega)))
      clear L_18
      have BL_23 := Lib.hid (BL_19.out.trans (bw7.mono (by omega)))
      clear BL_19 bw7
      rw [ELK.out, EHK.out]
      go_wp2_with fail
      refine (sameGrid_any _ _ _ _ _ _ (g) _ (L_22.out.congr (raise_back HV.out k)) (L_20.out)).mono ?_
      intro e w8 hq
      obtain ⟨rfl, bw8⟩ := hq.below
      clear hq
      have sw8 : w7.heap.size ≤ w8.heap.size := bw8.size
      have L_24 := Lib.hid (L_20.out.same (SameIn.below bw8 (by omega)))
      clear L_20
      have L_25 := Lib.hid (L_21.out.same (SameIn.below bw8 (by omega)))
      clear L_21
      have L_26 := Lib.hid (L_22.out.same (SameIn.below bw8 (by omega)))
      clear L_22
      have BL_27 := Lib.hid (BL_23.out.trans (bw8.mono (by omega)))
      clear BL_23 bw8
      have hx1 : (lo + k == lo + k) = true := by simp
      have hx2 : (hi + k == hi + k) = true := by simp
      go_wp2
      go_ret
      exact ⟨rfl, BL_27.out⟩
end Go.Proofs.Ytekekbepobafdab

