/- The law FnGridInvert of the promises: its walk. -/
import Derived.Test.YtjnmbmdehaemnaaPHelp
import Derived.Test.YtjnmbmdehaemnaaDrawI
namespace Go.Proofs.Ytjnmbmdehaemnaa
open Go.RowKit
set_option linter.unusedVariables false

theorem invert_back {g : G} (h : g.Valid) : G.Eqv (invertG (invertG g)) g := by
  refine ⟨rfl, fun r hr => ⟨?_, fun c hc => ?_⟩⟩
  · simp only [invertG] at hr ⊢; rw [(h.2.2 r hr).1]
  · simp only [invertG] at hr hc ⊢; omega
theorem mn_inv (Z : Nat → Int) : ∀ n, 0 < n → mn (fun i => 99 - Z i) n = 99 - mx Z n ∧ mx (fun i => 99 - Z i) n = 99 - mn Z n := fun n hn => by
  obtain ⟨i1, h1, e1⟩ := mn_is Z n hn
  obtain ⟨i2, h2, e2⟩ := mx_is Z n hn
  obtain ⟨i3, h3, e3⟩ := mn_is (fun i => 99 - Z i) n hn
  obtain ⟨i4, h4, e4⟩ := mx_is (fun i => 99 - Z i) n hn
  have a1 := mn_le (fun i => 99 - Z i) n i2 h2
  have a2 := le_mx (fun i => 99 - Z i) n i1 h1
  have a3 := mn_le Z n i4 h4
  have a4 := le_mx Z n i3 h3
  have e3' : 99 - Z i3 = mn (fun i => 99 - Z i) n := e3
  have e4' : 99 - Z i4 = mx (fun i => 99 - Z i) n := e4
  have a1' : mn (fun i => 99 - Z i) n ≤ 99 - Z i2 := a1
  have a2' : 99 - Z i1 ≤ mx (fun i => 99 - Z i) n := a2
  clear e3 e4 a1 a2
  constructor <;> omega

set_option maxHeartbeats 4000000 in
set_option maxRecDepth 100000 in
theorem law_FnGridInvert (v : Value) (n : Nat) (w : World) (hv : RdB w.heap.size w v n) : Calls Try.prog 3 #[v] w (LawPost w) := by
  have HD := Lib.hid (draw_DrawGridInvert v n w.heap.size w hv (Nat.le_refl _))
  obtain ⟨ao, cap, cb, off, Z, rfl, hc1, hc2, _⟩ := hv
  by_cases hn : 1048576 < n
  · have hn' : (1048576 : Int) < n := by omega
    go_enter Try.func3, Try.ntmps3
    go_wp2
    go_ret
    exact ⟨rfl, Below.refl _ _⟩
  · have hn' : ¬ (1048576 : Int) < n := by omega
    go_enter Try.func3, Try.ntmps3
    go_wp2_with fail
    refine HD.out.mono ?_
    rintro e w1 ⟨vg, g, rfl, _, hm, hgn, hgl, bw1⟩
    obtain ⟨bg, og, cg, rfl⟩ := hm.shape (by omega)
    have R_g := Lib.hid hm
    have HGL := Lib.hid hgl
    obtain ⟨hgn1, hgn5⟩ := hgn
    clear hm hgl HD
    have sw1 : w.heap.size ≤ w1.heap.size := bw1.size
    have BL := Lib.hid bw1
    clear bw1
    by_cases hval : g.Valid
    case neg =>
      have HVN := Lib.hid hval
      clear hval
      go_wp2_with fail
      refine (implGridInvert_no _ 0 w1.heap.size g _ (R_g.out.mono (Nat.zero_le _) (by omega)) (Nat.le_refl _) HVN.out).mono ?_
      rintro e w2 ⟨r_1, rfl, ⟨_, _, _, rfl⟩, ow2, bw2⟩
      have Nw2 := Lib.hid (ow2.rd)
      clear ow2
      have sw2 : w1.heap.size ≤ w2.heap.size := bw2.size
      have L_2 := Lib.hid (R_g.out.same (SameIn.below bw2 (by omega)))
      clear R_g
      have BL_3 := Lib.hid (BL.out.trans (bw2.mono (by omega)))
      clear BL bw2
      go_wp2_with fail
      refine (specGridInvert_no _ 0 w2.heap.size g _ (L_2.out.mono (Nat.zero_le _) (by omega)) (Nat.le_refl _) HVN.out).mono ?_
      rintro e w3 ⟨r_4, rfl, ⟨_, _, _, rfl⟩, ow3, bw3⟩
      have Nw3 := Lib.hid (ow3)
      clear ow3
      have sw3 : w2.heap.size ≤ w3.heap.size := bw3.size
      have L_5 := Lib.hid (L_2.out.same (SameIn.below bw3 (by omega)))
      clear L_2
      have L_6 := Lib.hid (Nw2.out.same (SameIn.below bw3 (by omega)))
      clear Nw2
      have BL_7 := Lib.hid (BL_3.out.trans (bw3.mono (by omega)))
      clear BL_3 bw3
      go_wp2_with fail
      refine (sameGrid_any _ _ _ _ _ _ (G0) _ (L_6.out) (Nw3.out)).mono ?_
      intro e w4 hq
      obtain ⟨rfl, bw4⟩ := hq.below
      clear hq
      have sw4 : w3.heap.size ≤ w4.heap.size := bw4.size
      have L_8 := Lib.hid (L_5.out.same (SameIn.below bw4 (by omega)))
      clear L_5
      have L_9 := Lib.hid (L_6.out.same (SameIn.below bw4 (by omega)))
      clear L_6
      have L_10 := Lib.hid (Nw3.out.same (SameIn.below bw4 (by omega)))
      clear Nw3
      have BL_11 := Lib.hid (BL_7.out.trans (bw4.mono (by omega)))
      clear BL_7 bw4
      go_wp2_with fail
      refine (sameGrid_any _ _ _ _ _ _ (G0) _ (L_9.out) (L_10.out)).mono ?_
      intro e w5 hq
      obtain ⟨rfl, bw5⟩ := hq.below
      clear hq
      have sw5 : w4.heap.size ≤ w5.heap.size := bw5.size
      have L_12 := Lib.hid (L_8.out.same (SameIn.below bw5 (by omega)))
      clear L_8
      have L_13 := Lib.hid (L_9.out.same (SameIn.below bw5 (by omega)))
      clear L_9
      have L_14 := Lib.hid (L_10.out.same (SameIn.below bw5 (by omega)))
      clear L_10
      have BL_15 := Lib.hid (BL_11.out.trans (bw5.mono (by omega)))
      clear BL_11 bw5
      go_wp2
      go_ret
      exact ⟨rfl, BL_15.out⟩
    case pos =>
      have HV := Lib.hid hval
      obtain ⟨lo, elo⟩ : ∃ lo, mn g.flat (g.n * g.len 0) = lo := ⟨_, rfl⟩
      obtain ⟨hi, ehi⟩ : ∃ hi, mx g.flat (g.n * g.len 0) = hi := ⟨_, rfl⟩
      have hN : 0 < g.n * g.len 0 := Nat.mul_pos hval.1.1 hval.2.1.1
      have hlo : (0 ≤ lo ∧ lo ≤ 99) ∧ (0 ≤ hi ∧ hi ≤ 99) := by
        obtain ⟨i1, h1, e1⟩ := mn_is g.flat _ hN
        obtain ⟨i2, h2, e2⟩ := mx_is g.flat _ hN
        rw [← elo, ← ehi, ← e1, ← e2]
        exact ⟨G.flat_ok hval h1, G.flat_ok hval h2⟩
      obtain ⟨⟨hlo1, hlo2⟩, hhi1, hhi2⟩ := hlo
      have h9 := mn_inv g.flat (g.n * g.len 0) hN
      have HL2 := Lib.hid (show mn (invertG g).flat ((invertG g).n * (invertG g).len 0) = 99 - hi from ehi ▸ h9.1)
      have HH2 := Lib.hid (show mx (invertG g).flat ((invertG g).n * (invertG g).len 0) = 99 - lo from elo ▸ h9.2)
      have ELO := Lib.hid elo
      have EHI := Lib.hid ehi
      clear hval elo ehi hN h9
      go_wp2_with fail
      refine (implGridInvert_yes _ 0 w1.heap.size g _ (R_g.out.mono (Nat.zero_le _) (by omega)) (Nat.le_refl _) HV.out).mono ?_
      rintro e w2 ⟨r_1, rfl, ⟨_, _, _, rfl⟩, ow2, bw2⟩
      have Nw2 := Lib.hid (ow2.rd)
      clear ow2
      have sw2 : w1.heap.size ≤ w2.heap.size := bw2.size
      have L_2 := Lib.hid (R_g.out.same (SameIn.below bw2 (by omega)))
      clear R_g
      have BL_3 := Lib.hid (BL.out.trans (bw2.mono (by omega)))
      clear BL bw2
      go_wp2_with fail
      refine (specGridInvert_yes _ 0 w2.heap.size g _ (L_2.out.mono (Nat.zero_le _) (by omega)) (Nat.le_refl _) HV.out).mono ?_
      rintro e w3 ⟨r_4, rfl, ⟨_, _, _, rfl⟩, ow3, bw3⟩
      have Nw3 := Lib.hid (ow3)
      clear ow3
      have sw3 : w2.heap.size ≤ w3.heap.size := bw3.size
      have L_5 := Lib.hid (L_2.out.same (SameIn.below bw3 (by omega)))
      clear L_2
      have L_6 := Lib.hid (Nw2.out.same (SameIn.below bw3 (by omega)))
      clear Nw2
      have BL_7 := Lib.hid (BL_3.out.trans (bw3.mono (by omega)))
      clear BL_3 bw3
      go_wp2_with fail
      refine (sameGrid_any _ _ _ _ _ _ (invertG g) _ (L_6.out) (Nw3.out)).mono ?_
      intro e w4 hq
      obtain ⟨rfl, bw4⟩ := hq.below
      clear hq
      have sw4 : w3.heap.size ≤ w4.heap.size := bw4.size
      have L_8 := Lib.hid (L_5.out.same (SameIn.below bw4 (by omega)))
      clear L_5
      have L_9 := Lib.hid (L_6.out.same (SameIn.below bw4 (by omega)))
      clear L_6
      have L_10 := Lib.hid (Nw3.out.same (SameIn.below bw4 (by omega)))
      clear Nw3
      have BL_11 := Lib.hid (BL_7.out.trans (bw4.mono (by omega)))
      clear BL_7 bw4
      go_wp2_with fail
      refine (implGridInvert_yes _ 0 w4.heap.size (invertG g) _ (L_9.out.mono (Nat.zero_le _) (by omega)) (Nat.le_refl _) (invert_valid HV.out)).mono ?_
      rintro e w5 ⟨r_12, rfl, ⟨_, _, _, rfl⟩, ow5, bw5⟩
      have Nw5 := Lib.hid (ow5.rd)
      clear ow5
      have sw5 : w4.heap.size ≤ w5.heap.size := bw5.size
      have L_13 := Lib.hid (L_8.out.same (SameIn.below bw5 (by omega)))
      clear L_8
      have L_14 := Lib.hid (L_9.out.same (SameIn.below bw5 (by omega)))
      clear L_9
      have BL_15 := Lib.hid (BL_11.out.trans (bw5.mono (by omega)))
      clear BL_11 bw5
      go_wp2_with fail
      refine ((implGridRange_yes _ 0 w5.heap.size g _ (L_13.out.mono (Nat.zero_le _) (by omega)) (Nat.le_refl _) HV.out)).mono ?_
      rintro e w6 ⟨rfl, bw6⟩
      have sw6 : w5.heap.size ≤ w6.heap.size := bw6.size
      have L_16 := Lib.hid (L_13.out.same (SameIn.below bw6 (by omega)))
      clear L_13
      have L_17 := Lib.hid (L_14.out.same (SameIn.below bw6 (by omega)))
      clear L_14
      have L_18 := Lib.hid (Nw5.out.same (SameIn.below bw6 (by omega)))
      clear Nw5
      have BL_19 := Lib.hid (BL_15.out.trans (bw6.mono (by omega)))
      clear BL_15 bw6
      rw [ELO.out, EHI.out]
      go_wp2_with fail
      refine ((implGridRange_yes _ 0 w6.heap.size (invertG g) _ (L_17.out.mono (Nat.zero_le _) (by omega)) (Nat.le_refl _) (invert_valid HV.out))).mono ?_
      rintro e w7 ⟨rfl, bw7⟩
      have sw7 : w6.heap.size ≤ w7.heap.size := bw7.size
      have L_20 := Lib.hid (L_16.out.same (SameIn.below bw7 (by omega)))
      clear L_16
      have L_21 := Lib.hid (L_17.out.same (SameIn.below bw7 (by omega)))
      clear L_17
      have L_22 := Lib.hid (L_18.out.same (SameIn.below bw7 (by omega)))
      clear L_18
      have BL_23 := Lib.hid (BL_19.out.trans (bw7.mono (by omega)))
      clear BL_19 bw7
      rw [HL2.out, HH2.out]
      have hy1 : (99 - hi == 99 - hi) = true := by simp
      have hy2 : (99 - lo == 99 - lo) = true := by simp
      go_wp2_with fail
      refine (sameGrid_any _ _ _ _ _ _ (g) _ (L_22.out.congr (invert_back HV.out)) (L_20.out)).mono ?_
      intro e w8 hq
      obtain ⟨rfl, bw8⟩ := hq.below
      clear hq
      have sw8 : w7.heap.size ≤ w8.heap.size := bw8.size
      have L_24 := Lib.hid (L_20.out.same (SameIn.below bw8 (by omega)))
      clear L_20
      have L_25 := Lib.hid (L_21.out.same (SameIn.below bw8 (by omega)))
      clear L_21
      have L_26 := Lib.hid (L_22.out.same (SameIn.below bw8 (by omega)))
      clear L_22
      have BL_27 := Lib.hid (BL_23.out.trans (bw8.mono (by omega)))
      clear BL_23 bw8
      go_wp2
      go_ret
      exact ⟨rfl, BL_27.out⟩
end Go.Proofs.Ytjnmbmdehaemnaa

