/- The law FnPairs of the promises: its walk. -/
import Derived.Test.YtgcebhmenffbjabPrEb
namespace Go.Proofs.Ytgcebhmenffbjab
open Go.RowKit
set_option linter.unusedVariables false

set_option maxHeartbeats 4000000 in
set_option maxRecDepth 100000 in
theorem law_FnPairs (v : Value) (n : Nat) (w : World) (hv : RdB w.heap.size w v n) : Calls Try.prog 5 #[v] w (LawPost w) := by
  have HD := Lib.hid (draw_DrawProfilePairs v n w.heap.size w hv (Nat.le_refl _))
  obtain ⟨ao, cap, cb, off, Z, rfl, hc1, hc2, _⟩ := hv
  by_cases hn : 1048576 < n
  · have hn' : (1048576 : Int) < n := by omega
    go_enter Try.func5, Try.ntmps5
    go_wp2
    go_ret
    exact ⟨rfl, Below.refl _ _⟩
  · have hn' : ¬ (1048576 : Int) < n := by omega
    go_enter Try.func5, Try.ntmps5
    go_wp2_with fail
    refine HD.out.mono ?_
    rintro e w1 ⟨vp, n0, z0, rfl, _, hm, hn9, hzz, bw1⟩
    obtain ⟨ap, cp, rfl⟩ := hm.shape
    have R_p := Lib.hid hm
    have HZZ := Lib.hid hzz
    clear hm hzz HD
    have sw1 : w.heap.size ≤ w1.heap.size := bw1.size
    have BL := Lib.hid bw1
    clear bw1
    by_cases hok : PrOk n0 z0
    case neg =>
      go_wp2_with fail
      refine (implPairs_no _ 0 w1.heap.size n0 z0 _ (R_p.out.mono (Nat.zero_le _) (by omega)) (Nat.le_refl _) hok).mono ?_
      rintro e w2 ⟨rfl, bw2⟩
      have sw2 : w1.heap.size ≤ w2.heap.size := bw2.size
      have L_1 := Lib.hid (R_p.out.same (SameIn.below bw2 (by omega)))
      clear R_p
      have BL_2 := Lib.hid (BL.out.trans (bw2.mono (by omega)))
      clear BL bw2
      go_wp2_with fail
      refine (specPairs_no _ 0 w2.heap.size n0 z0 _ (L_1.out.mono (Nat.zero_le _) (by omega)) (Nat.le_refl _) hok).mono ?_
      rintro e w3 ⟨rfl, bw3⟩
      have sw3 : w2.heap.size ≤ w3.heap.size := bw3.size
      have L_3 := Lib.hid (L_1.out.same (SameIn.below bw3 (by omega)))
      clear L_1
      have BL_4 := Lib.hid (BL_2.out.trans (bw3.mono (by omega)))
      clear BL_2 bw3
      go_wp2
      go_ret
      exact ⟨rfl, BL_4.out⟩
    case pos =>
      have hn20 := hok.1.2
      have hn1 := hok.1.1
      have hre := rev_ok hok
      have HSP := Lib.hid (smR_pairs z0 n0)
      have HSE := Lib.hid (fun i => smR_seen z0 n0 i)
      have HSL := Lib.hid (fun i => smR_le z0 n0 i)
      have HRV := Lib.hid (prN_rev z0 n0)
      have HGE := Lib.hid (show n0 - 1 ≤ prN z0 n0 from by
        obtain ⟨m, rfl⟩ : ∃ m, n0 = m + 1 := ⟨n0 - 1, by omega⟩
        have := prN_ge z0 m
        omega)
      have HPL := Lib.hid (prN_le z0 n0)
      have hnn : n0 * n0 ≤ 81 := Nat.mul_le_mul hn9 hn9
      have HSN := Lib.hid (fun (W : World) (v : Value) (hi : Nat) (i : Nat) (hin : i < n0) (h : RdI 0 hi W v n0 z0) (hh : hi ≤ W.heap.size) => implSeen_at v 0 hi n0 z0 i W h hh hok hin)
      have HSNL := Lib.hid (fun i => snL_len z0 i n0)
      go_wp2_with fail
      refine (implPairs_yes _ 0 w1.heap.size n0 z0 _ (R_p.out.mono (Nat.zero_le _) (by omega)) (Nat.le_refl _) hok).mono ?_
      rintro e w2 ⟨rfl, bw2⟩
      have sw2 : w1.heap.size ≤ w2.heap.size := bw2.size
      have L_1 := Lib.hid (R_p.out.same (SameIn.below bw2 (by omega)))
      clear R_p
      have BL_2 := Lib.hid (BL.out.trans (bw2.mono (by omega)))
      clear BL bw2
      go_wp2_with fail
      refine (specPairs_yes _ 0 w2.heap.size n0 z0 _ (L_1.out.mono (Nat.zero_le _) (by omega)) (Nat.le_refl _) hok).mono ?_
      rintro e w3 ⟨rfl, bw3⟩
      have sw3 : w2.heap.size ≤ w3.heap.size := bw3.size
      have L_3 := Lib.hid (L_1.out.same (SameIn.below bw3 (by omega)))
      clear L_1
      have BL_4 := Lib.hid (BL_2.out.trans (bw3.mono (by omega)))
      clear BL_2 bw3
      obtain ⟨P, eP⟩ : ∃ P, prN z0 n0 = P := ⟨_, rfl⟩
      rw [eP] at HSP HRV HGE HPL ⊢
      have hPne : ((P : Int) != P) = false := by simp
      have hP81 : P ≤ 81 := by have := HPL.out; omega
      have hP0 : ¬ (P : Int) < 0 := by omega
      have HRP := Lib.hid (fun (W : World) (hb : Below w3.heap.size w3 W) => (L_3.out.same (SameIn.below hb (by omega))).mono (Nat.zero_le _) (show _ ≤ w3.heap.size by omega))
      go_wp2
      go_loopw [6, 7] (fun s c wr => ∃ (i S : Nat), i ≤ n0 ∧ c = .int .i64 i ∧ s = .int .i64 ((S : Int) - i) ∧ S = smR (fun a b => seB z0 a b 0) n0 i ∧ Below w3.heap.size w3 wr) (fun _ c _ => n0 - (intOf c).toNat)
      case atStart => exact ⟨0, 0, Nat.zero_le _, rfl, rfl, rfl, Below.refl _ _⟩
      case round =>
        obtain ⟨i, S, hi', rfl, rfl, hS, hb⟩ := hrel
        have HB := Lib.hid hb
        have hSle : S ≤ i * n0 := by rw [hS]; exact HSL.out i
        have hin0 : i * n0 ≤ 81 := Nat.mul_le_mul (show i ≤ 9 by omega) hn9
        have hszb := hb.size
        have HS := Lib.hid hS
        clear hb hS
        by_cases hlt : i < n0
        · have hlt' : (i : Int) < n0 := by omega
          have HCL := Lib.hid (HSN.out _ _ _ i hlt (HRP.out _ HB.out) hszb)
          have HE := Lib.hid (HSE.out i)
          have hln := HSNL.out i
          obtain ⟨L, eL⟩ : ∃ L, snL z0 i n0 = L := ⟨_, rfl⟩
          rw [eL] at HCL HE hln
          have hS81 : S ≤ 81 := by omega
          have hL20 : L.length ≤ 20 := by omega
          clear eL hSle hin0
          go_wp2_with fail
          refine HCL.out.mono ?_
          rintro e w8 ⟨u, rfl, hnu, b8⟩
          obtain ⟨ua, uc, rfl⟩ := hnu.shape
          have HB8 := Lib.hid (HB.out.trans (b8.mono hszb))
          clear b8 hnu
          go_wp2
          go_roundw
          case rel => exact ⟨i + 1, S + L.length, by omega, by go_num, by go_num, by rw [HE.out, HS.out], HB8.out⟩
          case measure => simp [intOf]; omega
        · obtain rfl : i = n0 := by omega
          have HSS := Lib.hid (show (S : Int) - i = 2 * P from by rw [HS.out, HSP.out]; omega)
          have hge := HGE.out
          rw [HSS.out]
          have hb2 : ((2 * (P : Int)) == 2 * P) = true := by simp
          have hb3 : ((P : Int) == P) = true := by simp
          have hge' : (i : Int) - 1 ≤ P := by omega
          have HBF := Lib.hid (BL_4.out.trans (HB.out.mono (by omega)))
          have HRD := Lib.hid (HRP.out _ HB.out)
          clear hSle hin0 hge
          go_wp2_with fail
          refine (implBack_yes _ 0 w3.heap.size i z0 _ HRD.out hszb hok).mono ?_
          rintro e w8 ⟨_, rfl, ⟨_, _, _, rfl⟩, o8, b8⟩
          have HO := Lib.hid o8.rd
          have HB8 := Lib.hid (HBF.out.trans (b8.mono HBF.out.size))
          have hs8 := b8.size
          clear b8 o8
          go_wp2_with fail
          refine (implPairs_yes _ 0 w8.heap.size i (revZ (i - 1) z0) _ (HO.out.mono (Nat.zero_le _) (Nat.le_refl _)) (Nat.le_refl _) hre).mono ?_
          rintro e w9 ⟨rfl, b9⟩
          rw [HRV.out]
          have HB9 := Lib.hid (HB8.out.trans (b9.mono HB8.out.size))
          clear b9
          go_wp2
          go_ret
          exact ⟨rfl, HB9.out⟩
end Go.Proofs.Ytgcebhmenffbjab
