/- The law FnGridSees of the promises: its walk. -/
import Derived.Test.YtgcebhmenffbjabDrawU
import Derived.Test.YtgcebhmenffbjabPrC
namespace Go.Proofs.Ytgcebhmenffbjab
open Go.RowKit
set_option linter.unusedVariables false

set_option maxHeartbeats 4000000 in
set_option maxRecDepth 100000 in
theorem law_FnGridSees (v : Value) (n : Nat) (w : World) (hv : RdB w.heap.size w v n) : Calls Try.prog 13 #[v] w (LawPost w) := by
  have HD := Lib.hid (draw_DrawGridSees v n w.heap.size w hv (Nat.le_refl _))
  obtain ⟨ao, cap, cb, off, Z, rfl, hc1, hc2, _⟩ := hv
  by_cases hn : 1048576 < n
  · have hn' : (1048576 : Int) < n := by omega
    go_enter Try.func13, Try.ntmps13
    go_wp2
    go_ret
    exact ⟨rfl, Below.refl _ _⟩
  · have hn' : ¬ (1048576 : Int) < n := by omega
    go_enter Try.func13, Try.ntmps13
    go_wp2_with fail
    refine HD.out.mono ?_
    rintro e w1 ⟨vg, g, rfl, _, hm, hgn, hgl, bw1⟩
    obtain ⟨ag, cg, rfl⟩ := hm.shapeG
    have R_g := Lib.hid hm
    clear hm HD hgl
    have sw1 : w.heap.size ≤ w1.heap.size := bw1.size
    have BL := Lib.hid bw1
    clear bw1
    by_cases hval : g.Valid
    case neg =>
      have hno := G.gsV_no hval
      go_wp2_with fail
      refine (implSG_b _ 0 w1.heap.size g (-1) _ (R_g.out.mono (Nat.zero_le _) (by omega)) (Nat.le_refl _) hno).mono ?_
      rintro e w2 ⟨rfl, bw2⟩
      have sw2 : w1.heap.size ≤ w2.heap.size := bw2.size
      have L_1 := Lib.hid (R_g.out.same (SameIn.below bw2 (by omega)))
      clear R_g
      have BL_2 := Lib.hid (BL.out.trans (bw2.mono (by omega)))
      clear BL bw2
      go_wp2_with fail
      refine (specSG_b _ 0 w2.heap.size g (-1) _ (L_1.out.mono (Nat.zero_le _) (by omega)) (Nat.le_refl _) hno).mono ?_
      rintro e w3 ⟨rfl, bw3⟩
      have sw3 : w2.heap.size ≤ w3.heap.size := bw3.size
      have L_3 := Lib.hid (L_1.out.same (SameIn.below bw3 (by omega)))
      clear L_1
      have BL_4 := Lib.hid (BL_2.out.trans (bw3.mono (by omega)))
      clear BL_2 bw3
      go_wp2
      go_ret
      exact ⟨rfl, BL_4.out⟩
    case pos =>
      obtain ⟨P, eP⟩ : ∃ P, g.gsV = P := ⟨_, rfl⟩
      have hle := gsV_le hval
      have hge := gsV_ge hval
      have htu := gsV_turn hval
      have hmi := gsV_mirror hval
      have HRA := Lib.hid (fun (hr : (raiseG g 1).Valid) => gsV_raise hval 1 hr)
      rw [eP] at hle hge htu hmi HRA
      have hPne : (P != P) = false := by simp
      have hPe : (P == P) = true := by simp
      obtain ⟨hP0, hP700⟩ := hle
      have hP0' : ¬ P < 0 := by omega
      have HGE := Lib.hid hge
      have hn7 := hval.1.2
      have hl7 := hval.2.1.2
      have h49 := mul_le_49 hn7 hl7
      have HSD := Lib.hid (sumD_all g.n (by omega) (g.len 0) (by omega))
      clear hge
      go_wp2_with fail
      refine (implSG_b _ 0 w1.heap.size g P _ (R_g.out.mono (Nat.zero_le _) (by omega)) (Nat.le_refl _) eP).mono ?_
      rintro e w2 ⟨rfl, bw2⟩
      have sw2 : w1.heap.size ≤ w2.heap.size := bw2.size
      have L_1 := Lib.hid (R_g.out.same (SameIn.below bw2 (by omega)))
      clear R_g
      have BL_2 := Lib.hid (BL.out.trans (bw2.mono (by omega)))
      clear BL bw2
      go_wp2_with fail
      refine (specSG_b _ 0 w2.heap.size g P _ (L_1.out.mono (Nat.zero_le _) (by omega)) (Nat.le_refl _) eP).mono ?_
      rintro e w3 ⟨rfl, bw3⟩
      have sw3 : w2.heap.size ≤ w3.heap.size := bw3.size
      have L_3 := Lib.hid (L_1.out.same (SameIn.below bw3 (by omega)))
      clear L_1
      have BL_4 := Lib.hid (BL_2.out.trans (bw3.mono (by omega)))
      clear BL_2 bw3
      go_wp2_with fail
      refine (implGridTurn_yes _ 0 w3.heap.size g _ (L_3.out.mono (Nat.zero_le _) (by omega)) (Nat.le_refl _) hval).mono ?_
      rintro e w4 ⟨_, rfl, ⟨_, _, _, rfl⟩, ow4, bw4⟩
      have Nw4 := Lib.hid (ow4.rd)
      clear ow4
      have sw4 : w3.heap.size ≤ w4.heap.size := bw4.size
      have L_5 := Lib.hid (L_3.out.same (SameIn.below bw4 (by omega)))
      clear L_3
      have BL_6 := Lib.hid (BL_4.out.trans (bw4.mono (by omega)))
      clear BL_4 bw4
      go_wp2_with fail
      refine (implGridMirror_yes _ 0 w4.heap.size g _ (L_5.out.mono (Nat.zero_le _) (by omega)) (Nat.le_refl _) hval).mono ?_
      rintro e w5 ⟨_, rfl, ⟨_, _, _, rfl⟩, ow5, bw5⟩
      have Nw5 := Lib.hid (ow5.rd)
      clear ow5
      have sw5 : w4.heap.size ≤ w5.heap.size := bw5.size
      have L_7 := Lib.hid (L_5.out.same (SameIn.below bw5 (by omega)))
      clear L_5
      have L_8 := Lib.hid (Nw4.out.same (SameIn.below bw5 (by omega)))
      clear Nw4
      have BL_9 := Lib.hid (BL_6.out.trans (bw5.mono (by omega)))
      clear BL_6 bw5
      have HRC := Lib.hid (fun (U : World) (u : Value) (h : RdM 0 U.heap.size U u g) => implGridRaise_any u 0 U.heap.size g 1 U h (Nat.le_refl _))
      by_cases hr : g.RaiseOk 1
      case neg =>
        go_wp2_with fail
        refine (((HRC.out _ _ (L_7.out.mono (Nat.zero_le _) (by omega))).mono fun _ _ h => h.2 hr)).mono ?_
        rintro e w6 ⟨_, rfl, ⟨_, _, _, rfl⟩, ow6, bw6⟩
        have Nw6 := Lib.hid (ow6.rd)
        clear ow6
        have sw6 : w5.heap.size ≤ w6.heap.size := bw6.size
        have L_10 := Lib.hid (L_7.out.same (SameIn.below bw6 (by omega)))
        clear L_7
        have L_11 := Lib.hid (L_8.out.same (SameIn.below bw6 (by omega)))
        clear L_8
        have L_12 := Lib.hid (Nw5.out.same (SameIn.below bw6 (by omega)))
        clear Nw5
        have BL_13 := Lib.hid (BL_9.out.trans (bw6.mono (by omega)))
        clear BL_9 bw6
        have HGC := Lib.hid (fun (W : World) (hb : Below w6.heap.size w6 W) => (L_10.out.same (SameIn.below hb (by omega))).mono (Nat.zero_le _) (show _ ≤ w6.heap.size by omega))
        go_wp2
        go_loopw [12, 13] (fun s c wr => ∃ k S : Nat, k ≤ g.n * g.len 0 ∧ c = .int .i64 k ∧ s = .int .i64 S ∧ S = sumD g.n (g.len 0) k ∧ S ≤ 4 * k ∧ Below w6.heap.size w6 wr) (fun _ c _ => g.n * g.len 0 - (intOf c).toNat)
        case atStart => exact ⟨0, 0, Nat.zero_le _, rfl, rfl, rfl, by omega, Below.refl _ _⟩
        case round =>
          obtain ⟨k, S, hk, rfl, rfl, hS, hS4, hb⟩ := hrel
          have HB := Lib.hid hb
          have HS := Lib.hid hS
          have hszb := hb.size
          have HGW := Lib.hid (HGC.out _ hb)
          clear hb hS
          have HCE := Lib.hid (cellsOf_any _ 0 w6.heap.size g wr HGW.out hval)
          obtain ⟨N, eN⟩ : ∃ N, g.n * g.len 0 = N := ⟨_, rfl⟩
          have EN := Lib.hid eN
          rw [eN] at HCE hk h49
          by_cases hlt : k < N
          · have hlt' : (k : Int) < N := by omega
            have hk' : k < g.n * g.len 0 := by rw [eN]; exact hlt
            have hd4 : degN g.n (g.len 0) k ≤ 4 := by
              unfold degN
              split <;> split <;> split <;> split <;> omega
            have HNE2 := Lib.hid (show Calls Try.prog 52 #[.slice ag g.n cg, .int .i64 k] wr (fun e w' => ∃ a c, e = .returned (.slice a (degN g.n (g.len 0) k) c) ∧ Below wr.heap.size wr w') from
              (nearOf_any _ 0 w6.heap.size g g.n (g.len 0) rfl rfl ⟨k, hk'⟩ wr HGW.out hszb hval).mono (fun e w' hp => by
                obtain ⟨v, rfl, ⟨a, c, rfl⟩, _, hb⟩ := hp
                exact ⟨a, c, by rw [near_deg g.n (g.len 0) ⟨k, hk'⟩], hb⟩))
            have HSS := Lib.hid (show sumD g.n (g.len 0) (k + 1) = sumD g.n (g.len 0) k + degN g.n (g.len 0) k from rfl)
            obtain ⟨D, eD⟩ : ∃ D, degN g.n (g.len 0) k = D := ⟨_, rfl⟩
            rw [eD] at hd4 HNE2 HSS
            clear eD eN hk'
            go_wp2_with fail
            refine HCE.out.mono ?_
            rintro e w10 ⟨rfl, rfl⟩
            go_wp2_with fail
            refine HNE2.out.mono ?_
            rintro e w11 ⟨a11, c11, rfl, b11⟩
            have HB11 := Lib.hid (HB.out.trans (b11.mono hszb))
            clear b11
            go_wp2
            go_roundw
            case rel => exact ⟨k + 1, S + D, by rw [EN.out]; omega, by go_num, by go_num, by rw [HSS.out, HS.out], by omega, HB11.out⟩
            case measure => simp [intOf]; rw [EN.out]; omega
          · have hkN : k = g.n * g.len 0 := by omega
            have hlt' : ¬ (k : Int) < N := by omega
            have HKN := Lib.hid hkN
            have hS196 : S ≤ 196 := by omega
            clear eN
            go_wp2_with fail
            refine HCE.out.mono ?_
            rintro e w10 ⟨rfl, rfl⟩
            have HAA := Lib.hid ((L_11.out.same (SameIn.below HB.out (by omega))).mono (Nat.zero_le _) (show _ ≤ wr.heap.size by omega))
            have HMM := Lib.hid ((L_12.out.same (SameIn.below HB.out (by omega))).mono (Nat.zero_le _) (show _ ≤ wr.heap.size by omega))
            skip
            have h2P : (S : Int) ≤ 2 * P := by
              have h1 := HSD.out
              have h2 := HGE.out
              have h3 := HS.out
              have h4 : sumD g.n (g.len 0) (g.n * g.len 0) = S := by rw [h3, hkN]
              rw [h4] at h1
              omega
            have hwp : IntKind.i64.wrap (2 * P) = 2 * P := IntWalk.i64_in _ (by omega)
            go_wp2_with fail
            refine (implSG_b _ _ _ (turnG g) P _ HAA.out (Nat.le_refl _) htu).mono ?_
            rintro e w20 ⟨rfl, b20⟩
            have HB20 := Lib.hid (HB.out.trans (b20.mono hszb))
            have HMM2 := Lib.hid (HMM.out.same (SameIn.below b20 (Nat.le_refl _)))
            skip
            have hs20 := b20.size
            clear b20
            go_wp2_with fail
            refine (implSG_b _ _ _ (mirrorG g) P _ HMM2.out hs20 hmi).mono ?_
            rintro e w21 ⟨rfl, b21⟩
            have HB21 := Lib.hid (HB20.out.trans (b21.mono HB20.out.size))
            skip
            have hs21 := b21.size
            clear b21
            go_wp2
            go_ret
            exact ⟨rfl, BL_13.out.trans (HB21.out.mono (by omega))⟩
      case pos =>
        go_wp2_with fail
        refine (((HRC.out _ _ (L_7.out.mono (Nat.zero_le _) (by omega))).mono fun _ _ h => h.1 hr)).mono ?_
        rintro e w6 ⟨_, rfl, ⟨_, _, _, rfl⟩, ow6, bw6⟩
        have Nw6 := Lib.hid (ow6.rd)
        clear ow6
        have sw6 : w5.heap.size ≤ w6.heap.size := bw6.size
        have L_10 := Lib.hid (L_7.out.same (SameIn.below bw6 (by omega)))
        clear L_7
        have L_11 := Lib.hid (L_8.out.same (SameIn.below bw6 (by omega)))
        clear L_8
        have L_12 := Lib.hid (Nw5.out.same (SameIn.below bw6 (by omega)))
        clear Nw5
        have BL_13 := Lib.hid (BL_9.out.trans (bw6.mono (by omega)))
        clear BL_9 bw6
        have HGC := Lib.hid (fun (W : World) (hb : Below w6.heap.size w6 W) => (L_10.out.same (SameIn.below hb (by omega))).mono (Nat.zero_le _) (show _ ≤ w6.heap.size by omega))
        go_wp2
        go_loopw [12, 13] (fun s c wr => ∃ k S : Nat, k ≤ g.n * g.len 0 ∧ c = .int .i64 k ∧ s = .int .i64 S ∧ S = sumD g.n (g.len 0) k ∧ S ≤ 4 * k ∧ Below w6.heap.size w6 wr) (fun _ c _ => g.n * g.len 0 - (intOf c).toNat)
        case atStart => exact ⟨0, 0, Nat.zero_le _, rfl, rfl, rfl, by omega, Below.refl _ _⟩
        case round =>
          obtain ⟨k, S, hk, rfl, rfl, hS, hS4, hb⟩ := hrel
          have HB := Lib.hid hb
          have HS := Lib.hid hS
          have hszb := hb.size
          have HGW := Lib.hid (HGC.out _ hb)
          clear hb hS
          have HCE := Lib.hid (cellsOf_any _ 0 w6.heap.size g wr HGW.out hval)
          obtain ⟨N, eN⟩ : ∃ N, g.n * g.len 0 = N := ⟨_, rfl⟩
          have EN := Lib.hid eN
          rw [eN] at HCE hk h49
          by_cases hlt : k < N
          · have hlt' : (k : Int) < N := by omega
            have hk' : k < g.n * g.len 0 := by rw [eN]; exact hlt
            have hd4 : degN g.n (g.len 0) k ≤ 4 := by
              unfold degN
              split <;> split <;> split <;> split <;> omega
            have HNE2 := Lib.hid (show Calls Try.prog 52 #[.slice ag g.n cg, .int .i64 k] wr (fun e w' => ∃ a c, e = .returned (.slice a (degN g.n (g.len 0) k) c) ∧ Below wr.heap.size wr w') from
              (nearOf_any _ 0 w6.heap.size g g.n (g.len 0) rfl rfl ⟨k, hk'⟩ wr HGW.out hszb hval).mono (fun e w' hp => by
                obtain ⟨v, rfl, ⟨a, c, rfl⟩, _, hb⟩ := hp
                exact ⟨a, c, by rw [near_deg g.n (g.len 0) ⟨k, hk'⟩], hb⟩))
            have HSS := Lib.hid (show sumD g.n (g.len 0) (k + 1) = sumD g.n (g.len 0) k + degN g.n (g.len 0) k from rfl)
            obtain ⟨D, eD⟩ : ∃ D, degN g.n (g.len 0) k = D := ⟨_, rfl⟩
            rw [eD] at hd4 HNE2 HSS
            clear eD eN hk'
            go_wp2_with fail
            refine HCE.out.mono ?_
            rintro e w10 ⟨rfl, rfl⟩
            go_wp2_with fail
            refine HNE2.out.mono ?_
            rintro e w11 ⟨a11, c11, rfl, b11⟩
            have HB11 := Lib.hid (HB.out.trans (b11.mono hszb))
            clear b11
            go_wp2
            go_roundw
            case rel => exact ⟨k + 1, S + D, by rw [EN.out]; omega, by go_num, by go_num, by rw [HSS.out, HS.out], by omega, HB11.out⟩
            case measure => simp [intOf]; rw [EN.out]; omega
          · have hkN : k = g.n * g.len 0 := by omega
            have hlt' : ¬ (k : Int) < N := by omega
            have HKN := Lib.hid hkN
            have hS196 : S ≤ 196 := by omega
            clear eN
            go_wp2_with fail
            refine HCE.out.mono ?_
            rintro e w10 ⟨rfl, rfl⟩
            have HAA := Lib.hid ((L_11.out.same (SameIn.below HB.out (by omega))).mono (Nat.zero_le _) (show _ ≤ wr.heap.size by omega))
            have HMM := Lib.hid ((L_12.out.same (SameIn.below HB.out (by omega))).mono (Nat.zero_le _) (show _ ≤ wr.heap.size by omega))
            have HRR := Lib.hid ((Nw6.out.same (SameIn.below HB.out (by omega))).mono (Nat.zero_le _) (show _ ≤ wr.heap.size by omega))
            have h2P : (S : Int) ≤ 2 * P := by
              have h1 := HSD.out
              have h2 := HGE.out
              have h3 := HS.out
              have h4 : sumD g.n (g.len 0) (g.n * g.len 0) = S := by rw [h3, hkN]
              rw [h4] at h1
              omega
            have hwp : IntKind.i64.wrap (2 * P) = 2 * P := IntWalk.i64_in _ (by omega)
            go_wp2_with fail
            refine (implSG_b _ _ _ (turnG g) P _ HAA.out (Nat.le_refl _) htu).mono ?_
            rintro e w20 ⟨rfl, b20⟩
            have HB20 := Lib.hid (HB.out.trans (b20.mono hszb))
            have HMM2 := Lib.hid (HMM.out.same (SameIn.below b20 (Nat.le_refl _)))
            have HRR2 := Lib.hid (HRR.out.same (SameIn.below b20 (Nat.le_refl _)))
            have hs20 := b20.size
            clear b20
            go_wp2_with fail
            refine (implSG_b _ _ _ (mirrorG g) P _ HMM2.out hs20 hmi).mono ?_
            rintro e w21 ⟨rfl, b21⟩
            have HB21 := Lib.hid (HB20.out.trans (b21.mono HB20.out.size))
            have HRR3 := Lib.hid (HRR2.out.same (SameIn.below b21 hs20))
            have hs21 := b21.size
            clear b21
            go_wp2_with fail
            refine (implSG_b _ _ _ (raiseG g 1) P _ HRR3.out (by omega) (HRA.out hr.2.2)).mono ?_
            rintro e w22 ⟨rfl, b22⟩
            have HB22 := Lib.hid (HB21.out.trans (b22.mono HB21.out.size))
            clear b22
            go_wp2
            go_ret
            exact ⟨rfl, BL_13.out.trans (HB22.out.mono (by omega))⟩
end Go.Proofs.Ytgcebhmenffbjab
