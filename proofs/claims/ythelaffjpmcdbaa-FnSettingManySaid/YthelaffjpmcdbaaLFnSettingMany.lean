/- The law FnSettingMany of the promises: its walk. -/
import Derived.Test.YthelaffjpmcdbaaSwC
namespace Go.Proofs.Ythelaffjpmcdbaa
open Go.RowKit
set_option linter.unusedVariables false
set_option linter.unusedSimpArgs false

set_option maxHeartbeats 4000000 in
set_option maxRecDepth 100000 in
theorem law_FnSettingMany (v : Value) (n : Nat) (w : World) (hv : RdB w.heap.size w v n) : Calls Try.prog 6 #[v] w (LawPost w) := by
  have HD := Lib.hid (draw_DrawSettingMany v n w.heap.size w hv (Nat.le_refl _))
  obtain ⟨ao, cap, cb, off, Z, rfl, hc1, hc2, _⟩ := hv
  by_cases hn : 1048576 < n
  · have hn' : (1048576 : Int) < n := by omega
    go_enter Try.func6, Try.ntmps6
    go_wp2
    go_ret
    exact ⟨rfl, Below.refl _ _⟩
  · have hn' : ¬ (1048576 : Int) < n := by omega
    go_enter Try.func6, Try.ntmps6
    go_wp2_with fail
    refine HD.out.mono ?_
    rintro e w1 ⟨b, cp, n0, Z0, rfl, hm, hn7, hz7, bw1⟩
    have R_p := Lib.hid hm
    clear hm HD
    have sw1 : w.heap.size ≤ w1.heap.size := bw1.size
    have BL := Lib.hid bw1
    clear bw1
    by_cases hok : LsOk n0 Z0
    case neg =>
      go_wp2_with fail
      refine (implMany_no _ w1.heap.size n0 Z0 _ (R_p.out.mono (Nat.zero_le _) (by omega)) (Nat.le_refl _) (by omega) hok).mono ?_
      rintro e w2 ⟨rfl, bw2⟩
      have sw2 : w1.heap.size ≤ w2.heap.size := bw2.size
      have L_1 := Lib.hid (R_p.out.same (SameIn.below bw2 (by omega)))
      clear R_p
      have BL_2 := Lib.hid (BL.out.trans (bw2.mono (by omega)))
      clear BL bw2
      go_wp2_with fail
      refine (specMany_no _ w2.heap.size n0 Z0 _ (L_1.out.mono (Nat.zero_le _) (by omega)) (Nat.le_refl _) (by omega) hok).mono ?_
      rintro e w3 ⟨rfl, bw3⟩
      have sw3 : w2.heap.size ≤ w3.heap.size := bw3.size
      have L_3 := Lib.hid (L_1.out.same (SameIn.below bw3 (by omega)))
      clear L_1
      have BL_4 := Lib.hid (BL_2.out.trans (bw3.mono (by omega)))
      clear BL_2 bw3
      go_wp2
      go_ret
      exact ⟨rfl, BL_4.out⟩
    case pos =>
      have hn6 := hok.1
      obtain ⟨m, em⟩ : ∃ m, ct Z0 n0 0 (mpK Z0 n0) = m := ⟨_, rfl⟩
      have hm1 : 1 ≤ m := by rw [← em]; exact ct_posM _ _ _ _
      have hmp : (m : Int) ≤ pw5 n0 := by rw [← em]; exact ct_pw _ _ _
      have hsa := smq_all Z0 n0
      rw [em] at hsa
      obtain ⟨i0', hi00, hz00, hz10, hz20⟩ := info_parts Try.infoI
      have HIM := Lib.hid (fun (W : World) (hi' : Nat) (v : Value) (h : RdT 0 hi' W v n0 Z0) (hh : hi' ≤ W.heap.size) => implMany_yes v hi' n0 Z0 m em W h hh (by omega) hok)
      have HSM := Lib.hid (fun (W : World) (hi' : Nat) (v : Value) (h : RdT 0 hi' W v n0 Z0) (hh : hi' ≤ W.heap.size) => specMany_yes v hi' n0 Z0 m em W h hh (by omega) hok)
      have HSV := Lib.hid (fun (i s : Nat) (hi : i < n0) (W : World) (hi' : Nat) (v v2 : Value) (lo2 hi2 : Nat) (h : RdT 0 hi' W v n0 Z0) (hh : hi' ≤ W.heap.size) (h2 : RdI lo2 hi2 W v2 n0 (setZ (fun _ => -1) i (s : Int))) (hh2 : hi2 ≤ W.heap.size) => implSet_one v hi' n0 Z0 v2 lo2 hi2 i s W h hh hok hi h2 hh2)
      have HS0 := Lib.hid (smq_zero Z0 (mpK Z0 n0))
      have HSS := Lib.hid (smq_step Z0 (mpK Z0 n0))
      have HSX := Lib.hid (smq_next Z0 (mpK Z0 n0))
      obtain ⟨sm, esm⟩ : ∃ f : Nat → Nat → Bool, smq Z0 (mpK Z0 n0) = f := ⟨_, rfl⟩
      obtain ⟨F, eF⟩ : ∃ f : Nat → Int → Bool, ftB Z0 (mpK Z0 n0) = f := ⟨_, rfl⟩
      rw [esm] at hsa
      simp only [esm, eF] at HS0 HSS HSX HSV
      have HSA := Lib.hid hsa
      have HPW := Lib.hid (fun i (h : i ≤ n0) => pw5_range (i := i) (by omega))
      have HMP := Lib.hid hmp
      clear hsa hmp esm eF em
      go_wp2_with fail
      refine (HIM.out _ w1.heap.size _ (R_p.out.mono (Nat.zero_le _) (by omega)) (Nat.le_refl _)).mono ?_
      rintro e w2 ⟨rfl, bw2⟩
      have sw2 : w1.heap.size ≤ w2.heap.size := bw2.size
      have L_1 := Lib.hid (R_p.out.same (SameIn.below bw2 (by omega)))
      clear R_p
      have BL_2 := Lib.hid (BL.out.trans (bw2.mono (by omega)))
      clear BL bw2
      go_wp2_with fail
      refine (HSM.out _ w2.heap.size _ (L_1.out.mono (Nat.zero_le _) (by omega)) (Nat.le_refl _)).mono ?_
      rintro e w3 ⟨rfl, bw3⟩
      have sw3 : w2.heap.size ≤ w3.heap.size := bw3.size
      have L_3 := Lib.hid (L_1.out.same (SameIn.below bw3 (by omega)))
      clear L_1
      have BL_4 := Lib.hid (BL_2.out.trans (bw3.mono (by omega)))
      clear BL_2 bw3
      have hTT : ((m : Int) != (m : Int)) = false := by simp
      have hT0 : decide ((m : Int) < 0) = false := by simp <;> omega
      have HPC := Lib.hid (fun (W : World) (hb : Below w3.heap.size w3 W) => (L_3.out.same (SameIn.below hb (by omega))).mono (Nat.zero_le _) (show _ ≤ w3.heap.size by omega))
      go_wp2
      go_loopw [6, 7, 8] (fun a s c' wr => ∃ i : Nat, i ≤ n0 ∧ a = .int .i64 (pw5 i) ∧ s = .bool (sm i 0) ∧ c' = .int .i64 i ∧ Below w3.heap.size w3 wr) (fun _ _ c' _ => n0 - (intOf c').toNat)
      case atStart => exact ⟨0, Nat.zero_le _, rfl, by rw [HS0.out], rfl, Below.refl _ _⟩
      case round =>
        obtain ⟨i, hi, rfl, rfl, rfl, hb⟩ := hrel
        have HB := Lib.hid hb
        have hsz := hb.size
        clear hb
        have hpw := HPW.out i hi
        by_cases hlt : i < n0
        · have hlt' : (i : Int) < n0 := by omega
          have HPX := Lib.hid (show pw5 (i + 1) = 5 * pw5 i from rfl)
          obtain ⟨P, eP⟩ : ∃ P, pw5 i = P := ⟨_, rfl⟩
          rw [eP] at hpw HPX ⊢
          clear eP
          go_wp2
          go_loopw [7, 9] (fun s c' wr2 => ∃ q : Nat, q ≤ 4 ∧ s = .bool (sm i q) ∧ c' = .int .i64 q ∧ Below w3.heap.size w3 wr2) (fun _ c' _ => 4 - (intOf c').toNat)
          case atStart => exact ⟨0, Nat.zero_le _, rfl, rfl, HB.out⟩
          case round =>
            obtain ⟨q, hq, rfl, rfl, hb⟩ := hrel
            have HB2 := Lib.hid hb
            have hsz2 := hb.size
            clear hb
            by_cases hlq : q < 4
            · have hlq' : (q : Int) < 4 := by omega
              obtain ⟨S0, eS0⟩ : ∃ S0, wr.heap.size = S0 := ⟨_, rfl⟩
              have ES0 := Lib.hid eS0
              have HN0 := Lib.hid (show Nums S0 (wr.alloc (.cells #[] 3)) (.slice (some ⟨S0, 0, none⟩) 0 0) (fnL (fun _ => -1) 0) from by subst eS0; exact nums_lit wr)
              have HB3 := Lib.hid (show Below w3.heap.size w3 (wr.alloc (.cells #[] 3)) from HB2.out.alloc hsz2 _)
              go_wp2
              go_loopw [10, 11] (fun x c' wr3 => ∃ (k : Nat) (v : Value), k ≤ n0 ∧ v = x ∧ c' = .int .i64 k ∧ Nums S0 wr3 v (fnL (fun _ => -1) k) ∧ S0 ≤ wr3.heap.size ∧ Below w3.heap.size w3 wr3) (fun _ c' _ => n0 - (intOf c').toNat)
              case atStart => exact ⟨0, _, Nat.zero_le _, rfl, rfl, HN0.out, by rw [World.size_alloc]; have := ES0.out; omega, HB3.out⟩
              case round =>
                clear HN0 HB3
                obtain ⟨k, vx, hk, rfl, rfl, hnu, hs3, hb⟩ := hrel
                have HB4 := Lib.hid hb
                have HNU := Lib.hid hnu
                have hsz4 := hb.size
                clear hb hnu
                by_cases hlk : k < n0
                · have hlk' : (k : Int) < n0 := by omega
                  have hl1 := cp_len (fun _ => -1) k
                  have HOW := Lib.hid (nums_own HNU.out)
                  go_wp2_with (first | (at_builtin; refine wpList_append_own _ rfl _ _ 26 rfl S0 3 i0' (.int .i64 0) 1 8 Try.underlying26 hi00 hz00 hz10 hz20 rfl (by decide) vx k (nsV (fnL (fun _ => -1) k)) rfl (HOW.out.alloc _) ⟨wr.heap.size, 0, none⟩ 1 1 [.int .i64 (-1)] rfl rfl (World.news_of_block (cs := #[.int .i64 (-1)]) (t := 3) (fr := (0, 0)) (heap_alloc_new wr _)) (by simp [Value.oneCell']) (by unfold maxLen; omega) (by omega) (by simp; omega) ?_; intro vy w5 hown hgr _; have HO := Lib.hid hown; have HG := Lib.hid hgr; clear hown hgr))
                  have HN5 := Lib.hid (nums_more HO.out rfl)
                  have HB5 := Lib.hid (show Below w3.heap.size w3 w5 from (HB4.out.alloc hsz4 _).grown HG.out (by rw [World.size_alloc]; omega) (fun r hr => by have := (HOW.out.lt r hr).1; have := ES0.out; omega))
                  have hs5 : S0 ≤ w5.heap.size := by have := HG.out.size; rw [World.size_alloc] at this; omega
                  clear HO HG HOW
                  go_wp2
                  go_roundw
                  case rel => exact ⟨k + 1, _, by omega, rfl, by go_num, HN5.out, hs5, HB5.out⟩
                  case measure => simp [intOf]; omega
                · have hlk' : ¬ (k : Int) < n0 := by omega
                  obtain rfl : k = n0 := by omega
                  have HOI := Lib.hid (own_nums HNU.out (fun _ _ => by omega))
                  obtain ⟨bx, cx, rfl, hbx1, hbx2, hbx3⟩ := owI_block HOI.out (by omega)
                  obtain ⟨cc, ff⟩ := owI_cellAt HOI.out hlt
                  have HPUT := Lib.hid (owI_put HOI.out hlt (q : Int) (by omega))
                  have hps := setCell_size wr ⟨bx, i, none⟩ (.int .i64 (q : Int))
                  have HB6 := Lib.hid (show Below w3.heap.size w3 (wr.setCell ⟨bx, i, none⟩ (.int .i64 (q : Int))) from HB4.out.setCell (p := ⟨bx, i, none⟩) (show w3.heap.size ≤ bx by have := ES0.out; omega) _)
                  have HCA := Lib.hid (HSV.out i q hlt (wr.setCell ⟨bx, i, none⟩ (.int .i64 (q : Int))) w3.heap.size _ _ _ _ (HPC.out _ HB6.out) (by rw [hps]; exact hsz4) HPUT.out.rd (by rw [hps]; exact Nat.le_refl _))
                  have HST := Lib.hid (HSS.out i q)
                  obtain ⟨t, et⟩ : ∃ t, sm i q = t := ⟨_, rfl⟩
                  obtain ⟨f, ef⟩ : ∃ f, F i (q : Int) = f := ⟨_, rfl⟩
                  rw [et, ef] at HST
                  rw [ef] at HCA
                  rw [et]
                  clear et ef HOI
                  cases t with
                  | true =>
                    have HST2 := Lib.hid (show sm i (q + 1) = true from HST.out)
                    go_wp2
                    go_roundw
                    case rel => exact ⟨q + 1, by omega, by rw [HST2.out], by go_num, HB6.out⟩
                    case measure => simp [intOf]; omega
                  | false =>
                    have HST2 := Lib.hid (show sm i (q + 1) = f from HST.out)
                    go_wp2_with fail
                    refine HCA.out.mono ?_
                    rintro e w7 ⟨rfl, b7⟩
                    have HB7 := Lib.hid (HB6.out.trans (b7.mono (by rw [hps]; exact hsz4)))
                    clear b7
                    go_wp2
                    go_roundw
                    case rel => exact ⟨q + 1, by omega, by rw [HST2.out], by go_num, HB7.out⟩
                    case measure => simp [intOf]; omega
            · have hlq' : ¬ (q : Int) < 4 := by omega
              obtain rfl : q = 4 := by omega
              have HNX := Lib.hid (HSX.out i)
              go_wp2
              go_roundw
              case rel => exact ⟨i + 1, by omega, by rw [HPX.out], by rw [HNX.out], by go_num, HB2.out⟩
              case measure => simp [intOf]; omega
        · have hlt' : ¬ (i : Int) < n0 := by omega
          obtain rfl : i = n0 := by omega
          have hmp := HMP.out
          have HSB := Lib.hid HSA.out
          obtain ⟨P, eP⟩ : ∃ P, pw5 i = P := ⟨_, rfl⟩
          rw [eP] at hpw hmp ⊢
          rw [HSB.out]
          have hm1' : (1 : Int) ≤ m := by omega
          have hbb : (decide ((1 : Int) < (m : Int)) == decide (1 < m)) = true := by
            rw [beq_iff_eq]; exact decide_eq_decide.2 (by omega)
          have HBF := Lib.hid (BL_4.out.trans (HB.out.mono (by omega)))
          clear eP
          go_wp2
          go_ret
          exact ⟨rfl, HBF.out⟩
end Go.Proofs.Ythelaffjpmcdbaa
