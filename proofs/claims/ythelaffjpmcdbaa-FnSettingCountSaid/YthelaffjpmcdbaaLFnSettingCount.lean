/- The law FnSettingCount of the promises: its walk. -/
import Derived.Test.YthelaffjpmcdbaaSwD
namespace Go.Proofs.Ythelaffjpmcdbaa
open Go.RowKit
set_option linter.unusedVariables false
set_option linter.unusedSimpArgs false

set_option maxHeartbeats 4000000 in
set_option maxRecDepth 100000 in
theorem law_FnSettingCount (v : Value) (n : Nat) (w : World) (hv : RdB w.heap.size w v n) : Calls Try.prog 7 #[v] w (LawPost w) := by
  have HD := Lib.hid (draw_DrawSettingMany v n w.heap.size w hv (Nat.le_refl _))
  obtain ⟨ao, cap, cb, off, Z, rfl, hc1, hc2, _⟩ := hv
  by_cases hn : 1048576 < n
  · have hn' : (1048576 : Int) < n := by omega
    go_enter Try.func7, Try.ntmps7
    go_wp2
    go_ret
    exact ⟨rfl, Below.refl _ _⟩
  · have hn' : ¬ (1048576 : Int) < n := by omega
    go_enter Try.func7, Try.ntmps7
    go_wp2_with fail
    refine HD.out.mono ?_
    rintro e w1 ⟨b, cp, n0, Z0, rfl, hm, hn7, hz7, bw1⟩
    have R_p := Lib.hid hm
    clear hm HD
    have sw1 : w.heap.size ≤ w1.heap.size := bw1.size
    have BL := Lib.hid bw1
    clear bw1
    by_cases hok : LsOk n0 Z0
    case neg =>
      go_wp2_with fail
      refine (implMany_no _ w1.heap.size n0 Z0 _ (R_p.out.mono (Nat.zero_le _) (by omega)) (Nat.le_refl _) (by omega) hok).mono ?_
      rintro e w2 ⟨rfl, bw2⟩
      have sw2 : w1.heap.size ≤ w2.heap.size := bw2.size
      have L_1 := Lib.hid (R_p.out.same (SameIn.below bw2 (by omega)))
      clear R_p
      have BL_2 := Lib.hid (BL.out.trans (bw2.mono (by omega)))
      clear BL bw2
      go_wp2_with fail
      refine (specMany_no _ w2.heap.size n0 Z0 _ (L_1.out.mono (Nat.zero_le _) (by omega)) (Nat.le_refl _) (by omega) hok).mono ?_
      rintro e w3 ⟨rfl, bw3⟩
      have sw3 : w2.heap.size ≤ w3.heap.size := bw3.size
      have L_3 := Lib.hid (L_1.out.same (SameIn.below bw3 (by omega)))
      clear L_1
      have BL_4 := Lib.hid (BL_2.out.trans (bw3.mono (by omega)))
      clear BL_2 bw3
      go_wp2
      go_ret
      exact ⟨rfl, BL_4.out⟩
    case pos =>
      have hn6 := hok.1
      obtain ⟨m, em⟩ : ∃ m, ct Z0 n0 0 (mpK Z0 n0) = m := ⟨_, rfl⟩
      have hm1 : 1 ≤ m := by rw [← em]; exact ct_posM _ _ _ _
      have hca := count_all hok
      rw [em] at hca
      obtain ⟨i0', hi00, hz00, hz10, hz20⟩ := info_parts Try.infoI
      have HIM := Lib.hid (fun (W : World) (hi' : Nat) (v : Value) (h : RdT 0 hi' W v n0 Z0) (hh : hi' ≤ W.heap.size) => implMany_yes v hi' n0 Z0 m em W h hh (by omega) hok)
      have HSM := Lib.hid (fun (W : World) (hi' : Nat) (v : Value) (h : RdT 0 hi' W v n0 Z0) (hh : hi' ≤ W.heap.size) => specMany_yes v hi' n0 Z0 m em W h hh (by omega) hok)
      have HSV := Lib.hid (fun (s : Nat) (W : World) (hi' : Nat) (v v2 : Value) (lo2 hi2 : Nat) (h : RdT 0 hi' W v n0 Z0) (hh : hi' ≤ W.heap.size) (h2 : RdI lo2 hi2 W v2 n0 (dg s)) (hh2 : hi2 ≤ W.heap.size) => implSettingValid_any v hi' n0 Z0 v2 lo2 hi2 n0 (dg s) W h hh (by omega) h2 hh2 (by omega))
      obtain ⟨V, eV⟩ : ∃ f : Nat → Bool, (fun s => svB n0 Z0 n0 (dg s)) = f := ⟨_, rfl⟩
      have eV' : ∀ s, svB n0 Z0 n0 (dg s) = V s := fun s => by rw [← eV]
      simp only [eV'] at HSV
      rw [eV] at hca
      have HCA := Lib.hid hca
      have HPW := Lib.hid (fun i (h : i ≤ n0) => pw5_range (i := i) (by omega))
      clear hca eV eV' em
      go_wp2_with fail
      refine (HIM.out _ w1.heap.size _ (R_p.out.mono (Nat.zero_le _) (by omega)) (Nat.le_refl _)).mono ?_
      rintro e w2 ⟨rfl, bw2⟩
      have sw2 : w1.heap.size ≤ w2.heap.size := bw2.size
      have L_1 := Lib.hid (R_p.out.same (SameIn.below bw2 (by omega)))
      clear R_p
      have BL_2 := Lib.hid (BL.out.trans (bw2.mono (by omega)))
      clear BL bw2
      go_wp2_with fail
      refine (HSM.out _ w2.heap.size _ (L_1.out.mono (Nat.zero_le _) (by omega)) (Nat.le_refl _)).mono ?_
      rintro e w3 ⟨rfl, bw3⟩
      have sw3 : w2.heap.size ≤ w3.heap.size := bw3.size
      have L_3 := Lib.hid (L_1.out.same (SameIn.below bw3 (by omega)))
      clear L_1
      have BL_4 := Lib.hid (BL_2.out.trans (bw3.mono (by omega)))
      clear BL_2 bw3
      have hTT : ((m : Int) != (m : Int)) = false := by simp
      have hT0 : decide ((m : Int) < 0) = false := by simp <;> omega
      have HPC := Lib.hid (fun (W : World) (hb : Below w3.heap.size w3 W) => (L_3.out.same (SameIn.below hb (by omega))).mono (Nat.zero_le _) (show _ ≤ w3.heap.size by omega))
      by_cases h3 : 3 < n0
      · have h3' : (3 : Int) < n0 := by omega
        have hm1' : (1 : Int) ≤ m := by omega
        go_wp2
        go_ret
        exact ⟨rfl, BL_4.out⟩
      have h3' : ¬ (3 : Int) < n0 := by omega
      obtain ⟨A, eA⟩ : ∃ A, 5 ^ n0 = A := ⟨_, rfl⟩
      have hpA : pw5 n0 = (A : Int) := by rw [pw5_is, eA]
      have hA125 : A ≤ 125 := by rw [← eA]; exact Nat.pow_le_pow_right (n := 5) (by omega) (show n0 ≤ 3 by omega)
      have HPA := Lib.hid hpA
      have HCM := Lib.hid (show cnS V A = m by rw [← eA]; exact HCA.out)
      clear eA hpA HCA
      go_wp2
      go_loopw [7, 8] (fun a c' wr => ∃ i : Nat, i ≤ n0 ∧ a = .int .i64 (pw5 i) ∧ c' = .int .i64 i ∧ Below w3.heap.size w3 wr) (fun _ c' _ => n0 - (intOf c').toNat)
      case atStart => exact ⟨0, Nat.zero_le _, rfl, rfl, Below.refl _ _⟩
      case round =>
        obtain ⟨i, hi, rfl, rfl, hb⟩ := hrel
        have HB := Lib.hid hb
        have hsz := hb.size
        clear hb
        have hpw := HPW.out i hi
        by_cases hlt : i < n0
        · have hlt' : (i : Int) < n0 := by omega
          have HPX := Lib.hid (show pw5 (i + 1) = 5 * pw5 i from rfl)
          obtain ⟨P, eP⟩ : ∃ P, pw5 i = P := ⟨_, rfl⟩
          rw [eP] at hpw HPX ⊢
          clear eP
          go_wp2
          go_roundw
          case rel => exact ⟨i + 1, hlt, by rw [HPX.out], by go_num, HB.out⟩
          case measure => simp [intOf]; omega
        · have hlt' : ¬ (i : Int) < n0 := by omega
          obtain rfl : i = n0 := by omega
          rw [HPA.out]
          clear hpw
          go_wp2
          go_loopw [9, 10] (fun a c' wr2 => ∃ s : Nat, s ≤ A ∧ a = .int .i64 (cnS V s) ∧ c' = .int .i64 s ∧ Below w3.heap.size w3 wr2) (fun _ c' _ => A - (intOf c').toNat)
          case atStart => exact ⟨0, Nat.zero_le _, rfl, rfl, HB.out⟩
          case round =>
            obtain ⟨s, hs, rfl, rfl, hb⟩ := hrel
            have HB2 := Lib.hid hb
            have hsz2 := hb.size
            clear hb
            have hcl := cnS_le V s
            by_cases hls : s < A
            · have hls' : (s : Int) < A := by omega
              obtain ⟨S0, eS0⟩ : ∃ S0, wr.heap.size = S0 := ⟨_, rfl⟩
              have ES0 := Lib.hid eS0
              have HN0 := Lib.hid (show Nums S0 (wr.alloc (.cells #[] 3)) (.slice (some ⟨S0, 0, none⟩) 0 0) (fnL (dg s) 0) from by subst eS0; exact nums_lit wr)
              have HB3 := Lib.hid (show Below w3.heap.size w3 (wr.alloc (.cells #[] 3)) from HB2.out.alloc hsz2 _)
              go_wp2
              go_loopw [11, 12, 13] (fun x r c' wr3 => ∃ (k : Nat) (v : Value), k ≤ i ∧ v = x ∧ r = .int .i64 ((s / 5 ^ k : Nat) : Int) ∧ c' = .int .i64 k ∧ Nums S0 wr3 v (fnL (dg s) k) ∧ S0 ≤ wr3.heap.size ∧ Below w3.heap.size w3 wr3) (fun _ _ c' _ => i - (intOf c').toNat)
              case atStart => exact ⟨0, _, Nat.zero_le _, rfl, by rw [Nat.pow_zero, Nat.div_one], rfl, HN0.out, by rw [World.size_alloc]; have := ES0.out; omega, HB3.out⟩
              case round =>
                clear HN0 HB3
                obtain ⟨k, vx, hk, rfl, rfl, rfl, hnu, hs3, hb⟩ := hrel
                have HB4 := Lib.hid hb
                have HNU := Lib.hid hnu
                have hsz4 := hb.size
                clear hb hnu
                by_cases hlk : k < i
                · have hlk' : (k : Int) < i := by omega
                  have hl1 := cp_len (dg s) k
                  have HOW := Lib.hid (nums_own HNU.out)
                  have hR : s / 5 ^ k ≤ 125 := Nat.le_trans (Nat.div_le_self _ _) (by omega)
                  have HNX := Lib.hid (show s / 5 ^ (k + 1) = s / 5 ^ k / 5 by rw [Nat.pow_succ, Nat.div_div_eq_div_mul])
                  have HDG := Lib.hid (show dg s k = ((s / 5 ^ k % 5 : Nat) : Int) - 1 from rfl)
                  obtain ⟨r, er⟩ : ∃ r, s / 5 ^ k = r := ⟨_, rfl⟩
                  rw [er] at hR HNX HDG ⊢
                  obtain ⟨d, ed⟩ : ∃ d, r % 5 = d := ⟨_, rfl⟩
                  obtain ⟨r', er'⟩ : ∃ d, r / 5 = d := ⟨_, rfl⟩
                  rw [ed] at HDG
                  rw [er'] at HNX
                  have hd5 : d < 5 := by omega
                  have hm2 : (r : Int) % 5 = (d : Int) := by omega
                  have hm1' : (r : Int).tmod 5 = (d : Int) := by rw [Int.tmod_eq_emod_of_nonneg (by omega)]; exact hm2
                  have hq2 : (r : Int) / 5 = (r' : Int) := by omega
                  have hq1 : (r : Int).tdiv 5 = (r' : Int) := by rw [Int.tdiv_eq_ediv_of_nonneg (by omega)]; exact hq2
                  have hr' : r' ≤ 125 := by omega
                  clear er ed er'
                  go_wp2_with (first | (at_builtin; refine wpList_append_own _ rfl _ _ 26 rfl S0 3 i0' (.int .i64 0) 1 8 Try.underlying26 hi00 hz00 hz10 hz20 rfl (by decide) vx k (nsV (fnL (dg s) k)) rfl (HOW.out.alloc _) ⟨wr.heap.size, 0, none⟩ 1 1 [.int .i64 ((d : Int) - 1)] rfl rfl (World.news_of_block (cs := #[.int .i64 ((d : Int) - 1)]) (t := 3) (fr := (0, 0)) (heap_alloc_new wr _)) (by simp [Value.oneCell']) (by unfold maxLen; omega) (by omega) (by simp; omega) ?_; intro vy w5 hown hgr _; have HO := Lib.hid hown; have HG := Lib.hid hgr; clear hown hgr))
                  have HN5 := Lib.hid (nums_more HO.out HDG.out.symm)
                  have HB5 := Lib.hid (show Below w3.heap.size w3 w5 from (HB4.out.alloc hsz4 _).grown HG.out (by rw [World.size_alloc]; omega) (fun r hr => by have := (HOW.out.lt r hr).1; have := ES0.out; omega))
                  have hs5 : S0 ≤ w5.heap.size := by have := HG.out.size; rw [World.size_alloc] at this; omega
                  clear HO HG HOW
                  go_wp2
                  go_roundw
                  case rel => exact ⟨k + 1, _, by omega, rfl, by rw [HNX.out], by go_num, HN5.out, hs5, HB5.out⟩
                  case measure => simp [intOf]; omega
                · have hlk' : ¬ (k : Int) < i := by omega
                  obtain rfl : k = i := by omega
                  have HOI := Lib.hid (own_nums HNU.out (fun j _ => by have := dg_range s j; omega))
                  have HCA := Lib.hid (HSV.out s wr w3.heap.size _ _ _ _ (HPC.out _ HB4.out) hsz4 HOI.out.rd (Nat.le_refl _))
                  have HST := Lib.hid (cnS_step V s)
                  obtain ⟨t, et⟩ : ∃ t, V s = t := ⟨_, rfl⟩
                  rw [et] at HST HCA
                  obtain ⟨cc, ecc⟩ : ∃ x, cnS V s = x := ⟨_, rfl⟩
                  rw [ecc] at HST hcl ⊢
                  clear et ecc HOI HNU
                  go_wp2_with fail
                  refine HCA.out.mono ?_
                  rintro e w7 ⟨rfl, b7⟩
                  have HB7 := Lib.hid (HB4.out.trans (b7.mono hsz4))
                  clear b7 HCA
                  cases t with
                  | true =>
                    have HS2 := Lib.hid (show cnS V (s + 1) = cc + 1 from HST.out)
                    go_wp2
                    go_roundw
                    case rel => exact ⟨s + 1, hls, by rw [HS2.out]; go_num, by go_num, HB7.out⟩
                    case measure => simp [intOf]; omega
                  | false =>
                    have HS2 := Lib.hid (show cnS V (s + 1) = cc from HST.out)
                    go_wp2
                    go_roundw
                    case rel => exact ⟨s + 1, hls, by rw [HS2.out], by go_num, HB7.out⟩
                    case measure => simp [intOf]; omega
            · have hls' : ¬ (s : Int) < A := by omega
              obtain rfl : s = A := by omega
              rw [HCM.out]
              have hmm : ((m : Int) == (m : Int)) = true := by simp
              have HBF := Lib.hid (BL_4.out.trans (HB2.out.mono (by omega)))
              clear hcl
              go_wp2
              go_ret
              exact ⟨rfl, HBF.out⟩
end Go.Proofs.Ythelaffjpmcdbaa
