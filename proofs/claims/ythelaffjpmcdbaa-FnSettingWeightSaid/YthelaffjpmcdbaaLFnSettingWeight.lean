/- The law FnSettingWeight of the promises: its walk. -/
import Derived.Test.YthelaffjpmcdbaaSwE
namespace Go.Proofs.Ythelaffjpmcdbaa
open Go.RowKit
set_option linter.unusedVariables false
set_option linter.unusedSimpArgs false

set_option maxHeartbeats 4000000 in
set_option maxRecDepth 100000 in
theorem law_FnSettingWeight (v : Value) (n : Nat) (w : World) (hv : RdB w.heap.size w v n) : Calls Try.prog 5 #[v] w (LawPost w) := by
  have HD := Lib.hid (draw_DrawSettingWeight v n w.heap.size w hv (Nat.le_refl _))
  obtain ⟨ao, cap, cb, off, Z, rfl, hc1, hc2, _⟩ := hv
  by_cases hn : 1048576 < n
  · have hn' : (1048576 : Int) < n := by omega
    go_enter Try.func5, Try.ntmps5
    go_wp2
    go_ret
    exact ⟨rfl, Below.refl _ _⟩
  · have hn' : ¬ (1048576 : Int) < n := by omega
    go_enter Try.func5, Try.ntmps5
    go_wp2_with fail
    refine HD.out.mono ?_
    rintro e w1 ⟨b, cp, n0, Z0, b2, cp2, D0, rfl, hm, hd, hn7, hz7, hd7, bw1⟩
    have R_p := Lib.hid hm
    clear hm HD
    have R_d := Lib.hid hd
    clear hd
    have sw1 : w.heap.size ≤ w1.heap.size := bw1.size
    have BL := Lib.hid bw1
    clear bw1
    by_cases hok : StOk n0 Z0 n0 D0
    case neg =>
      go_wp2_with fail
      refine (implWt_no _ w1.heap.size n0 Z0 _ 0 w1.heap.size n0 D0 _ (R_p.out.mono (Nat.zero_le _) (by omega)) (Nat.le_refl _) (by omega) (by omega) hok (R_d.out.mono (Nat.zero_le _) (by omega)) (Nat.le_refl _)).mono ?_
      rintro e w2 ⟨rfl, bw2⟩
      have sw2 : w1.heap.size ≤ w2.heap.size := bw2.size
      have L_1 := Lib.hid (R_p.out.same (SameIn.below bw2 (by omega)))
      clear R_p
      have L_2 := Lib.hid (R_d.out.same (SameIn.below bw2 (by omega)))
      clear R_d
      have BL_3 := Lib.hid (BL.out.trans (bw2.mono (by omega)))
      clear BL bw2
      go_wp2_with fail
      refine (specWt_no _ 0 w2.heap.size n0 Z0 _ 0 w2.heap.size n0 D0 _ (L_1.out.mono (Nat.zero_le _) (by omega)) (Nat.le_refl _) (by omega) (by omega) hok (L_2.out.mono (Nat.zero_le _) (by omega)) (Nat.le_refl _)).mono ?_
      rintro e w3 ⟨rfl, bw3⟩
      have sw3 : w2.heap.size ≤ w3.heap.size := bw3.size
      have L_4 := Lib.hid (L_1.out.same (SameIn.below bw3 (by omega)))
      clear L_1
      have L_5 := Lib.hid (L_2.out.same (SameIn.below bw3 (by omega)))
      clear L_2
      have BL_6 := Lib.hid (BL_3.out.trans (bw3.mono (by omega)))
      clear BL_3 bw3
      go_wp2
      go_ret
      exact ⟨rfl, BL_6.out⟩
    case pos =>
      have hls := hok.1
      have hn6 := hls.1
      have hwr := wtK_range (sd := D0) hls n0 (Nat.le_refl _)
      have hws := wtK_suW (sd := D0) hls n0 (Nat.le_refl _)
      have hbb := owK_best true hok
      rw [← wtK_ow] at hbb
      obtain ⟨hbo, hbe⟩ := bsG_best hls
      obtain ⟨i0', hi00, hz00, hz10, hz20⟩ := info_parts Try.infoI
      have HI := Lib.hid (fun (W : World) (hi' : Nat) (v v2 : Value) (lo2 hi2 : Nat) (h : RdT 0 hi' W v n0 Z0) (hh : hi' ≤ W.heap.size) (h2 : RdI lo2 hi2 W v2 n0 D0) (hh2 : hi2 ≤ W.heap.size) => implWt_yes v hi' n0 Z0 v2 lo2 hi2 D0 W h hh hok h2 hh2)
      have HS := Lib.hid (fun (W : World) (hi' : Nat) (v v2 : Value) (lo2 hi2 : Nat) (h : RdT 0 hi' W v n0 Z0) (hh : hi' ≤ W.heap.size) (h2 : RdI lo2 hi2 W v2 n0 D0) (hh2 : hi2 ≤ W.heap.size) => specWt_yes v 0 hi' n0 Z0 v2 lo2 hi2 D0 W h hh hok h2 hh2)
      have HBE := Lib.hid (fun (W : World) (hi' : Nat) (v : Value) (h : RdT 0 hi' W v n0 Z0) (hh : hi' ≤ W.heap.size) => implBest_yes v hi' n0 Z0 W h hh hls)
      have HW := Lib.hid (fun (W : World) (hi' : Nat) (v v2 : Value) (lo2 hi2 : Nat) (h : RdT 0 hi' W v n0 Z0) (hh : hi' ≤ W.heap.size) (h2 : RdI lo2 hi2 W v2 n0 (bsG n0 Z0)) (hh2 : hi2 ≤ W.heap.size) => implWt_yes v hi' n0 Z0 v2 lo2 hi2 (bsG n0 Z0) W h hh hbo h2 hh2)
      have HL := Lib.hid (fun (k : Nat) (hk : k < n0) (hs : D0 k ≠ -1) (W : World) (hi' : Nat) (v v2 : Value) (lo2 hi2 : Nat) (h : RdT 0 hi' W v n0 Z0) (hh : hi' ≤ W.heap.size) (h2 : RdI lo2 hi2 W v2 n0 (setZ D0 k (-1))) (hh2 : hi2 ≤ W.heap.size) => implWt_less v hi' n0 Z0 v2 lo2 hi2 D0 k W h hh hok hk hs h2 hh2)
      have HDM := Lib.hid (fun k (hk : k < n0) => show -1 ≤ D0 k ∧ D0 k ≤ 3 from by
        obtain ⟨M, hM⟩ := hok.2.2
        exact alK_range n0 M hM k hk)
      have HWE := Lib.hid (fun k (hk : k < n0) => ls_weight hls hk)
      have HSU := Lib.hid (fun k (hk : k ≤ n0) => suW_range hls k hk)
      have HBZ := Lib.hid (fun k (hk : k < n0) => show -1 ≤ bsG n0 Z0 k ∧ bsG n0 Z0 k ≤ 3 from by
        obtain ⟨M, hM⟩ := hbo.2.2
        exact alK_range n0 M hM k hk)
      obtain ⟨T, eT⟩ : ∃ T, wtK Z0 D0 n0 = T := ⟨_, rfl⟩
      rw [eT] at hwr hws hbb
      simp only [eT] at HI HS HL
      rw [← hbe] at hbb
      obtain ⟨Q, eQ⟩ : ∃ Q, wtK Z0 (bsG n0 Z0) n0 = Q := ⟨_, rfl⟩
      rw [eQ] at hbb
      simp only [eQ] at HW
      have HWS := Lib.hid hws
      clear eT eQ hok hbo hbe hws
      go_wp2_with fail
      refine (HI.out _ w1.heap.size _ _ 0 w1.heap.size (R_p.out.mono (Nat.zero_le _) (by omega)) (Nat.le_refl _) (R_d.out.mono (Nat.zero_le _) (by omega)) (Nat.le_refl _)).mono ?_
      rintro e w2 ⟨rfl, bw2⟩
      have sw2 : w1.heap.size ≤ w2.heap.size := bw2.size
      have L_1 := Lib.hid (R_p.out.same (SameIn.below bw2 (by omega)))
      clear R_p
      have L_2 := Lib.hid (R_d.out.same (SameIn.below bw2 (by omega)))
      clear R_d
      have BL_3 := Lib.hid (BL.out.trans (bw2.mono (by omega)))
      clear BL bw2
      go_wp2_with fail
      refine (HS.out _ w2.heap.size _ _ 0 w2.heap.size (L_1.out.mono (Nat.zero_le _) (by omega)) (Nat.le_refl _) (L_2.out.mono (Nat.zero_le _) (by omega)) (Nat.le_refl _)).mono ?_
      rintro e w3 ⟨rfl, bw3⟩
      have sw3 : w2.heap.size ≤ w3.heap.size := bw3.size
      have L_4 := Lib.hid (L_1.out.same (SameIn.below bw3 (by omega)))
      clear L_1
      have L_5 := Lib.hid (L_2.out.same (SameIn.below bw3 (by omega)))
      clear L_2
      have BL_6 := Lib.hid (BL_3.out.trans (bw3.mono (by omega)))
      clear BL_3 bw3
      have hTT : (T != T) = false := by simp
      have hT0 : decide (T < 0) = false := by simp <;> omega
      go_wp2_with fail
      refine (HBE.out _ w3.heap.size _ (L_4.out.mono (Nat.zero_le _) (by omega)) (Nat.le_refl _)).mono ?_
      rintro e w4 ⟨_, rfl, ⟨_, _, _, rfl⟩, ow4, bw4⟩
      have Nw4 := Lib.hid (ow4.rd)
      clear ow4
      have sw4 : w3.heap.size ≤ w4.heap.size := bw4.size
      have L_7 := Lib.hid (L_4.out.same (SameIn.below bw4 (by omega)))
      clear L_4
      have L_8 := Lib.hid (L_5.out.same (SameIn.below bw4 (by omega)))
      clear L_5
      have BL_9 := Lib.hid (BL_6.out.trans (bw4.mono (by omega)))
      clear BL_6 bw4
      have HPC := Lib.hid (fun (W : World) (hb : Below w4.heap.size w4 W) => (L_7.out.same (SameIn.below hb (by omega))).mono (Nat.zero_le _) (show _ ≤ w4.heap.size by omega))
      have HDC := Lib.hid (fun (W : World) (hb : Below w4.heap.size w4 W) => (L_8.out.same (SameIn.below hb (by omega))).mono (Nat.zero_le _) (show _ ≤ w4.heap.size by omega))
      have HGC := Lib.hid (fun (W : World) (hb : Below w4.heap.size w4 W) => (Nw4.out.same (SameIn.below hb (by omega))).mono (Nat.zero_le _) (Nat.le_refl _))
      obtain ⟨hcp1, hcp2⟩ := (HPC.out w4 (Below.refl _ _)).capT
      clear hz7 hd7
      go_wp2
      go_loopw [9, 10] (fun a c' wr => ∃ i : Nat, i ≤ n0 ∧ a = .int .i64 (suW Z0 i) ∧ c' = .int .i64 i ∧ Below w4.heap.size w4 wr) (fun _ c' _ => n0 - (intOf c').toNat)
      case atStart => exact ⟨0, Nat.zero_le _, rfl, rfl, Below.refl _ _⟩
      case round =>
        obtain ⟨i, hi, rfl, rfl, hb⟩ := hrel
        have HB := Lib.hid hb
        have hsz := hb.size
        clear hb
        have hsu := HSU.out i hi
        by_cases hlt : i < n0
        · have hlt' : (i : Int) < n0 := by omega
          have hwe := HWE.out i hlt
          have hdm := HDM.out i hlt
          have HSN := Lib.hid (show suW Z0 (i + 1) = suW Z0 i + Z0 (i * 4 + 3) from rfl)
          have hpb := ((HPC.out wr HB.out).field (j := i * 4 + 3) (by omega)).2
          obtain ⟨_, hdb, hdc1, hdc2⟩ := (HDC.out wr HB.out).num hlt
          have HCZ := Lib.hid (fun (W : World) (hb : Below w4.heap.size w4 W) => show W.cell? ⟨b, i * 4 + 3, none⟩ = some (.int .i64 (Z0 (i * 4 + 3))) from ((HPC.out W hb).field (by omega)).1)
          have HCD := Lib.hid (fun (W : World) (hb : Below w4.heap.size w4 W) => show W.cell? ⟨b2, i, none⟩ = some (.int .i64 (D0 i)) from ((HDC.out W hb).num hlt).1)
          obtain ⟨S0, eS0⟩ : ∃ S0, wr.heap.size = S0 := ⟨_, rfl⟩
          have ES0 := Lib.hid eS0
          have HLI := Lib.hid (show (wr.alloc (.cells #[] 3)).ownsRow S0 3 1 (.slice (some ⟨S0, 0, none⟩) 0 0) 0 [] from by subst eS0; exact World.ownsRow_lit wr #[] 0 (Nat.le_refl _) (Nat.zero_le _) (by simp))
          have HBA := Lib.hid (HB.out.alloc hsz (.cells #[] 3))
          have HNW := Lib.hid (cp_news (W := wr.alloc (.cells #[] 3)) (b := b2) (off := 0) (n := n0) (Z := D0) (fun j hj => by
            rw [Nat.zero_add]
            exact ((HDC.out _ HBA.out).num hj).1))
          have hl1 := cp_len D0 n0
          have c1 := HCZ.out wr HB.out
          obtain ⟨z, ez⟩ : ∃ z, Z0 (i * 4 + 3) = z := ⟨_, rfl⟩
          obtain ⟨d, ed⟩ : ∃ d, D0 i = d := ⟨_, rfl⟩
          obtain ⟨u, eu⟩ : ∃ u, suW Z0 i = u := ⟨_, rfl⟩
          have HLX := Lib.hid (fun (hs : d ≠ -1) => HL.out i hlt (by rw [ed]; exact hs))
          rw [ez] at hwe HSN c1
          simp only [ez] at HCZ HLX
          rw [ed] at hdm
          simp only [ed] at HCD
          rw [eu] at hsu HSN ⊢
          clear ez ed eu
          go_upto_region 15 with (first | (at_builtin; refine wpList_append_own _ rfl _ _ 26 rfl S0 3 i0' (.int .i64 0) 1 8 Try.underlying26 hi00 hz00 hz10 hz20 rfl (by decide) (.slice (some ⟨S0, 0, none⟩) 0 0) 0 [] (by simp [← ES0.out]; try rfl) HLI.out ⟨b2, 0, none⟩ n0 cp2 (nsV (fnL D0 n0)) rfl hl1 HNW.out (cp_one D0 n0) (by unfold maxLen; omega) (by omega) (by simp; have := ES0.out; omega) ?_; intro vx w5 hown hgr _; have HO := Lib.hid hown; have HG := Lib.hid hgr; clear hown hgr))
          have HB5 := Lib.hid (HBA.out.grown HG.out (by rw [World.size_alloc]; omega) (fun k hk => by simp only [Value.ownBlock, Option.some.injEq] at hk; have := ES0.out; omega))
          have HO5 := Lib.hid (cp_own HO.out (fun j hj => by have := HDM.out j hj; omega))
          have hs5 : S0 ≤ w5.heap.size := by have := HG.out.size; rw [World.size_alloc] at this; omega
          obtain ⟨bx, cx, rfl, hbx1, hbx2, hbx3⟩ := owI_block HO5.out (by omega)
          obtain ⟨cc, ff⟩ := owI_cellAt HO5.out hlt
          have HPUT := Lib.hid (owI_put HO5.out hlt (-1) (by omega))
          have hps := setCell_size w5 ⟨bx, i, none⟩ (.int .i64 (-1))
          have HB6 := Lib.hid (show Below w4.heap.size w4 (w5.setCell ⟨bx, i, none⟩ (.int .i64 (-1))) from HB5.out.setCell (p := ⟨bx, i, none⟩) (show w4.heap.size ≤ bx by have := ES0.out; omega) _)
          obtain ⟨V, eV⟩ : ∃ V, w5.setCell ⟨bx, i, none⟩ (.int .i64 (-1)) = V := ⟨_, rfl⟩
          rw [eV] at HPUT HB6 hps
          clear HO HG HNW HLI HBA
          go_wp2_with fail
          try rw [eV]
          have HV6 := Lib.hid (show Below V.heap.size V V from Below.refl _ _)
          have hsV := HB6.out.size
          have HSH := Lib.hid (fun (W : World) (hb : Below w4.heap.size w4 W) => show W.cell? ⟨b2, i, none⟩ = some (.int .i64 d) ∧ W.cell? ⟨b, i * 4 + 3, none⟩ = some (.int .i64 z) from ⟨HCD.out W hb, HCZ.out W hb⟩)
          clear cc ff eV c1
          by_cases hd0 : 0 ≤ d
          · have hwz : IntKind.i64.wrap (T - z) = T - z := IntWalk.i64_in _ (by omega)
            have hne : (T - z != T - z) = false := by simp
            refine wp_region_held_drew (S := (fun w' => w'.cell? ⟨b2, i, none⟩ = some (.int .i64 d) ∧ w'.cell? ⟨b, i * 4 + 3, none⟩ = some (.int .i64 z))) (by kernel_rfl) ?_ (fun hHeld => ?_)
            · first | exact HSH.out _ HB6.out | exact HSH.out _ HB6.out.drew
            refine wpAnyH_take (i := 0) (v := ?_) (by simp only [List.getElem?_toArray, List.getElem?_cons_succ, List.getElem?_cons_zero]; exact rfl) (by kernel_rfl) (by kernel_rfl) (by kernel_rfl) (by exact fun _ _ _ h => h) (Or.inl ⟨by rfl, ?_⟩) (by assumption) ?_
            rotate_left
            · intro w hSw; (try dsimp only at hSw); go_simp; try with_reducible rfl
            try simp only [Act.put, List.setIfInBounds_toArray, List.set_cons_zero, List.set_cons_succ]
            refine wpAnyH_take (i := 1) (v := ?_) (by simp only [List.getElem?_toArray, List.getElem?_cons_succ, List.getElem?_cons_zero]; exact rfl) (by kernel_rfl) (by kernel_rfl) (by kernel_rfl) (by exact fun _ _ _ h => h) (Or.inl ⟨by rfl, ?_⟩) (by assumption) ?_
            rotate_left
            · intro w hSw; (try dsimp only at hSw); go_simp; try with_reducible rfl
            try simp only [Act.put, List.setIfInBounds_toArray, List.set_cons_zero, List.set_cons_succ]
            refine wpAnyH_take (i := 2) (v := ?_) (by simp only [List.getElem?_toArray, List.getElem?_cons_succ, List.getElem?_cons_zero]; exact rfl) (by kernel_rfl) (by kernel_rfl) (by kernel_rfl) (by exact fun _ _ _ h => h) (Or.inl ⟨by rfl, ?_⟩) (by assumption) ?_
            rotate_left
            · intro w hSw; (try dsimp only at hSw); go_simp; try with_reducible rfl
            try simp only [Act.put, List.setIfInBounds_toArray, List.set_cons_zero, List.set_cons_succ]
            refine wpAnyH_take (i := 3) (v := ?_) (by simp only [List.getElem?_toArray, List.getElem?_cons_succ, List.getElem?_cons_zero]; exact rfl) (by kernel_rfl) (by kernel_rfl) (by kernel_rfl) (by exact fun _ _ _ h => h) (Or.inl ⟨by rfl, ?_⟩) (by assumption) ?_
            rotate_left
            · intro w hSw; (try dsimp only at hSw); go_simp; try with_reducible rfl
            try simp only [Act.put, List.setIfInBounds_toArray, List.set_cons_zero, List.set_cons_succ]
            refine wpAnyH_take (i := 4) (v := ?_) (by simp only [List.getElem?_toArray, List.getElem?_cons_succ, List.getElem?_cons_zero]; exact rfl) (by kernel_rfl) (by kernel_rfl) (by kernel_rfl) (by exact fun _ _ _ h => h) (Or.inl ⟨by rfl, ?_⟩) (by assumption) ?_
            rotate_left
            · intro w hSw; (try dsimp only at hSw); go_simp; try with_reducible rfl
            try simp only [Act.put, List.setIfInBounds_toArray, List.set_cons_zero, List.set_cons_succ]
            refine wpAnyH_take (i := 5) (v := ?_) (by simp only [List.getElem?_toArray, List.getElem?_cons_succ, List.getElem?_cons_zero]; exact rfl) (by kernel_rfl) (by kernel_rfl) (by kernel_rfl) (by exact fun _ _ _ h => h) (Or.inl ⟨by rfl, ?_⟩) (by assumption) ?_
            rotate_left
            · intro w hSw; (try dsimp only at hSw); go_simp; try with_reducible rfl
            try simp only [Act.put, List.setIfInBounds_toArray, List.set_cons_zero, List.set_cons_succ]
            refine wpAnyH_take (i := 6) (v := ?_) (by simp only [List.getElem?_toArray, List.getElem?_cons_succ, List.getElem?_cons_zero]; exact rfl) (by kernel_rfl) (by kernel_rfl) (by kernel_rfl) (by exact fun _ _ _ h => h) (Or.inl ⟨by rfl, ?_⟩) (by assumption) ?_
            rotate_left
            · intro w hSw; (try dsimp only at hSw); go_simp; try with_reducible rfl
            try simp only [Act.put, List.setIfInBounds_toArray, List.set_cons_zero, List.set_cons_succ]
            refine wpAnyH_take (i := 7) (v := ?_) (by simp only [List.getElem?_toArray, List.getElem?_cons_succ, List.getElem?_cons_zero]; exact rfl) (by kernel_rfl) (by kernel_rfl) (by kernel_rfl) (by exact fun _ _ _ h => h) (Or.inl ⟨by rfl, ?_⟩) (by assumption) ?_
            rotate_left
            · intro w hSw; (try dsimp only at hSw); go_simp; try with_reducible rfl
            try simp only [Act.put, List.setIfInBounds_toArray, List.set_cons_zero, List.set_cons_succ]
            refine wpAnyH_take (i := 9) (v := ?_) (by simp only [List.getElem?_toArray, List.getElem?_cons_succ, List.getElem?_cons_zero]; exact rfl) (by kernel_rfl) (by kernel_rfl) (by kernel_rfl) (by exact fun _ _ _ h => h) (Or.inl ⟨by rfl, ?_⟩) (by assumption) ?_
            rotate_left
            · intro w hSw; (try dsimp only at hSw); go_simp; try with_reducible rfl
            try simp only [Act.put, List.setIfInBounds_toArray, List.set_cons_zero, List.set_cons_succ]
            refine wpAnyH_take (i := 10) (v := ?_) (by simp only [List.getElem?_toArray, List.getElem?_cons_succ, List.getElem?_cons_zero]; exact rfl) (by kernel_rfl) (by kernel_rfl) (by kernel_rfl) (by exact fun _ _ _ h => h) (Or.inl ⟨by rfl, ?_⟩) (by assumption) ?_
            rotate_left
            · intro w hSw; (try dsimp only at hSw); go_simp; try with_reducible rfl
            try simp only [Act.put, List.setIfInBounds_toArray, List.set_cons_zero, List.set_cons_succ]
            refine wpAnyH_take (i := 11) (v := ?_) (by simp only [List.getElem?_toArray, List.getElem?_cons_succ, List.getElem?_cons_zero]; exact rfl) (by kernel_rfl) (by kernel_rfl) (by kernel_rfl) (by exact fun _ _ _ h => h) (Or.inl ⟨by rfl, ?_⟩) (by assumption) ?_
            rotate_left
            · intro w hSw; (try dsimp only at hSw); go_simp; try with_reducible rfl
            try simp only [Act.put, List.setIfInBounds_toArray, List.set_cons_zero, List.set_cons_succ]
            refine wpAnyH_take (i := 12) (v := ?_) (by simp only [List.getElem?_toArray, List.getElem?_cons_succ, List.getElem?_cons_zero]; exact rfl) (by kernel_rfl) (by kernel_rfl) (by kernel_rfl) (by exact fun _ _ _ h => h) (Or.inl ⟨by rfl, ?_⟩) (by assumption) ?_
            rotate_left
            · intro w hSw; (try dsimp only at hSw); go_simp; try with_reducible rfl
            try simp only [Act.put, List.setIfInBounds_toArray, List.set_cons_zero, List.set_cons_succ]
            refine wpAnyH_take (i := 13) (v := ?_) (by simp only [List.getElem?_toArray, List.getElem?_cons_succ, List.getElem?_cons_zero]; exact rfl) (by kernel_rfl) (by kernel_rfl) (by kernel_rfl) (by exact fun _ _ _ h => h) (Or.inl ⟨by rfl, ?_⟩) (by assumption) ?_
            rotate_left
            · intro w hSw; (try dsimp only at hSw); go_simp; try with_reducible rfl
            try simp only [Act.put, List.setIfInBounds_toArray, List.set_cons_zero, List.set_cons_succ]
            refine wpAnyH_take (i := 14) (v := ?_) (by simp only [List.getElem?_toArray, List.getElem?_cons_succ, List.getElem?_cons_zero]; exact rfl) (by kernel_rfl) (by kernel_rfl) (by kernel_rfl) (by exact fun _ _ _ h => h) (Or.inl ⟨by rfl, ?_⟩) (by assumption) ?_
            rotate_left
            · intro w hSw; (try dsimp only at hSw); go_simp; try with_reducible rfl
            try simp only [Act.put, List.setIfInBounds_toArray, List.set_cons_zero, List.set_cons_succ]
            refine wpAnyH_take (i := 15) (v := ?_) (by simp only [List.getElem?_toArray, List.getElem?_cons_succ, List.getElem?_cons_zero]; exact rfl) (by kernel_rfl) (by kernel_rfl) (by kernel_rfl) (by exact fun _ _ _ h => h) (Or.inl ⟨by rfl, ?_⟩) (by assumption) ?_
            rotate_left
            · intro w hSw; (try dsimp only at hSw); go_simp; try with_reducible rfl
            try simp only [Act.put, List.setIfInBounds_toArray, List.set_cons_zero, List.set_cons_succ]
            refine wpAnyH_ready (rs := [8]) (by kernel_rfl) (by simp) ?_
            refine AllReadyH.cons (by simp only [List.getElem?_toArray, List.getElem?_cons_succ, List.getElem?_cons_zero]; exact rfl) (fun K hK => ?_) AllReadyH.nil
            go_simp
            go_at_call 16
            refine (HLX.out (by omega) V.drew w4.heap.size _ _ S0 w5.heap.size (HPC.out _ HB6.out.drew) hsV (HPUT.out.rd.same (fun _ _ _ => rfl)) (by show w5.heap.size ≤ V.heap.size; omega)).mono ?_
            rintro e w7 ⟨rfl, b7⟩
            have HB7 := Lib.hid (show Below w4.heap.size w4 w7 from HB6.out.drew.trans (b7.mono hsV))
            clear b7
            go_wp2_with fail
            refine hK.out _ _ ?_ (fun hHeld2 => ?_)
            · exact HSH.out _ HB7.out
            clear hK K
            try simp only [Act.put, List.setIfInBounds_toArray, List.set_cons_zero, List.set_cons_succ]
            refine wpAnyH_take (i := 16) (v := ?_) (by simp only [List.getElem?_toArray, List.getElem?_cons_succ, List.getElem?_cons_zero]; exact rfl) (by kernel_rfl) (by kernel_rfl) (by kernel_rfl) (by exact fun _ _ _ h => h) (Or.inl ⟨by rfl, ?_⟩) (by assumption) ?_
            rotate_left
            · intro w hSw; (try dsimp only at hSw); go_simp; try with_reducible rfl
            try simp only [Act.put, List.setIfInBounds_toArray, List.set_cons_zero, List.set_cons_succ]
            refine wpAnyH_take (i := 17) (v := ?_) (by simp only [List.getElem?_toArray, List.getElem?_cons_succ, List.getElem?_cons_zero]; exact rfl) (by kernel_rfl) (by kernel_rfl) (by kernel_rfl) (by exact fun _ _ _ h => h) (Or.inl ⟨by rfl, ?_⟩) (by assumption) ?_
            rotate_left
            · intro w hSw; (try dsimp only at hSw); go_simp; try with_reducible rfl
            try simp only [Act.put, List.setIfInBounds_toArray, List.set_cons_zero, List.set_cons_succ]
            refine wpAnyH_done (by kernel_rfl) ?_ _
            clear hHeld hHeld2
            go_wp2
            go_roundw
            case rel => exact ⟨i + 1, hlt, by rw [HSN.out], by go_num, HB7.out⟩
            case measure => simp [intOf]; omega
          · have hd0' : ¬ (0 : Int) ≤ d := hd0
            refine wp_region_held_drew (S := (fun w' => w'.cell? ⟨b2, i, none⟩ = some (.int .i64 d) ∧ w'.cell? ⟨b, i * 4 + 3, none⟩ = some (.int .i64 z))) (by kernel_rfl) ?_ (fun hHeld => ?_)
            · first | exact HSH.out _ HB6.out | exact HSH.out _ HB6.out.drew
            refine wpAnyH_take (i := 0) (v := ?_) (by simp only [List.getElem?_toArray, List.getElem?_cons_succ, List.getElem?_cons_zero]; exact rfl) (by kernel_rfl) (by kernel_rfl) (by kernel_rfl) (by exact fun _ _ _ h => h) (Or.inl ⟨by rfl, ?_⟩) (by assumption) ?_
            rotate_left
            · intro w hSw; (try dsimp only at hSw); go_simp; try with_reducible rfl
            try simp only [Act.put, List.setIfInBounds_toArray, List.set_cons_zero, List.set_cons_succ]
            refine wpAnyH_take (i := 1) (v := ?_) (by simp only [List.getElem?_toArray, List.getElem?_cons_succ, List.getElem?_cons_zero]; exact rfl) (by kernel_rfl) (by kernel_rfl) (by kernel_rfl) (by exact fun _ _ _ h => h) (Or.inl ⟨by rfl, ?_⟩) (by assumption) ?_
            rotate_left
            · intro w hSw; (try dsimp only at hSw); go_simp; try with_reducible rfl
            try simp only [Act.put, List.setIfInBounds_toArray, List.set_cons_zero, List.set_cons_succ]
            refine wpAnyH_take (i := 2) (v := ?_) (by simp only [List.getElem?_toArray, List.getElem?_cons_succ, List.getElem?_cons_zero]; exact rfl) (by kernel_rfl) (by kernel_rfl) (by kernel_rfl) (by exact fun _ _ _ h => h) (Or.inl ⟨by rfl, ?_⟩) (by assumption) ?_
            rotate_left
            · intro w hSw; (try dsimp only at hSw); go_simp; try with_reducible rfl
            try simp only [Act.put, List.setIfInBounds_toArray, List.set_cons_zero, List.set_cons_succ]
            refine wpAnyH_take (i := 3) (v := ?_) (by simp only [List.getElem?_toArray, List.getElem?_cons_succ, List.getElem?_cons_zero]; exact rfl) (by kernel_rfl) (by kernel_rfl) (by kernel_rfl) (by exact fun _ _ _ h => h) (Or.inl ⟨by rfl, ?_⟩) (by assumption) ?_
            rotate_left
            · intro w hSw; (try dsimp only at hSw); go_simp; try with_reducible rfl
            try simp only [Act.put, List.setIfInBounds_toArray, List.set_cons_zero, List.set_cons_succ]
            refine wpAnyH_take (i := 4) (v := ?_) (by simp only [List.getElem?_toArray, List.getElem?_cons_succ, List.getElem?_cons_zero]; exact rfl) (by kernel_rfl) (by kernel_rfl) (by kernel_rfl) (by exact fun _ _ _ h => h) (Or.inl ⟨by rfl, ?_⟩) (by assumption) ?_
            rotate_left
            · intro w hSw; (try dsimp only at hSw); go_simp; try with_reducible rfl
            try simp only [Act.put, List.setIfInBounds_toArray, List.set_cons_zero, List.set_cons_succ]
            refine wpAnyH_take (i := 5) (v := ?_) (by simp only [List.getElem?_toArray, List.getElem?_cons_succ, List.getElem?_cons_zero]; exact rfl) (by kernel_rfl) (by kernel_rfl) (by kernel_rfl) (by exact fun _ _ _ h => h) (Or.inl ⟨by rfl, ?_⟩) (by assumption) ?_
            rotate_left
            · intro w hSw; (try dsimp only at hSw); go_simp; try with_reducible rfl
            try simp only [Act.put, List.setIfInBounds_toArray, List.set_cons_zero, List.set_cons_succ]
            refine wpAnyH_take (i := 6) (v := undef) (by simp only [List.getElem?_toArray, List.getElem?_cons_succ, List.getElem?_cons_zero]; exact rfl) (by kernel_rfl) (by kernel_rfl) (by kernel_rfl) (by exact fun _ _ _ h => h) (Or.inr ⟨by kernel_rfl, rfl⟩) (by assumption) ?_
            try simp only [Act.put, List.setIfInBounds_toArray, List.set_cons_zero, List.set_cons_succ]
            refine wpAnyH_take (i := 7) (v := undef) (by simp only [List.getElem?_toArray, List.getElem?_cons_succ, List.getElem?_cons_zero]; exact rfl) (by kernel_rfl) (by kernel_rfl) (by kernel_rfl) (by exact fun _ _ _ h => h) (Or.inr ⟨by kernel_rfl, rfl⟩) (by assumption) ?_
            try simp only [Act.put, List.setIfInBounds_toArray, List.set_cons_zero, List.set_cons_succ]
            refine wpAnyH_take (i := 8) (v := undef) (by simp only [List.getElem?_toArray, List.getElem?_cons_succ, List.getElem?_cons_zero]; exact rfl) (by kernel_rfl) (by kernel_rfl) (by kernel_rfl) (by exact fun _ _ _ h => h) (Or.inr ⟨by kernel_rfl, rfl⟩) (by assumption) ?_
            try simp only [Act.put, List.setIfInBounds_toArray, List.set_cons_zero, List.set_cons_succ]
            refine wpAnyH_take (i := 9) (v := undef) (by simp only [List.getElem?_toArray, List.getElem?_cons_succ, List.getElem?_cons_zero]; exact rfl) (by kernel_rfl) (by kernel_rfl) (by kernel_rfl) (by exact fun _ _ _ h => h) (Or.inr ⟨by kernel_rfl, rfl⟩) (by assumption) ?_
            try simp only [Act.put, List.setIfInBounds_toArray, List.set_cons_zero, List.set_cons_succ]
            refine wpAnyH_take (i := 10) (v := undef) (by simp only [List.getElem?_toArray, List.getElem?_cons_succ, List.getElem?_cons_zero]; exact rfl) (by kernel_rfl) (by kernel_rfl) (by kernel_rfl) (by exact fun _ _ _ h => h) (Or.inr ⟨by kernel_rfl, rfl⟩) (by assumption) ?_
            try simp only [Act.put, List.setIfInBounds_toArray, List.set_cons_zero, List.set_cons_succ]
            refine wpAnyH_take (i := 11) (v := undef) (by simp only [List.getElem?_toArray, List.getElem?_cons_succ, List.getElem?_cons_zero]; exact rfl) (by kernel_rfl) (by kernel_rfl) (by kernel_rfl) (by exact fun _ _ _ h => h) (Or.inr ⟨by kernel_rfl, rfl⟩) (by assumption) ?_
            try simp only [Act.put, List.setIfInBounds_toArray, List.set_cons_zero, List.set_cons_succ]
            refine wpAnyH_take (i := 12) (v := undef) (by simp only [List.getElem?_toArray, List.getElem?_cons_succ, List.getElem?_cons_zero]; exact rfl) (by kernel_rfl) (by kernel_rfl) (by kernel_rfl) (by exact fun _ _ _ h => h) (Or.inr ⟨by kernel_rfl, rfl⟩) (by assumption) ?_
            try simp only [Act.put, List.setIfInBounds_toArray, List.set_cons_zero, List.set_cons_succ]
            refine wpAnyH_take (i := 13) (v := undef) (by simp only [List.getElem?_toArray, List.getElem?_cons_succ, List.getElem?_cons_zero]; exact rfl) (by kernel_rfl) (by kernel_rfl) (by kernel_rfl) (by exact fun _ _ _ h => h) (Or.inr ⟨by kernel_rfl, rfl⟩) (by assumption) ?_
            try simp only [Act.put, List.setIfInBounds_toArray, List.set_cons_zero, List.set_cons_succ]
            refine wpAnyH_take (i := 14) (v := undef) (by simp only [List.getElem?_toArray, List.getElem?_cons_succ, List.getElem?_cons_zero]; exact rfl) (by kernel_rfl) (by kernel_rfl) (by kernel_rfl) (by exact fun _ _ _ h => h) (Or.inr ⟨by kernel_rfl, rfl⟩) (by assumption) ?_
            try simp only [Act.put, List.setIfInBounds_toArray, List.set_cons_zero, List.set_cons_succ]
            refine wpAnyH_take (i := 15) (v := undef) (by simp only [List.getElem?_toArray, List.getElem?_cons_succ, List.getElem?_cons_zero]; exact rfl) (by kernel_rfl) (by kernel_rfl) (by kernel_rfl) (by exact fun _ _ _ h => h) (Or.inr ⟨by kernel_rfl, rfl⟩) (by assumption) ?_
            try simp only [Act.put, List.setIfInBounds_toArray, List.set_cons_zero, List.set_cons_succ]
            refine wpAnyH_take (i := 16) (v := undef) (by simp only [List.getElem?_toArray, List.getElem?_cons_succ, List.getElem?_cons_zero]; exact rfl) (by kernel_rfl) (by kernel_rfl) (by kernel_rfl) (by exact fun _ _ _ h => h) (Or.inr ⟨by kernel_rfl, rfl⟩) (by assumption) ?_
            try simp only [Act.put, List.setIfInBounds_toArray, List.set_cons_zero, List.set_cons_succ]
            refine wpAnyH_take (i := 17) (v := ?_) (by simp only [List.getElem?_toArray, List.getElem?_cons_succ, List.getElem?_cons_zero]; exact rfl) (by kernel_rfl) (by kernel_rfl) (by kernel_rfl) (by exact fun _ _ _ h => h) (Or.inl ⟨by rfl, ?_⟩) (by assumption) ?_
            rotate_left
            · intro w hSw; (try dsimp only at hSw); go_simp; try with_reducible rfl
            try simp only [Act.put, List.setIfInBounds_toArray, List.set_cons_zero, List.set_cons_succ]
            refine wpAnyH_done (by kernel_rfl) ?_ _
            clear hHeld
            have HB7 := Lib.hid (show Below w4.heap.size w4 V.drew from HB6.out.drew)
            go_wp2
            go_roundw
            case rel => exact ⟨i + 1, hlt, by rw [HSN.out], by go_num, by first | exact HB6.out | exact HB7.out⟩
            case measure => simp [intOf]; omega
        · have hlt' : ¬ (i : Int) < n0 := by omega
          obtain rfl : i = n0 := by omega
          have hws := HWS.out
          obtain ⟨u, eu⟩ : ∃ u, suW Z0 i = u := ⟨_, rfl⟩
          rw [eu] at hsu hws ⊢
          clear eu
          go_wp2_with fail
          refine (HW.out wr w4.heap.size _ _ _ _ (HPC.out wr HB.out) hsz (HGC.out wr HB.out) hsz).mono ?_
          rintro e w9 ⟨rfl, b9⟩
          have HBF := Lib.hid (BL_9.out.trans ((HB.out.trans (b9.mono hsz)).mono (by omega)))
          clear b9
          go_wp2
          go_ret
          exact ⟨rfl, HBF.out⟩
end Go.Proofs.Ythelaffjpmcdbaa
