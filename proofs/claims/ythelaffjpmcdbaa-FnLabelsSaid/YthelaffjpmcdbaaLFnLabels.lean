/- The law FnLabels of the promises: its walk. -/
import Derived.Test.YthelaffjpmcdbaaSwH
namespace Go.Proofs.Ythelaffjpmcdbaa
open Go.RowKit
set_option linter.unusedVariables false
set_option linter.unusedSimpArgs false

set_option maxHeartbeats 4000000 in
set_option maxRecDepth 100000 in
theorem law_FnLabels (v : Value) (n : Nat) (vm : Value) (nm : Nat) (w : World) (hv : RdB w.heap.size w v n) (hvm : RdB w.heap.size w vm nm) : Calls Try.prog 3 #[v, vm] w (LawPost w) := by
  have HD := Lib.hid (open_DrawLabelsValid v n w.heap.size w hv (Nat.le_refl _))
  obtain ⟨ao, cap, cb, off, Z, rfl, hc1, hc2, _⟩ := hv
  obtain ⟨ao2, cap2, cb2, off2, Z2, rfl, hd1, hd2, _⟩ := hvm
  by_cases hn : 1048576 < n
  · have hn' : (1048576 : Int) < n := by omega
    go_enter Try.func3, Try.ntmps3
    go_wp2
    go_ret
    exact ⟨rfl, Below.refl _ _⟩
  by_cases hm : 1048576 < nm
  · have hn' : ¬ (1048576 : Int) < n := by omega
    have hm' : (1048576 : Int) < nm := by omega
    go_enter Try.func3, Try.ntmps3
    go_wp2
    go_ret
    exact ⟨rfl, Below.refl _ _⟩
  · have hn' : ¬ (1048576 : Int) < n := by omega
    have hm' : ¬ (1048576 : Int) < nm := by omega
    go_enter Try.func3, Try.ntmps3
    go_wp2_with fail
    refine HD.out.mono ?_
    rintro e w1 ⟨b, off, cp, n0, Z0, rfl, hm, hn7, hz7, bw1⟩
    have R_p := Lib.hid hm
    have HZ := Lib.hid hz7
    clear hm HD hz7
    have sw1 : w.heap.size ≤ w1.heap.size := bw1.size
    have BL := Lib.hid bw1
    clear bw1
    by_cases hok : LsOk n0 Z0
    case neg =>
      go_wp2_with fail
      refine (implLs_no _ 0 w1.heap.size n0 Z0 _ (R_p.out.mono (Nat.zero_le _) (by omega)) (Nat.le_refl _) (by omega) hok).mono ?_
      rintro e w2 ⟨rfl, bw2⟩
      have sw2 : w1.heap.size ≤ w2.heap.size := bw2.size
      have L_1 := Lib.hid (R_p.out.same (SameIn.below bw2 (by omega)))
      clear R_p
      have BL_2 := Lib.hid (BL.out.trans (bw2.mono (by omega)))
      clear BL bw2
      go_wp2_with fail
      refine (specLs_no _ 0 w2.heap.size n0 Z0 _ (L_1.out.mono (Nat.zero_le _) (by omega)) (Nat.le_refl _) (by omega) hok).mono ?_
      rintro e w3 ⟨rfl, bw3⟩
      have sw3 : w2.heap.size ≤ w3.heap.size := bw3.size
      have L_3 := Lib.hid (L_1.out.same (SameIn.below bw3 (by omega)))
      clear L_1
      have BL_4 := Lib.hid (BL_2.out.trans (bw3.mono (by omega)))
      clear BL_2 bw3
      go_wp2
      go_ret
      exact ⟨rfl, BL_4.out⟩
    case pos =>
      go_wp2_with fail
      refine (implLs_yes _ 0 w1.heap.size n0 Z0 _ (R_p.out.mono (Nat.zero_le _) (by omega)) (Nat.le_refl _) (by omega) hok).mono ?_
      rintro e w2 ⟨rfl, bw2⟩
      have sw2 : w1.heap.size ≤ w2.heap.size := bw2.size
      have L_1 := Lib.hid (R_p.out.same (SameIn.below bw2 (by omega)))
      clear R_p
      have BL_2 := Lib.hid (BL.out.trans (bw2.mono (by omega)))
      clear BL bw2
      go_wp2_with fail
      refine (specLs_yes _ 0 w2.heap.size n0 Z0 _ (L_1.out.mono (Nat.zero_le _) (by omega)) (Nat.le_refl _) (by omega) hok).mono ?_
      rintro e w3 ⟨rfl, bw3⟩
      have sw3 : w2.heap.size ≤ w3.heap.size := bw3.size
      have L_3 := Lib.hid (L_1.out.same (SameIn.below bw3 (by omega)))
      clear L_1
      have BL_4 := Lib.hid (BL_2.out.trans (bw3.mono (by omega)))
      clear BL_2 bw3
      have hn6 := hok.1
      obtain ⟨k, ek⟩ : ∃ k, nm % (n0 + 1) = k := ⟨_, rfl⟩
      have hkn : k ≤ n0 := by have := Nat.mod_lt nm (show 0 < n0 + 1 by omega); omega
      have hq1 : IntKind.i64.wrap ((n0 : Int) + 1) = (n0 : Int) + 1 := IntWalk.i64_in _ (by omega)
      have hq2 : ¬ (n0 : Int) + 1 = 0 := by omega
      have hq3 : (nm : Int).tmod ((n0 : Int) + 1) = (k : Int) := by
        rw [Int.tmod_eq_emod_of_nonneg (by omega), ← ek]
        exact (Int.natCast_emod nm (n0 + 1)).symm
      have hq4 : IntKind.i64.wrap (k : Int) = (k : Int) := IntWalk.i64_in _ (by omega)
      have hcp : n0 ≤ cp := L_3.out.cap_le
      have hkk : (k : Int) ≤ cp := by omega
      have hkk0 : ¬ (k : Int) < 0 := by omega
      have hkk1 : (0 : Int) ≤ k := by omega
      have HYP := Lib.hid (fun (W : World) (hi' : Nat) (h : RdT 0 hi' W (.slice (some ⟨b, off, none⟩) n0 cp) n0 Z0) (hh : hi' ≤ W.heap.size) => implLs_yes _ 0 hi' k Z0 W (h.pre hkn) hh (by omega) (pre_ok hok hkn))
      have HWN := Lib.hid (fun (W : World) (hi' : Nat) (v v2 : Value) (lo2 hi2 : Nat) (h : RdT 0 hi' W v n0 Z0) (hh : hi' ≤ W.heap.size) (h2 : RdI lo2 hi2 W v2 n0 (fun _ => -1)) (hh2 : hi2 ≤ W.heap.size) => implWt_none v hi' n0 Z0 v2 lo2 hi2 W h hh hok h2 hh2)
      have HPC := Lib.hid (fun (W : World) (hb : Below w3.heap.size w3 W) => (L_3.out.same (SameIn.below hb (by omega))).mono (Nat.zero_le _) (show _ ≤ w3.heap.size by omega))
      obtain ⟨i0', hi00, hz00, hz10, hz20⟩ := info_parts Try.infoI
      obtain ⟨i0, hi0, hz0, hz1, hz2⟩ := info_parts Try.infoLb
      obtain ⟨S0, eS0⟩ : ∃ S0, w3.heap.size = S0 := ⟨_, rfl⟩
      have ES0 := Lib.hid eS0
      have HN0 := Lib.hid (show Nums S0 (w3.alloc (.cells #[] 3)) (.slice (some ⟨S0, 0, none⟩) 0 0) (fnL (fun _ => -1) 0) from by subst eS0; exact nums_lit w3)
      have HB0 := Lib.hid (show Below w3.heap.size w3 (w3.alloc (.cells #[] 3)) from (Below.refl _ _).alloc (Nat.le_refl _) _)
      clear ek
      go_wp2
      go_loopw [9, 10] (fun x c' wr3 => ∃ (k : Nat) (v : Value), k ≤ n0 ∧ v = x ∧ c' = .int .i64 k ∧ Nums S0 wr3 v (fnL (fun _ => -1) k) ∧ S0 ≤ wr3.heap.size ∧ Below w3.heap.size w3 wr3) (fun _ c' _ => n0 - (intOf c').toNat)
      case atStart => exact ⟨0, _, Nat.zero_le _, rfl, rfl, HN0.out, by rw [World.size_alloc]; have := ES0.out; omega, HB0.out⟩
      case round =>
        clear HN0 HB0
        obtain ⟨j, vx, hj, rfl, rfl, hnu, hs3, hb⟩ := hrel
        have HB4 := Lib.hid hb
        have HNU := Lib.hid hnu
        have hsz4 := hb.size
        clear hb hnu
        by_cases hlk : j < n0
        · have hlk' : (j : Int) < n0 := by omega
          have hl1 := cp_len (fun _ => -1) j
          have HOW := Lib.hid (nums_own HNU.out)
          go_wp2_with (first | (at_builtin; refine wpList_append_own _ rfl _ _ 26 rfl S0 3 i0' (.int .i64 0) 1 8 Try.underlying26 hi00 hz00 hz10 hz20 rfl (by decide) vx j (nsV (fnL (fun _ => -1) j)) rfl (HOW.out.alloc _) ⟨wr.heap.size, 0, none⟩ 1 1 [.int .i64 (-1)] rfl rfl (World.news_of_block (cs := #[.int .i64 (-1)]) (t := 3) (fr := (0, 0)) (heap_alloc_new wr _)) (by simp [Value.oneCell']) (by unfold maxLen; omega) (by omega) (by simp; omega) ?_; intro vy w5 hown hgr _; have HO := Lib.hid hown; have HG := Lib.hid hgr; clear hown hgr))
          have HN5 := Lib.hid (nums_more HO.out rfl)
          have HB5 := Lib.hid (show Below w3.heap.size w3 w5 from (HB4.out.alloc hsz4 _).grown HG.out (by rw [World.size_alloc]; omega) (fun r hr => by have := (HOW.out.lt r hr).1; have := ES0.out; omega))
          have hs5 : S0 ≤ w5.heap.size := by have := HG.out.size; rw [World.size_alloc] at this; omega
          clear HO HG HOW
          go_wp2
          go_roundw
          case rel => exact ⟨j + 1, _, by omega, rfl, by go_num, HN5.out, hs5, HB5.out⟩
          case measure => simp [intOf]; omega
        · have hlk' : ¬ (j : Int) < n0 := by omega
          obtain rfl : j = n0 := by omega
          have HP := Lib.hid (HPC.out wr HB4.out)
          have HNI := Lib.hid ((own_nums HNU.out (fun _ _ => by omega)).rd)
          have HBW := Lib.hid (BL_4.out.trans (HB4.out.mono (by omega)))
          clear HNU
          by_cases h0 : j = 0
          · have h0' : ¬ (0 : Int) < (j : Int) := by omega
            have h0n : ¬ 0 < j := by omega
            clear h0
            go_wp2_with fail
            refine wp_region_held_drew (S := (fun w' => Below wr.heap.size wr w')) (by kernel_rfl) ?_ (fun hHeld => ?_)
            · first | exact Below.refl _ _ | exact below_drewN (Below.refl _ _) 1
            refine wpAnyH_take (i := 0) (v := ?_) (by simp only [List.getElem?_toArray, List.getElem?_cons_succ, List.getElem?_cons_zero]; exact rfl) (by kernel_rfl) (by kernel_rfl) (by kernel_rfl) (by exact fun _ _ _ h => h) (Or.inl ⟨by rfl, ?_⟩) (by assumption) ?_
            rotate_left
            · intro w hSw; (try dsimp only at hSw); go_simp; try with_reducible rfl
            try simp only [Act.put, List.setIfInBounds_toArray, List.set_cons_zero, List.set_cons_succ]
            refine wpAnyH_take (i := 1) (v := ?_) (by simp only [List.getElem?_toArray, List.getElem?_cons_succ, List.getElem?_cons_zero]; exact rfl) (by kernel_rfl) (by kernel_rfl) (by kernel_rfl) (by exact fun _ _ _ h => h) (Or.inl ⟨by rfl, ?_⟩) (by assumption) ?_
            rotate_left
            · intro w hSw; (try dsimp only at hSw); go_simp; try with_reducible rfl
            try simp only [Act.put, List.setIfInBounds_toArray, List.set_cons_zero, List.set_cons_succ]
            refine wpAnyH_take (i := 2) (v := ?_) (by simp only [List.getElem?_toArray, List.getElem?_cons_succ, List.getElem?_cons_zero]; exact rfl) (by kernel_rfl) (by kernel_rfl) (by kernel_rfl) (by exact fun _ _ _ h => h) (Or.inl ⟨by rfl, ?_⟩) (by assumption) ?_
            rotate_left
            · intro w hSw; (try dsimp only at hSw); go_simp; try with_reducible rfl
            try simp only [Act.put, List.setIfInBounds_toArray, List.set_cons_zero, List.set_cons_succ]
            refine wpAnyH_take (i := 3) (v := ?_) (by simp only [List.getElem?_toArray, List.getElem?_cons_succ, List.getElem?_cons_zero]; exact rfl) (by kernel_rfl) (by kernel_rfl) (by kernel_rfl) (by exact fun _ _ _ h => h) (Or.inl ⟨by rfl, ?_⟩) (by assumption) ?_
            rotate_left
            · intro w hSw; (try dsimp only at hSw); go_simp; try with_reducible rfl
            try simp only [Act.put, List.setIfInBounds_toArray, List.set_cons_zero, List.set_cons_succ]
            refine wpAnyH_take (i := 4) (v := undef) (by simp only [List.getElem?_toArray, List.getElem?_cons_succ, List.getElem?_cons_zero]; exact rfl) (by kernel_rfl) (by kernel_rfl) (by kernel_rfl) (by exact fun _ _ _ h => h) (Or.inr ⟨by kernel_rfl, rfl⟩) (by assumption) ?_
            try simp only [Act.put, List.setIfInBounds_toArray, List.set_cons_zero, List.set_cons_succ]
            refine wpAnyH_take (i := 5) (v := undef) (by simp only [List.getElem?_toArray, List.getElem?_cons_succ, List.getElem?_cons_zero]; exact rfl) (by kernel_rfl) (by kernel_rfl) (by kernel_rfl) (by exact fun _ _ _ h => h) (Or.inr ⟨by kernel_rfl, rfl⟩) (by assumption) ?_
            try simp only [Act.put, List.setIfInBounds_toArray, List.set_cons_zero, List.set_cons_succ]
            refine wpAnyH_take (i := 6) (v := undef) (by simp only [List.getElem?_toArray, List.getElem?_cons_succ, List.getElem?_cons_zero]; exact rfl) (by kernel_rfl) (by kernel_rfl) (by kernel_rfl) (by exact fun _ _ _ h => h) (Or.inr ⟨by kernel_rfl, rfl⟩) (by assumption) ?_
            try simp only [Act.put, List.setIfInBounds_toArray, List.set_cons_zero, List.set_cons_succ]
            refine wpAnyH_take (i := 7) (v := undef) (by simp only [List.getElem?_toArray, List.getElem?_cons_succ, List.getElem?_cons_zero]; exact rfl) (by kernel_rfl) (by kernel_rfl) (by kernel_rfl) (by exact fun _ _ _ h => h) (Or.inr ⟨by kernel_rfl, rfl⟩) (by assumption) ?_
            try simp only [Act.put, List.setIfInBounds_toArray, List.set_cons_zero, List.set_cons_succ]
            refine wpAnyH_take (i := 8) (v := undef) (by simp only [List.getElem?_toArray, List.getElem?_cons_succ, List.getElem?_cons_zero]; exact rfl) (by kernel_rfl) (by kernel_rfl) (by kernel_rfl) (by exact fun _ _ _ h => h) (Or.inr ⟨by kernel_rfl, rfl⟩) (by assumption) ?_
            try simp only [Act.put, List.setIfInBounds_toArray, List.set_cons_zero, List.set_cons_succ]
            refine wpAnyH_take (i := 9) (v := undef) (by simp only [List.getElem?_toArray, List.getElem?_cons_succ, List.getElem?_cons_zero]; exact rfl) (by kernel_rfl) (by kernel_rfl) (by kernel_rfl) (by exact fun _ _ _ h => h) (Or.inr ⟨by kernel_rfl, rfl⟩) (by assumption) ?_
            try simp only [Act.put, List.setIfInBounds_toArray, List.set_cons_zero, List.set_cons_succ]
            refine wpAnyH_take (i := 10) (v := undef) (by simp only [List.getElem?_toArray, List.getElem?_cons_succ, List.getElem?_cons_zero]; exact rfl) (by kernel_rfl) (by kernel_rfl) (by kernel_rfl) (by exact fun _ _ _ h => h) (Or.inr ⟨by kernel_rfl, rfl⟩) (by assumption) ?_
            try simp only [Act.put, List.setIfInBounds_toArray, List.set_cons_zero, List.set_cons_succ]
            refine wpAnyH_take (i := 11) (v := undef) (by simp only [List.getElem?_toArray, List.getElem?_cons_succ, List.getElem?_cons_zero]; exact rfl) (by kernel_rfl) (by kernel_rfl) (by kernel_rfl) (by exact fun _ _ _ h => h) (Or.inr ⟨by kernel_rfl, rfl⟩) (by assumption) ?_
            try simp only [Act.put, List.setIfInBounds_toArray, List.set_cons_zero, List.set_cons_succ]
            refine wpAnyH_take (i := 12) (v := undef) (by simp only [List.getElem?_toArray, List.getElem?_cons_succ, List.getElem?_cons_zero]; exact rfl) (by kernel_rfl) (by kernel_rfl) (by kernel_rfl) (by exact fun _ _ _ h => h) (Or.inr ⟨by kernel_rfl, rfl⟩) (by assumption) ?_
            try simp only [Act.put, List.setIfInBounds_toArray, List.set_cons_zero, List.set_cons_succ]
            refine wpAnyH_take (i := 13) (v := undef) (by simp only [List.getElem?_toArray, List.getElem?_cons_succ, List.getElem?_cons_zero]; exact rfl) (by kernel_rfl) (by kernel_rfl) (by kernel_rfl) (by exact fun _ _ _ h => h) (Or.inr ⟨by kernel_rfl, rfl⟩) (by assumption) ?_
            try simp only [Act.put, List.setIfInBounds_toArray, List.set_cons_zero, List.set_cons_succ]
            refine wpAnyH_take (i := 14) (v := undef) (by simp only [List.getElem?_toArray, List.getElem?_cons_succ, List.getElem?_cons_zero]; exact rfl) (by kernel_rfl) (by kernel_rfl) (by kernel_rfl) (by exact fun _ _ _ h => h) (Or.inr ⟨by kernel_rfl, rfl⟩) (by assumption) ?_
            try simp only [Act.put, List.setIfInBounds_toArray, List.set_cons_zero, List.set_cons_succ]
            refine wpAnyH_take (i := 15) (v := undef) (by simp only [List.getElem?_toArray, List.getElem?_cons_succ, List.getElem?_cons_zero]; exact rfl) (by kernel_rfl) (by kernel_rfl) (by kernel_rfl) (by exact fun _ _ _ h => h) (Or.inr ⟨by kernel_rfl, rfl⟩) (by assumption) ?_
            try simp only [Act.put, List.setIfInBounds_toArray, List.set_cons_zero, List.set_cons_succ]
            refine wpAnyH_take (i := 16) (v := undef) (by simp only [List.getElem?_toArray, List.getElem?_cons_succ, List.getElem?_cons_zero]; exact rfl) (by kernel_rfl) (by kernel_rfl) (by kernel_rfl) (by exact fun _ _ _ h => h) (Or.inr ⟨by kernel_rfl, rfl⟩) (by assumption) ?_
            try simp only [Act.put, List.setIfInBounds_toArray, List.set_cons_zero, List.set_cons_succ]
            refine wpAnyH_take (i := 17) (v := undef) (by simp only [List.getElem?_toArray, List.getElem?_cons_succ, List.getElem?_cons_zero]; exact rfl) (by kernel_rfl) (by kernel_rfl) (by kernel_rfl) (by exact fun _ _ _ h => h) (Or.inr ⟨by kernel_rfl, rfl⟩) (by assumption) ?_
            try simp only [Act.put, List.setIfInBounds_toArray, List.set_cons_zero, List.set_cons_succ]
            refine wpAnyH_take (i := 18) (v := ?_) (by simp only [List.getElem?_toArray, List.getElem?_cons_succ, List.getElem?_cons_zero]; exact rfl) (by kernel_rfl) (by kernel_rfl) (by kernel_rfl) (by exact fun _ _ _ h => h) (Or.inl ⟨by rfl, ?_⟩) (by assumption) ?_
            rotate_left
            · intro w hSw; (try dsimp only at hSw); go_simp; try with_reducible rfl
            try simp only [Act.put, List.setIfInBounds_toArray, List.set_cons_zero, List.set_cons_succ]
            refine wpAnyH_done (by kernel_rfl) ?_ _
            have HS := Lib.hid (show Below wr.heap.size wr wr.drew from below_drewN (Below.refl _ _) 1)
            go_wp2_with fail
            refine (HYP.out _ w3.heap.size (HPC.out _ (HB4.out.trans (HS.out.mono (by omega)))) (by have := HS.out.size; omega)).mono ?_
            rintro e wa ⟨rfl, ba⟩
            have HA := Lib.hid (show Below wr.heap.size wr wa from HS.out.trans (ba.mono HS.out.size))
            clear ba
            go_wp2_with fail
            refine (HWN.out _ w3.heap.size _ _ S0 wr.heap.size (HPC.out _ (HB4.out.trans (HA.out.mono (by omega)))) (by have := HA.out.size; omega) (HNI.out.same (SameIn.below HA.out (Nat.le_refl _))) HA.out.size).mono ?_
            rintro e wb ⟨rfl, bb⟩
            have HF := Lib.hid (HBW.out.trans ((HA.out.trans (bb.mono HA.out.size)).mono (by omega)))
            clear bb
            go_wp2
            go_ret
            exact ⟨rfl, HF.out⟩
          · have h0' : (0 : Int) < (j : Int) := by omega
            have h0n : 0 < j := by omega
            clear h0
            obtain ⟨i, ei⟩ : ∃ i, nm % j = i := ⟨_, rfl⟩
            have hij : i < j := by rw [← ei]; exact Nat.mod_lt _ h0n
            have hr2 : ¬ (j : Int) = 0 := by omega
            have hr20 : ¬ j = 0 := by omega
            have hr3 : (nm : Int).tmod (j : Int) = (i : Int) := by
              rw [Int.tmod_eq_emod_of_nonneg (by omega), ← ei]
              exact (Int.natCast_emod nm j).symm
            have hr4 : IntKind.i64.wrap (i : Int) = (i : Int) := IntWalk.i64_in _ (by omega)
            have hr5 : (i : Int) < (j : Int) := by omega
            have hr6 : ¬ (i : Int) < 0 := by omega
            have hr7 : (0 : Int) ≤ i := by omega
            obtain ⟨hbl, hcl⟩ := HP.out.openA h0n
            have HC6 := Lib.hid (fun (W : World) (hb : Below wr.heap.size wr W) (q : Nat) (hq : q < j * 4) => (hb.cell (p := ⟨b, off + q, none⟩) (by show b < _; omega)).trans (hcl q hq))
            have HC4 := Lib.hid (fun (W : World) (hb : Below wr.heap.size wr W) => four_of (HC6.out W hb) hij)
            have HTW := Lib.hid (twice_no (n := j) (Z := Z0) (a := Z0 (i * 4 + 2)) (g := Z0 (i * 4 + 3)) hij)
            have HZR := Lib.hid (fun q (hq : q < (j + 1) * 4) => by
              have h1 : ∀ r, r < j * 4 → -100 ≤ Z0 r ∧ Z0 r ≤ 100 := HZ.out
              have a0 := h1 (i * 4) (by omega)
              have a1 := h1 (i * 4 + 1) (by omega)
              have a2 := h1 (i * 4 + 2) (by omega)
              have a3 := h1 (i * 4 + 3) (by omega)
              show -9223372036854775808 ≤ fourZ Z0 j (Z0 (i * 4)) (Z0 (i * 4 + 1)) (Z0 (i * 4 + 2)) (Z0 (i * 4 + 3)) q ∧ fourZ Z0 j (Z0 (i * 4)) (Z0 (i * 4 + 1)) (Z0 (i * 4 + 2)) (Z0 (i * 4 + 3)) q ≤ 9223372036854775807
              unfold fourZ
              split
              · omega
              split
              · omega
              split
              · omega
              split
              · omega
              · have := h1 q (by omega); omega)
            obtain ⟨x0, ex0⟩ : ∃ x, Z0 (i * 4) = x := ⟨_, rfl⟩
            obtain ⟨x1, ex1⟩ : ∃ x, Z0 (i * 4 + 1) = x := ⟨_, rfl⟩
            obtain ⟨x2, ex2⟩ : ∃ x, Z0 (i * 4 + 2) = x := ⟨_, rfl⟩
            obtain ⟨x3, ex3⟩ : ∃ x, Z0 (i * 4 + 3) = x := ⟨_, rfl⟩
            simp only [ex0, ex1, ex2, ex3] at HTW HZR HC4
            clear ex0 ex1 ex2 ex3 ei hcl
            go_wp2_with fail
            refine wp_region_held_drew (S := (fun w' => Below wr.heap.size wr w')) (by kernel_rfl) ?_ (fun hHeld => ?_)
            · first | exact Below.refl _ _ | exact below_drewN (Below.refl _ _) 1
            refine wpAnyH_take (i := 0) (v := ?_) (by simp only [List.getElem?_toArray, List.getElem?_cons_succ, List.getElem?_cons_zero]; exact rfl) (by kernel_rfl) (by kernel_rfl) (by kernel_rfl) (by exact fun _ _ _ h => h) (Or.inl ⟨by rfl, ?_⟩) (by assumption) ?_
            rotate_left
            · intro w hSw; (try dsimp only at hSw); go_simp; try with_reducible rfl
            try simp only [Act.put, List.setIfInBounds_toArray, List.set_cons_zero, List.set_cons_succ]
            refine wpAnyH_take (i := 1) (v := ?_) (by simp only [List.getElem?_toArray, List.getElem?_cons_succ, List.getElem?_cons_zero]; exact rfl) (by kernel_rfl) (by kernel_rfl) (by kernel_rfl) (by exact fun _ _ _ h => h) (Or.inl ⟨by rfl, ?_⟩) (by assumption) ?_
            rotate_left
            · intro w hSw; (try dsimp only at hSw); go_simp; try with_reducible rfl
            try simp only [Act.put, List.setIfInBounds_toArray, List.set_cons_zero, List.set_cons_succ]
            refine wpAnyH_take (i := 2) (v := ?_) (by simp only [List.getElem?_toArray, List.getElem?_cons_succ, List.getElem?_cons_zero]; exact rfl) (by kernel_rfl) (by kernel_rfl) (by kernel_rfl) (by exact fun _ _ _ h => h) (Or.inl ⟨by rfl, ?_⟩) (by assumption) ?_
            rotate_left
            · intro w hSw; (try dsimp only at hSw); go_simp; try with_reducible rfl
            try simp only [Act.put, List.setIfInBounds_toArray, List.set_cons_zero, List.set_cons_succ]
            refine wpAnyH_take (i := 3) (v := ?_) (by simp only [List.getElem?_toArray, List.getElem?_cons_succ, List.getElem?_cons_zero]; exact rfl) (by kernel_rfl) (by kernel_rfl) (by kernel_rfl) (by exact fun _ _ _ h => h) (Or.inl ⟨by rfl, ?_⟩) (by assumption) ?_
            rotate_left
            · intro w hSw; (try dsimp only at hSw); go_simp; try with_reducible rfl
            try simp only [Act.put, List.setIfInBounds_toArray, List.set_cons_zero, List.set_cons_succ]
            refine wpAnyH_take (i := 5) (v := ?_) (by simp only [List.getElem?_toArray, List.getElem?_cons_succ, List.getElem?_cons_zero]; exact rfl) (by kernel_rfl) (by kernel_rfl) (by kernel_rfl) (by exact fun _ _ _ h => h) (Or.inl ⟨by rfl, ?_⟩) (by assumption) ?_
            rotate_left
            · intro w hSw; (try dsimp only at hSw); go_simp; try with_reducible rfl
            try simp only [Act.put, List.setIfInBounds_toArray, List.set_cons_zero, List.set_cons_succ]
            refine wpAnyH_take (i := 7) (v := ?_) (by simp only [List.getElem?_toArray, List.getElem?_cons_succ, List.getElem?_cons_zero]; exact rfl) (by kernel_rfl) (by kernel_rfl) (by kernel_rfl) (by exact fun _ _ _ h => h) (Or.inl ⟨by rfl, ?_⟩) (by assumption) ?_
            rotate_left
            · intro w hSw; (try dsimp only at hSw); go_simp; try with_reducible rfl
            try simp only [Act.put, List.setIfInBounds_toArray, List.set_cons_zero, List.set_cons_succ]
            refine wpAnyH_take (i := 8) (v := ?_) (by simp only [List.getElem?_toArray, List.getElem?_cons_succ, List.getElem?_cons_zero]; exact rfl) (by kernel_rfl) (by kernel_rfl) (by kernel_rfl) (by exact fun _ _ _ h => h) (Or.inl ⟨by rfl, ?_⟩) (by assumption) ?_
            rotate_left
            · intro w hSw; (try dsimp only at hSw); go_simp; try with_reducible rfl
            try simp only [Act.put, List.setIfInBounds_toArray, List.set_cons_zero, List.set_cons_succ]
            refine wpAnyH_take (i := 9) (v := ?_) (by simp only [List.getElem?_toArray, List.getElem?_cons_succ, List.getElem?_cons_zero]; exact rfl) (by kernel_rfl) (by kernel_rfl) (by kernel_rfl) (by exact fun _ _ _ h => h) (Or.inl ⟨by rfl, ?_⟩) (by assumption) ?_
            rotate_left
            · intro w hSw; (try dsimp only at hSw); go_simp; try with_reducible rfl
            try simp only [Act.put, List.setIfInBounds_toArray, List.set_cons_zero, List.set_cons_succ]
            refine wpAnyH_take (i := 10) (v := ?_) (by simp only [List.getElem?_toArray, List.getElem?_cons_succ, List.getElem?_cons_zero]; exact rfl) (by kernel_rfl) (by kernel_rfl) (by kernel_rfl) (by exact fun _ _ _ h => h) (Or.inl ⟨by rfl, ?_⟩) (by assumption) ?_
            rotate_left
            · intro w hSw; (try dsimp only at hSw); go_simp; try with_reducible rfl
            try simp only [Act.put, List.setIfInBounds_toArray, List.set_cons_zero, List.set_cons_succ]
            refine wpAnyH_take (i := 11) (v := ?_) (by simp only [List.getElem?_toArray, List.getElem?_cons_succ, List.getElem?_cons_zero]; exact rfl) (by kernel_rfl) (by kernel_rfl) (by kernel_rfl) (by exact fun _ _ _ h => h) (Or.inl ⟨by rfl, ?_⟩) (by assumption) ?_
            rotate_left
            · intro w hSw; (try dsimp only at hSw); go_simp; try with_reducible rfl
            try simp only [Act.put, List.setIfInBounds_toArray, List.set_cons_zero, List.set_cons_succ]
            refine wpAnyH_take (i := 12) (v := ?_) (by simp only [List.getElem?_toArray, List.getElem?_cons_succ, List.getElem?_cons_zero]; exact rfl) (by kernel_rfl) (by kernel_rfl) (by kernel_rfl) (by exact fun _ _ _ h => h) (Or.inl ⟨by rfl, ?_⟩) (by assumption) ?_
            rotate_left
            · intro w hSw; (try dsimp only at hSw); go_simp; try with_reducible rfl
            try simp only [Act.put, List.setIfInBounds_toArray, List.set_cons_zero, List.set_cons_succ]
            refine wpAnyH_take (i := 13) (v := ?_) (by simp only [List.getElem?_toArray, List.getElem?_cons_succ, List.getElem?_cons_zero]; exact rfl) (by kernel_rfl) (by kernel_rfl) (by kernel_rfl) (by exact fun _ _ _ h => h) (Or.inl ⟨by rfl, ?_⟩) (by assumption) ?_
            rotate_left
            · intro w hSw; (try dsimp only at hSw); go_simp; try with_reducible rfl
            try simp only [Act.put, List.setIfInBounds_toArray, List.set_cons_zero, List.set_cons_succ]
            refine wpAnyH_take (i := 14) (v := ?_) (by simp only [List.getElem?_toArray, List.getElem?_cons_succ, List.getElem?_cons_zero]; exact rfl) (by kernel_rfl) (by kernel_rfl) (by kernel_rfl) (by exact fun _ _ _ h => h) (Or.inl ⟨by rfl, ?_⟩) (by assumption) ?_
            rotate_left
            · intro w hSw; (try dsimp only at hSw); obtain ⟨c0, c1, c2, c3⟩ := HC4.out w hSw; go_simp; try with_reducible rfl
            try simp only [Act.put, List.setIfInBounds_toArray, List.set_cons_zero, List.set_cons_succ]
            refine wpAnyH_ready (rs := [4, 15]) (by kernel_rfl) (by simp) ?_
            refine AllReadyH.cons (by simp only [List.getElem?_toArray, List.getElem?_cons_succ, List.getElem?_cons_zero]; exact rfl) (fun K hK => ?_) (AllReadyH.cons (by simp only [List.getElem?_toArray, List.getElem?_cons_succ, List.getElem?_cons_zero]; exact rfl) (fun K hK => ?_) AllReadyH.nil)
            · skip
              go_simp
              obtain ⟨A0, eA0⟩ : ∃ A, wr.heap.size = A := ⟨_, rfl⟩
              have EA0 := Lib.hid eA0
              have OW0 := Lib.hid (show ((wr.alloc (.cells #[] 28)).drew).ownsRow wr.heap.size 28 4 (.slice (some ⟨A0, 0, none⟩) 0 0) 0 [] from by subst eA0; exact ownsRow_base (show ((wr.alloc (.cells #[] 28)).drew).ownsRow wr.heap.size 28 4 (.slice (some ⟨wr.heap.size, 0, none⟩) 0 0) 0 [] from labs_lit wr Z0) (Nat.le_refl _))
              have HB0x := Lib.hid (show Below wr.heap.size wr ((wr.alloc (.cells #[] 28)).drew) from below_drewN ((Below.refl _ _).alloc (Nat.le_refl _) _) 1)
              rw [eA0]
              clear eA0
              generalize (wr.alloc (.cells #[] 28)).drew = V0 at OW0 HB0x ⊢
              refine hK.out _ _ ?_ (fun hHeld0 => ?_)
              · exact HB0x.out
              clear hK K
              try simp only [Act.put, List.setIfInBounds_toArray, List.set_cons_zero, List.set_cons_succ]
              refine wpAnyH_ready (rs := [6, 15]) (by kernel_rfl) (by simp) ?_
              refine AllReadyH.cons (by simp only [List.getElem?_toArray, List.getElem?_cons_succ, List.getElem?_cons_zero]; exact rfl) (fun K hK => ?_) (AllReadyH.cons (by simp only [List.getElem?_toArray, List.getElem?_cons_succ, List.getElem?_cons_zero]; exact rfl) (fun K hK => ?_) AllReadyH.nil)
              · skip
                have HN1 := Lib.hid (ld_news (W := V0) (b := b) (off := off) (n := j * 4) (F := Z0) (fun q hq => HC6.out _ HB0x.out q hq))
                refine st_append_g (by kernel_rfl) _ _ _ (by rfl) wr.heap.size 28 i0 _ 4 32 Try.underlying23 hi0 hz0 hz1 hz2 rfl (by omega) (.slice (some ⟨A0, 0, none⟩) 0 0) 0 [] (by rfl) OW0.out ⟨b, off, none⟩ j _ (nsV (fnL Z0 (j * 4))) (by rfl) (labs_len _ _) HN1.out (ld_one _ _) (by unfold maxLen; omega) (by omega) HB0x.out.size ?_
                intro v1' V1 hown hg _
                have OW1 := Lib.hid (show V1.ownsRow wr.heap.size 28 4 v1' j (nsV (fnL Z0 (j * 4))) by simpa using hown)
                have HB1x := Lib.hid (HB0x.out.grown hg HB0x.out.size (fun q hq => (OW0.out.lt q hq).1))
                clear hown hg HN1
                refine hK.out _ _ ?_ (fun hHeld1 => ?_)
                · exact HB1x.out
                clear hK K
                try simp only [Act.put, List.setIfInBounds_toArray, List.set_cons_zero, List.set_cons_succ]
                refine wpAnyH_ready (rs := [15]) (by kernel_rfl) (by simp) ?_
                refine AllReadyH.cons (by simp only [List.getElem?_toArray, List.getElem?_cons_succ, List.getElem?_cons_zero]; exact rfl) (fun K hK => ?_) AllReadyH.nil
                go_simp
                obtain ⟨A2, eA2⟩ : ∃ A, V1.heap.size = A := ⟨_, rfl⟩
                have EA2 := Lib.hid eA2
                have CC2 := Lib.hid (show (V1.alloc (.cells #[.int .i64 x0, .int .i64 x1, .int .i64 x2, .int .i64 x3] 28)).heap[A2]? = some (.cells #[.int .i64 x0, .int .i64 x1, .int .i64 x2, .int .i64 x3] 28 (0, 0)) from by subst eA2; exact heap_alloc_new V1 _)
                have OW2 := Lib.hid (show (V1.alloc (.cells #[.int .i64 x0, .int .i64 x1, .int .i64 x2, .int .i64 x3] 28)).ownsRow wr.heap.size 28 4 (v1') j (nsV (fnL Z0 (j * 4))) from OW1.out.alloc _)
                have HB2x := Lib.hid (show Below wr.heap.size wr (V1.alloc (.cells #[.int .i64 x0, .int .i64 x1, .int .i64 x2, .int .i64 x3] 28)) from HB1x.out.alloc HB1x.out.size _)
                rw [eA2]
                clear eA2
                generalize V1.alloc (.cells #[.int .i64 x0, .int .i64 x1, .int .i64 x2, .int .i64 x3] 28) = V2 at OW2 HB2x CC2 ⊢
                refine hK.out _ _ ?_ (fun hHeld2 => ?_)
                · exact HB2x.out
                clear hK K
                try simp only [Act.put, List.setIfInBounds_toArray, List.set_cons_zero, List.set_cons_succ]
                refine wpAnyH_ready (rs := [16]) (by kernel_rfl) (by simp) ?_
                refine AllReadyH.cons (by simp only [List.getElem?_toArray, List.getElem?_cons_succ, List.getElem?_cons_zero]; exact rfl) (fun K hK => ?_) AllReadyH.nil
                refine st_append_g (by kernel_rfl) _ _ _ (by rfl) wr.heap.size 28 i0 _ 4 32 Try.underlying23 hi0 hz0 hz1 hz2 rfl (by omega) (v1') j (nsV (fnL Z0 (j * 4))) (by rfl) OW2.out ⟨A2, 0, none⟩ 1 _ [.int .i64 x0, .int .i64 x1, .int .i64 x2, .int .i64 x3] (by rfl) rfl (World.news_of_block (cs := #[.int .i64 x0, .int .i64 x1, .int .i64 x2, .int .i64 x3]) CC2.out) (by simp [Value.oneCell']) (by unfold maxLen; omega) (by omega) HB2x.out.size ?_
                intro v3' V3 hown hg _
                have HRD := Lib.hid ((labs_four hown).owT HZR.out).rd
                have HB3x := Lib.hid (HB2x.out.grown hg HB2x.out.size (fun q hq => (OW2.out.lt q hq).1))
                clear hown hg
                refine hK.out _ _ ?_ (fun hHeld3 => ?_)
                · exact HB3x.out
                clear hK K
                try simp only [Act.put, List.setIfInBounds_toArray, List.set_cons_zero, List.set_cons_succ]
                refine wpAnyH_ready (rs := [17]) (by kernel_rfl) (by simp) ?_
                refine AllReadyH.cons (by simp only [List.getElem?_toArray, List.getElem?_cons_succ, List.getElem?_cons_zero]; exact rfl) (fun K hK => ?_) AllReadyH.nil
                go_simp
                go_at_call 14
                refine (implLs_no _ 0 V3.heap.size (j + 1) _ _ (HRD.out.mono (Nat.zero_le _) (Nat.le_refl _)) (Nat.le_refl _) (by omega) HTW.out).mono ?_
                rintro e V4 ⟨rfl, bE⟩
                have HB4x := Lib.hid (show Below wr.heap.size wr V4 from HB3x.out.trans (bE.mono HB3x.out.size))
                clear bE
                go_wp2_with fail
                refine hK.out _ _ ?_ (fun hHeld4 => ?_)
                · exact HB4x.out
                clear hK K
                try simp only [Act.put, List.setIfInBounds_toArray, List.set_cons_zero, List.set_cons_succ]
                refine wpAnyH_take (i := 18) (v := ?_) (by simp only [List.getElem?_toArray, List.getElem?_cons_succ, List.getElem?_cons_zero]; exact rfl) (by kernel_rfl) (by kernel_rfl) (by kernel_rfl) (by exact fun _ _ _ h => h) (Or.inl ⟨by rfl, ?_⟩) (by assumption) ?_
                rotate_left
                · intro w hSw; (try dsimp only at hSw); go_simp; try with_reducible rfl
                try simp only [Act.put, List.setIfInBounds_toArray, List.set_cons_zero, List.set_cons_succ]
                refine wpAnyH_done (by kernel_rfl) ?_ _
                go_wp2_with fail
                refine (HYP.out _ w3.heap.size (HPC.out _ (HB4.out.trans (HB4x.out.mono (by omega)))) (by have := HB4x.out.size; omega)).mono ?_
                rintro e wa ⟨rfl, ba⟩
                have HA := Lib.hid (show Below wr.heap.size wr wa from HB4x.out.trans (ba.mono HB4x.out.size))
                clear ba
                go_wp2_with fail
                refine (HWN.out _ w3.heap.size _ _ S0 wr.heap.size (HPC.out _ (HB4.out.trans (HA.out.mono (by omega)))) (by have := HA.out.size; omega) (HNI.out.same (SameIn.below HA.out (Nat.le_refl _))) HA.out.size).mono ?_
                rintro e wb ⟨rfl, bb⟩
                have HF := Lib.hid (HBW.out.trans ((HA.out.trans (bb.mono HA.out.size)).mono (by omega)))
                clear bb
                go_wp2
                go_ret
                exact ⟨rfl, HF.out⟩
              · skip
                go_simp
                obtain ⟨A1, eA1⟩ : ∃ A, V0.heap.size = A := ⟨_, rfl⟩
                have EA1 := Lib.hid eA1
                have CC1 := Lib.hid (show (V0.alloc (.cells #[.int .i64 x0, .int .i64 x1, .int .i64 x2, .int .i64 x3] 28)).heap[A1]? = some (.cells #[.int .i64 x0, .int .i64 x1, .int .i64 x2, .int .i64 x3] 28 (0, 0)) from by subst eA1; exact heap_alloc_new V0 _)
                have OW1 := Lib.hid (show (V0.alloc (.cells #[.int .i64 x0, .int .i64 x1, .int .i64 x2, .int .i64 x3] 28)).ownsRow wr.heap.size 28 4 (.slice (some ⟨A0, 0, none⟩) 0 0) 0 ([]) from OW0.out.alloc _)
                have hne : A0 ≠ A1 := by have := (OW0.out.lt A0 rfl).2; omega
                have HB1x := Lib.hid (show Below wr.heap.size wr (V0.alloc (.cells #[.int .i64 x0, .int .i64 x1, .int .i64 x2, .int .i64 x3] 28)) from HB0x.out.alloc HB0x.out.size _)
                rw [eA1]
                clear eA1
                generalize V0.alloc (.cells #[.int .i64 x0, .int .i64 x1, .int .i64 x2, .int .i64 x3] 28) = V1 at OW1 HB1x CC1 ⊢
                refine hK.out _ _ ?_ (fun hHeld1 => ?_)
                · exact HB1x.out
                clear hK K
                try simp only [Act.put, List.setIfInBounds_toArray, List.set_cons_zero, List.set_cons_succ]
                refine wpAnyH_ready (rs := [6]) (by kernel_rfl) (by simp) ?_
                refine AllReadyH.cons (by simp only [List.getElem?_toArray, List.getElem?_cons_succ, List.getElem?_cons_zero]; exact rfl) (fun K hK => ?_) AllReadyH.nil
                have HN1 := Lib.hid (ld_news (W := V1) (b := b) (off := off) (n := j * 4) (F := Z0) (fun q hq => HC6.out _ HB1x.out q hq))
                refine st_append_g (by kernel_rfl) _ _ _ (by rfl) wr.heap.size 28 i0 _ 4 32 Try.underlying23 hi0 hz0 hz1 hz2 rfl (by omega) (.slice (some ⟨A0, 0, none⟩) 0 0) 0 [] (by rfl) OW1.out ⟨b, off, none⟩ j _ (nsV (fnL Z0 (j * 4))) (by rfl) (labs_len _ _) HN1.out (ld_one _ _) (by unfold maxLen; omega) (by omega) HB1x.out.size ?_
                intro v2' V2 hown hg _
                have OW2 := Lib.hid (show V2.ownsRow wr.heap.size 28 4 v2' j (nsV (fnL Z0 (j * 4))) by simpa using hown)
                have HB2x := Lib.hid (HB1x.out.grown hg HB1x.out.size (fun q hq => (OW1.out.lt q hq).1))
                have CC2 := Lib.hid ((hg.block A1 (lt_of_block CC1.out) (by simp only [Value.ownBlock, ne_eq, Option.some.injEq]; omega)).trans CC1.out)
                clear hown hg HN1
                refine hK.out _ _ ?_ (fun hHeld2 => ?_)
                · exact HB2x.out
                clear hK K
                try simp only [Act.put, List.setIfInBounds_toArray, List.set_cons_zero, List.set_cons_succ]
                refine wpAnyH_ready (rs := [16]) (by kernel_rfl) (by simp) ?_
                refine AllReadyH.cons (by simp only [List.getElem?_toArray, List.getElem?_cons_succ, List.getElem?_cons_zero]; exact rfl) (fun K hK => ?_) AllReadyH.nil
                refine st_append_g (by kernel_rfl) _ _ _ (by rfl) wr.heap.size 28 i0 _ 4 32 Try.underlying23 hi0 hz0 hz1 hz2 rfl (by omega) (v2') j (nsV (fnL Z0 (j * 4))) (by rfl) OW2.out ⟨A1, 0, none⟩ 1 _ [.int .i64 x0, .int .i64 x1, .int .i64 x2, .int .i64 x3] (by rfl) rfl (World.news_of_block (cs := #[.int .i64 x0, .int .i64 x1, .int .i64 x2, .int .i64 x3]) CC2.out) (by simp [Value.oneCell']) (by unfold maxLen; omega) (by omega) HB2x.out.size ?_
                intro v3' V3 hown hg _
                have HRD := Lib.hid ((labs_four hown).owT HZR.out).rd
                have HB3x := Lib.hid (HB2x.out.grown hg HB2x.out.size (fun q hq => (OW2.out.lt q hq).1))
                clear hown hg
                refine hK.out _ _ ?_ (fun hHeld3 => ?_)
                · exact HB3x.out
                clear hK K
                try simp only [Act.put, List.setIfInBounds_toArray, List.set_cons_zero, List.set_cons_succ]
                refine wpAnyH_ready (rs := [17]) (by kernel_rfl) (by simp) ?_
                refine AllReadyH.cons (by simp only [List.getElem?_toArray, List.getElem?_cons_succ, List.getElem?_cons_zero]; exact rfl) (fun K hK => ?_) AllReadyH.nil
                go_simp
                go_at_call 14
                refine (implLs_no _ 0 V3.heap.size (j + 1) _ _ (HRD.out.mono (Nat.zero_le _) (Nat.le_refl _)) (Nat.le_refl _) (by omega) HTW.out).mono ?_
                rintro e V4 ⟨rfl, bE⟩
                have HB4x := Lib.hid (show Below wr.heap.size wr V4 from HB3x.out.trans (bE.mono HB3x.out.size))
                clear bE
                go_wp2_with fail
                refine hK.out _ _ ?_ (fun hHeld4 => ?_)
                · exact HB4x.out
                clear hK K
                try simp only [Act.put, List.setIfInBounds_toArray, List.set_cons_zero, List.set_cons_succ]
                refine wpAnyH_take (i := 18) (v := ?_) (by simp only [List.getElem?_toArray, List.getElem?_cons_succ, List.getElem?_cons_zero]; exact rfl) (by kernel_rfl) (by kernel_rfl) (by kernel_rfl) (by exact fun _ _ _ h => h) (Or.inl ⟨by rfl, ?_⟩) (by assumption) ?_
                rotate_left
                · intro w hSw; (try dsimp only at hSw); go_simp; try with_reducible rfl
                try simp only [Act.put, List.setIfInBounds_toArray, List.set_cons_zero, List.set_cons_succ]
                refine wpAnyH_done (by kernel_rfl) ?_ _
                go_wp2_with fail
                refine (HYP.out _ w3.heap.size (HPC.out _ (HB4.out.trans (HB4x.out.mono (by omega)))) (by have := HB4x.out.size; omega)).mono ?_
                rintro e wa ⟨rfl, ba⟩
                have HA := Lib.hid (show Below wr.heap.size wr wa from HB4x.out.trans (ba.mono HB4x.out.size))
                clear ba
                go_wp2_with fail
                refine (HWN.out _ w3.heap.size _ _ S0 wr.heap.size (HPC.out _ (HB4.out.trans (HA.out.mono (by omega)))) (by have := HA.out.size; omega) (HNI.out.same (SameIn.below HA.out (Nat.le_refl _))) HA.out.size).mono ?_
                rintro e wb ⟨rfl, bb⟩
                have HF := Lib.hid (HBW.out.trans ((HA.out.trans (bb.mono HA.out.size)).mono (by omega)))
                clear bb
                go_wp2
                go_ret
                exact ⟨rfl, HF.out⟩
            · skip
              go_simp
              obtain ⟨A0, eA0⟩ : ∃ A, wr.heap.size = A := ⟨_, rfl⟩
              have EA0 := Lib.hid eA0
              have CC0 := Lib.hid (show ((wr.alloc (.cells #[.int .i64 x0, .int .i64 x1, .int .i64 x2, .int .i64 x3] 28)).drew).heap[A0]? = some (.cells #[.int .i64 x0, .int .i64 x1, .int .i64 x2, .int .i64 x3] 28 (0, 0)) from by subst eA0; exact heap_alloc_new wr _)
              have HB0x := Lib.hid (show Below wr.heap.size wr ((wr.alloc (.cells #[.int .i64 x0, .int .i64 x1, .int .i64 x2, .int .i64 x3] 28)).drew) from below_drewN ((Below.refl _ _).alloc (Nat.le_refl _) _) 1)
              rw [eA0]
              clear eA0
              generalize (wr.alloc (.cells #[.int .i64 x0, .int .i64 x1, .int .i64 x2, .int .i64 x3] 28)).drew = V0 at HB0x CC0 ⊢
              refine hK.out _ _ ?_ (fun hHeld0 => ?_)
              · exact HB0x.out
              clear hK K
              try simp only [Act.put, List.setIfInBounds_toArray, List.set_cons_zero, List.set_cons_succ]
              refine wpAnyH_ready (rs := [4]) (by kernel_rfl) (by simp) ?_
              refine AllReadyH.cons (by simp only [List.getElem?_toArray, List.getElem?_cons_succ, List.getElem?_cons_zero]; exact rfl) (fun K hK => ?_) AllReadyH.nil
              go_simp
              obtain ⟨A1, eA1⟩ : ∃ A, V0.heap.size = A := ⟨_, rfl⟩
              have EA1 := Lib.hid eA1
              have OW1 := Lib.hid (show (V0.alloc (.cells #[] 28)).ownsRow wr.heap.size 28 4 (.slice (some ⟨A1, 0, none⟩) 0 0) 0 [] from by subst eA1; exact ownsRow_base (show (V0.alloc (.cells #[] 28)).ownsRow V0.heap.size 28 4 (.slice (some ⟨V0.heap.size, 0, none⟩) 0 0) 0 [] from labs_lit V0 Z0) HB0x.out.size)
              have CC1 := Lib.hid (show (V0.alloc (.cells #[] 28)).heap[A0]? = some (.cells #[.int .i64 x0, .int .i64 x1, .int .i64 x2, .int .i64 x3] 28 (0, 0)) from (Below.heap_alloc V0 _ A0 (lt_of_block CC0.out)).trans CC0.out)
              have hne : A1 ≠ A0 := by have := lt_of_block CC0.out; omega
              have HB1x := Lib.hid (show Below wr.heap.size wr (V0.alloc (.cells #[] 28)) from HB0x.out.alloc HB0x.out.size _)
              rw [eA1]
              clear eA1
              generalize V0.alloc (.cells #[] 28) = V1 at OW1 HB1x CC1 ⊢
              refine hK.out _ _ ?_ (fun hHeld1 => ?_)
              · exact HB1x.out
              clear hK K
              try simp only [Act.put, List.setIfInBounds_toArray, List.set_cons_zero, List.set_cons_succ]
              refine wpAnyH_ready (rs := [6]) (by kernel_rfl) (by simp) ?_
              refine AllReadyH.cons (by simp only [List.getElem?_toArray, List.getElem?_cons_succ, List.getElem?_cons_zero]; exact rfl) (fun K hK => ?_) AllReadyH.nil
              have HN1 := Lib.hid (ld_news (W := V1) (b := b) (off := off) (n := j * 4) (F := Z0) (fun q hq => HC6.out _ HB1x.out q hq))
              refine st_append_g (by kernel_rfl) _ _ _ (by rfl) wr.heap.size 28 i0 _ 4 32 Try.underlying23 hi0 hz0 hz1 hz2 rfl (by omega) (.slice (some ⟨A1, 0, none⟩) 0 0) 0 [] (by rfl) OW1.out ⟨b, off, none⟩ j _ (nsV (fnL Z0 (j * 4))) (by rfl) (labs_len _ _) HN1.out (ld_one _ _) (by unfold maxLen; omega) (by omega) HB1x.out.size ?_
              intro v2' V2 hown hg _
              have OW2 := Lib.hid (show V2.ownsRow wr.heap.size 28 4 v2' j (nsV (fnL Z0 (j * 4))) by simpa using hown)
              have HB2x := Lib.hid (HB1x.out.grown hg HB1x.out.size (fun q hq => (OW1.out.lt q hq).1))
              have CC2 := Lib.hid ((hg.block A0 (lt_of_block CC1.out) (by simp only [Value.ownBlock, ne_eq, Option.some.injEq]; omega)).trans CC1.out)
              clear hown hg HN1
              refine hK.out _ _ ?_ (fun hHeld2 => ?_)
              · exact HB2x.out
              clear hK K
              try simp only [Act.put, List.setIfInBounds_toArray, List.set_cons_zero, List.set_cons_succ]
              refine wpAnyH_ready (rs := [16]) (by kernel_rfl) (by simp) ?_
              refine AllReadyH.cons (by simp only [List.getElem?_toArray, List.getElem?_cons_succ, List.getElem?_cons_zero]; exact rfl) (fun K hK => ?_) AllReadyH.nil
              refine st_append_g (by kernel_rfl) _ _ _ (by rfl) wr.heap.size 28 i0 _ 4 32 Try.underlying23 hi0 hz0 hz1 hz2 rfl (by omega) (v2') j (nsV (fnL Z0 (j * 4))) (by rfl) OW2.out ⟨A0, 0, none⟩ 1 _ [.int .i64 x0, .int .i64 x1, .int .i64 x2, .int .i64 x3] (by rfl) rfl (World.news_of_block (cs := #[.int .i64 x0, .int .i64 x1, .int .i64 x2, .int .i64 x3]) CC2.out) (by simp [Value.oneCell']) (by unfold maxLen; omega) (by omega) HB2x.out.size ?_
              intro v3' V3 hown hg _
              have HRD := Lib.hid ((labs_four hown).owT HZR.out).rd
              have HB3x := Lib.hid (HB2x.out.grown hg HB2x.out.size (fun q hq => (OW2.out.lt q hq).1))
              clear hown hg
              refine hK.out _ _ ?_ (fun hHeld3 => ?_)
              · exact HB3x.out
              clear hK K
              try simp only [Act.put, List.setIfInBounds_toArray, List.set_cons_zero, List.set_cons_succ]
              refine wpAnyH_ready (rs := [17]) (by kernel_rfl) (by simp) ?_
              refine AllReadyH.cons (by simp only [List.getElem?_toArray, List.getElem?_cons_succ, List.getElem?_cons_zero]; exact rfl) (fun K hK => ?_) AllReadyH.nil
              go_simp
              go_at_call 14
              refine (implLs_no _ 0 V3.heap.size (j + 1) _ _ (HRD.out.mono (Nat.zero_le _) (Nat.le_refl _)) (Nat.le_refl _) (by omega) HTW.out).mono ?_
              rintro e V4 ⟨rfl, bE⟩
              have HB4x := Lib.hid (show Below wr.heap.size wr V4 from HB3x.out.trans (bE.mono HB3x.out.size))
              clear bE
              go_wp2_with fail
              refine hK.out _ _ ?_ (fun hHeld4 => ?_)
              · exact HB4x.out
              clear hK K
              try simp only [Act.put, List.setIfInBounds_toArray, List.set_cons_zero, List.set_cons_succ]
              refine wpAnyH_take (i := 18) (v := ?_) (by simp only [List.getElem?_toArray, List.getElem?_cons_succ, List.getElem?_cons_zero]; exact rfl) (by kernel_rfl) (by kernel_rfl) (by kernel_rfl) (by exact fun _ _ _ h => h) (Or.inl ⟨by rfl, ?_⟩) (by assumption) ?_
              rotate_left
              · intro w hSw; (try dsimp only at hSw); go_simp; try with_reducible rfl
              try simp only [Act.put, List.setIfInBounds_toArray, List.set_cons_zero, List.set_cons_succ]
              refine wpAnyH_done (by kernel_rfl) ?_ _
              go_wp2_with fail
              refine (HYP.out _ w3.heap.size (HPC.out _ (HB4.out.trans (HB4x.out.mono (by omega)))) (by have := HB4x.out.size; omega)).mono ?_
              rintro e wa ⟨rfl, ba⟩
              have HA := Lib.hid (show Below wr.heap.size wr wa from HB4x.out.trans (ba.mono HB4x.out.size))
              clear ba
              go_wp2_with fail
              refine (HWN.out _ w3.heap.size _ _ S0 wr.heap.size (HPC.out _ (HB4.out.trans (HA.out.mono (by omega)))) (by have := HA.out.size; omega) (HNI.out.same (SameIn.below HA.out (Nat.le_refl _))) HA.out.size).mono ?_
              rintro e wb ⟨rfl, bb⟩
              have HF := Lib.hid (HBW.out.trans ((HA.out.trans (bb.mono HA.out.size)).mono (by omega)))
              clear bb
              go_wp2
              go_ret
              exact ⟨rfl, HF.out⟩
end Go.Proofs.Ythelaffjpmcdbaa
