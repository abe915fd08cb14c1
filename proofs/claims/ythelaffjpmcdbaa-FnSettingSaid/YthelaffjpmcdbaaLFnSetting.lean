/- The law FnSetting of the promises: its walk. -/
import Derived.Test.YthelaffjpmcdbaaSwI
namespace Go.Proofs.Ythelaffjpmcdbaa
open Go.RowKit
set_option linter.unusedVariables false
set_option linter.unusedSimpArgs false

set_option maxHeartbeats 4000000 in
set_option maxRecDepth 100000 in
theorem law_FnSetting (v : Value) (n : Nat) (w : World) (hv : RdB w.heap.size w v n) : Calls Try.prog 4 #[v] w (LawPost w) := by
  have HD := Lib.hid (draw_DrawSettingValid v n w.heap.size w hv (Nat.le_refl _))
  obtain ⟨ao, cap, cb, off, Z, rfl, hc1, hc2, _⟩ := hv
  by_cases hn : 1048576 < n
  · have hn' : (1048576 : Int) < n := by omega
    go_enter Try.func4, Try.ntmps4
    go_wp2
    go_ret
    exact ⟨rfl, Below.refl _ _⟩
  · have hn' : ¬ (1048576 : Int) < n := by omega
    go_enter Try.func4, Try.ntmps4
    go_wp2_with fail
    refine HD.out.mono ?_
    rintro e w1 ⟨b, cp, n0, Z0, b2, cp2, D0, rfl, hm, hd, hn7, hz7, hd7, bw1⟩
    have R_p := Lib.hid hm
    have R_d := Lib.hid hd
    clear hm hd HD
    have sw1 : w.heap.size ≤ w1.heap.size := bw1.size
    have BL := Lib.hid bw1
    clear bw1
    by_cases hok : StOk n0 Z0 n0 D0
    case neg =>
      go_wp2_with fail
      refine (implSv_no _ w1.heap.size n0 Z0 _ 0 w1.heap.size n0 D0 _ (R_p.out.mono (Nat.zero_le _) (by omega)) (Nat.le_refl _) (by omega) (by omega) hok (R_d.out.mono (Nat.zero_le _) (by omega)) (Nat.le_refl _)).mono ?_
      rintro e w2 ⟨rfl, bw2⟩
      have sw2 : w1.heap.size ≤ w2.heap.size := bw2.size
      have L_1 := Lib.hid (R_p.out.same (SameIn.below bw2 (by omega)))
      clear R_p
      have L_2 := Lib.hid (R_d.out.same (SameIn.below bw2 (by omega)))
      clear R_d
      have BL_3 := Lib.hid (BL.out.trans (bw2.mono (by omega)))
      clear BL bw2
      go_wp2_with fail
      refine (specSv_no _ 0 w2.heap.size n0 Z0 _ 0 w2.heap.size n0 D0 _ (L_1.out.mono (Nat.zero_le _) (by omega)) (Nat.le_refl _) (by omega) (by omega) hok (L_2.out.mono (Nat.zero_le _) (by omega)) (Nat.le_refl _)).mono ?_
      rintro e w3 ⟨rfl, bw3⟩
      have sw3 : w2.heap.size ≤ w3.heap.size := bw3.size
      have L_4 := Lib.hid (L_1.out.same (SameIn.below bw3 (by omega)))
      clear L_1
      have L_5 := Lib.hid (L_2.out.same (SameIn.below bw3 (by omega)))
      clear L_2
      have BL_6 := Lib.hid (BL_3.out.trans (bw3.mono (by omega)))
      clear BL_3 bw3
      go_wp2
      go_ret
      exact ⟨rfl, BL_6.out⟩
    case pos =>
      have hls := hok.1
      have hn6 := hls.1
      obtain ⟨i0', hi00, hz00, hz10, hz20⟩ := info_parts Try.infoI
      have HI := Lib.hid (fun (W : World) (hi' : Nat) (v v2 : Value) (lo2 hi2 : Nat) (h : RdT 0 hi' W v n0 Z0) (hh : hi' ≤ W.heap.size) (h2 : RdI lo2 hi2 W v2 n0 D0) (hh2 : hi2 ≤ W.heap.size) => implSv_yes v hi' n0 Z0 v2 lo2 hi2 D0 W h hh hok h2 hh2)
      have HS := Lib.hid (fun (W : World) (hi' : Nat) (v v2 : Value) (lo2 hi2 : Nat) (h : RdT 0 hi' W v n0 Z0) (hh : hi' ≤ W.heap.size) (h2 : RdI lo2 hi2 W v2 n0 D0) (hh2 : hi2 ≤ W.heap.size) => specSv_yes v 0 hi' n0 Z0 v2 lo2 hi2 D0 W h hh hok h2 hh2)
      have HLE := Lib.hid (fun (k : Nat) (W : World) (hi' : Nat) (v v2 : Value) (lo2 hi2 : Nat) (h : RdT 0 hi' W v n0 Z0) (hh : hi' ≤ W.heap.size) (h2 : RdI lo2 hi2 W v2 n0 (setZ D0 k (-1))) (hh2 : hi2 ≤ W.heap.size) => implSv_yes v hi' n0 Z0 v2 lo2 hi2 _ W h hh (less_ok hok k) h2 hh2)
      have HLP := Lib.hid (fun (i : Nat) (hi : i < n0) (W : World) => by
        have h1 := implLabelPlaces_any (Z0 (i * 4)) (Z0 (i * 4 + 1)) (Z0 (i * 4 + 2)) (Z0 (i * 4 + 3)) (D0 i) W
        rw [(lp_is hok hi).1, (lp_is hok hi).2] at h1
        exact h1)
      have HLR := Lib.hid (fun q (hq : q < n0 * 4) => ls_range hls q hq)
      have HNE := Lib.hid (fun (i k : Nat) (hi : i < n0) (hk : k < mmN Z0 D0 i) => us_new hok hi hk)
      have HUL := Lib.hid (fun (i : Nat) (hi : i ≤ n0) => us_len hok i hi)
      have HUK := Lib.hid (fun (i k : Nat) (hi : i < n0) (hk : k ≤ mmN Z0 D0 i) => us_ok hok hi hk)
      have HML := Lib.hid (fun (i : Nat) (hi : i < n0) => mm_le hok hi)
      have HPP := Lib.hid (fun (i : Nat) (hi : i < n0) (h0 : 0 < mmN Z0 D0 i) => pp_range hok hi h0)
      have HDM := Lib.hid (fun k (hk : k < n0) => show -1 ≤ D0 k ∧ D0 k ≤ 3 from by
        obtain ⟨M, hM⟩ := hok.2.2
        exact alK_range n0 M hM k hk)
      have HU0 := Lib.hid (show usL Z0 D0 n0 0 = fnL (ptI Z0) n0 from rfl)
      have HUS := Lib.hid (fun i => show usL Z0 D0 n0 (i + 1) = usL Z0 D0 n0 i ++ plK (ppI Z0 D0 i) (mmN Z0 D0 i) from rfl)
      obtain ⟨US, eUS⟩ : ∃ f, usL Z0 D0 n0 = f := ⟨_, rfl⟩
      obtain ⟨pp, epp⟩ : ∃ f, ppI Z0 D0 = f := ⟨_, rfl⟩
      obtain ⟨mm, emm⟩ : ∃ f, mmN Z0 D0 = f := ⟨_, rfl⟩
      simp only [eUS, epp, emm] at HLP HNE HUL HUK HML HPP HU0 HUS
      clear hok hls eUS epp emm hz7 hd7
      go_wp2_with fail
      refine (HI.out _ w1.heap.size _ _ 0 w1.heap.size (R_p.out.mono (Nat.zero_le _) (by omega)) (Nat.le_refl _) (R_d.out.mono (Nat.zero_le _) (by omega)) (Nat.le_refl _)).mono ?_
      rintro e w2 ⟨rfl, bw2⟩
      have sw2 : w1.heap.size ≤ w2.heap.size := bw2.size
      have L_1 := Lib.hid (R_p.out.same (SameIn.below bw2 (by omega)))
      clear R_p
      have L_2 := Lib.hid (R_d.out.same (SameIn.below bw2 (by omega)))
      clear R_d
      have BL_3 := Lib.hid (BL.out.trans (bw2.mono (by omega)))
      clear BL bw2
      go_wp2_with fail
      refine (HS.out _ w2.heap.size _ _ 0 w2.heap.size (L_1.out.mono (Nat.zero_le _) (by omega)) (Nat.le_refl _) (L_2.out.mono (Nat.zero_le _) (by omega)) (Nat.le_refl _)).mono ?_
      rintro e w3 ⟨rfl, bw3⟩
      have sw3 : w2.heap.size ≤ w3.heap.size := bw3.size
      have L_4 := Lib.hid (L_1.out.same (SameIn.below bw3 (by omega)))
      clear L_1
      have L_5 := Lib.hid (L_2.out.same (SameIn.below bw3 (by omega)))
      clear L_2
      have BL_6 := Lib.hid (BL_3.out.trans (bw3.mono (by omega)))
      clear BL_3 bw3
      have HPC := Lib.hid (fun (W : World) (hb : Below w3.heap.size w3 W) => (L_4.out.same (SameIn.below hb (by omega))).mono (Nat.zero_le _) (show _ ≤ w3.heap.size by omega))
      have HDC := Lib.hid (fun (W : World) (hb : Below w3.heap.size w3 W) => (L_5.out.same (SameIn.below hb (by omega))).mono (Nat.zero_le _) (show _ ≤ w3.heap.size by omega))
      have HZC := Lib.hid (fun (W : World) (hb : Below w3.heap.size w3 W) (i : Nat) (hi : i < n0) => show (W.cell? ⟨b, i * 4, none⟩ = some (.int .i64 (Z0 (i * 4))) ∧ W.cell? ⟨b, i * 4 + 1, none⟩ = some (.int .i64 (Z0 (i * 4 + 1))) ∧ W.cell? ⟨b, i * 4 + 2, none⟩ = some (.int .i64 (Z0 (i * 4 + 2))) ∧ W.cell? ⟨b, i * 4 + 3, none⟩ = some (.int .i64 (Z0 (i * 4 + 3)))) from ⟨((HPC.out W hb).field (by omega)).1, ((HPC.out W hb).field (by omega)).1, ((HPC.out W hb).field (by omega)).1, ((HPC.out W hb).field (by omega)).1⟩)
      obtain ⟨S0, eS0⟩ : ∃ S0, w3.heap.size = S0 := ⟨_, rfl⟩
      have ES0 := Lib.hid eS0
      have HN0 := Lib.hid (show Nums S0 (w3.alloc (.cells #[] 3)) (.slice (some ⟨S0, 0, none⟩) 0 0) (fnL (ptI Z0) 0) from by subst eS0; exact nums_lit w3)
      have HB0 := Lib.hid (show Below w3.heap.size w3 (w3.alloc (.cells #[] 3)) from (Below.refl _ _).alloc (Nat.le_refl _) _)
      go_wp2
      go_loopw [7, 8] (fun x c' wr => ∃ (i : Nat) (v : Value), i ≤ n0 ∧ v = x ∧ c' = .int .i64 i ∧ Nums S0 wr v (fnL (ptI Z0) i) ∧ S0 ≤ wr.heap.size ∧ Below w3.heap.size w3 wr) (fun _ c' _ => n0 - (intOf c').toNat)
      case atStart => exact ⟨0, _, Nat.zero_le _, rfl, rfl, HN0.out, by rw [World.size_alloc]; have := ES0.out; omega, HB0.out⟩
      case round =>
        clear HN0 HB0
        obtain ⟨i, vx, hi, rfl, rfl, hnu, hs3, hb⟩ := hrel
        have HB4 := Lib.hid hb
        have HNU := Lib.hid hnu
        have hsz4 := hb.size
        clear hb hnu
        by_cases hlk : i < n0
        · have hlk' : (i : Int) < n0 := by omega
          have hl1 := cp_len (ptI Z0) i
          have HOW := Lib.hid (nums_own HNU.out)
          have HPT := Lib.hid (show ptI Z0 i = 10 * Z0 (i * 4 + 1) + Z0 (i * 4) from rfl)
          have HC4 := Lib.hid (fun (W : World) (hb : Below w3.heap.size w3 W) => HZC.out W hb i hlk)
          have r0 := HLR.out (i * 4) (by omega)
          have r1 := HLR.out (i * 4 + 1) (by omega)
          have hpb := ((HPC.out wr HB4.out).field (j := i * 4 + 3) (by omega)).2
          obtain ⟨x0, ex0⟩ : ∃ x, Z0 (i * 4) = x := ⟨_, rfl⟩
          obtain ⟨x1, ex1⟩ : ∃ x, Z0 (i * 4 + 1) = x := ⟨_, rfl⟩
          rw [ex0, ex1] at HPT
          simp only [ex0, ex1] at HC4
          rw [ex0] at r0
          rw [ex1] at r1
          clear ex0 ex1
          have hw1 : IntKind.i64.wrap (10 * x1) = 10 * x1 := IntWalk.i64_in _ (by omega)
          have hw2 : IntKind.i64.wrap (10 * x1 + x0) = 10 * x1 + x0 := IntWalk.i64_in _ (by omega)
          go_wp2_with fail
          refine wp_region_held_drew (S := (fun w' => Below w3.heap.size w3 w')) (by kernel_rfl) ?_ (fun hHeld => ?_)
          · first | exact HB4.out | exact HB4.out.drew
          refine wpAnyH_take (i := 0) (v := ?_) (by simp only [List.getElem?_toArray, List.getElem?_cons_succ, List.getElem?_cons_zero]; exact rfl) (by kernel_rfl) (by kernel_rfl) (by kernel_rfl) (by exact fun _ _ _ h => h) (Or.inl ⟨by rfl, ?_⟩) (by assumption) ?_
          rotate_left
          · intro w hSw; (try dsimp only at hSw); go_simp; try with_reducible rfl
          try simp only [Act.put, List.setIfInBounds_toArray, List.set_cons_zero, List.set_cons_succ]
          refine wpAnyH_take (i := 1) (v := ?_) (by simp only [List.getElem?_toArray, List.getElem?_cons_succ, List.getElem?_cons_zero]; exact rfl) (by kernel_rfl) (by kernel_rfl) (by kernel_rfl) (by exact fun _ _ _ h => h) (Or.inl ⟨by rfl, ?_⟩) (by assumption) ?_
          rotate_left
          · intro w hSw; (try dsimp only at hSw); go_simp; try with_reducible rfl
          try simp only [Act.put, List.setIfInBounds_toArray, List.set_cons_zero, List.set_cons_succ]
          refine wpAnyH_take (i := 2) (v := ?_) (by simp only [List.getElem?_toArray, List.getElem?_cons_succ, List.getElem?_cons_zero]; exact rfl) (by kernel_rfl) (by kernel_rfl) (by kernel_rfl) (by exact fun _ _ _ h => h) (Or.inl ⟨by rfl, ?_⟩) (by assumption) ?_
          rotate_left
          · intro w hSw; (try dsimp only at hSw); go_simp; try with_reducible rfl
          try simp only [Act.put, List.setIfInBounds_toArray, List.set_cons_zero, List.set_cons_succ]
          refine wpAnyH_take (i := 3) (v := ?_) (by simp only [List.getElem?_toArray, List.getElem?_cons_succ, List.getElem?_cons_zero]; exact rfl) (by kernel_rfl) (by kernel_rfl) (by kernel_rfl) (by exact fun _ _ _ h => h) (Or.inl ⟨by rfl, ?_⟩) (by assumption) ?_
          rotate_left
          · intro w hSw; (try dsimp only at hSw); go_simp; try with_reducible rfl
          try simp only [Act.put, List.setIfInBounds_toArray, List.set_cons_zero, List.set_cons_succ]
          refine wpAnyH_take (i := 4) (v := ?_) (by simp only [List.getElem?_toArray, List.getElem?_cons_succ, List.getElem?_cons_zero]; exact rfl) (by kernel_rfl) (by kernel_rfl) (by kernel_rfl) (by exact fun _ _ _ h => h) (Or.inl ⟨by rfl, ?_⟩) (by assumption) ?_
          rotate_left
          · intro w hSw; (try dsimp only at hSw); go_simp; try with_reducible rfl
          try simp only [Act.put, List.setIfInBounds_toArray, List.set_cons_zero, List.set_cons_succ]
          refine wpAnyH_take (i := 5) (v := ?_) (by simp only [List.getElem?_toArray, List.getElem?_cons_succ, List.getElem?_cons_zero]; exact rfl) (by kernel_rfl) (by kernel_rfl) (by kernel_rfl) (by exact fun _ _ _ h => h) (Or.inl ⟨by rfl, ?_⟩) (by assumption) ?_
          rotate_left
          · intro w hSw; (try dsimp only at hSw); obtain ⟨c0, c1, c2, c3⟩ := HC4.out w hSw; go_simp; try with_reducible rfl
          try simp only [Act.put, List.setIfInBounds_toArray, List.set_cons_zero, List.set_cons_succ]
          refine wpAnyH_take (i := 6) (v := ?_) (by simp only [List.getElem?_toArray, List.getElem?_cons_succ, List.getElem?_cons_zero]; exact rfl) (by kernel_rfl) (by kernel_rfl) (by kernel_rfl) (by exact fun _ _ _ h => h) (Or.inl ⟨by rfl, ?_⟩) (by assumption) ?_
          rotate_left
          · intro w hSw; (try dsimp only at hSw); go_simp; try with_reducible rfl
          try simp only [Act.put, List.setIfInBounds_toArray, List.set_cons_zero, List.set_cons_succ]
          refine wpAnyH_take (i := 7) (v := ?_) (by simp only [List.getElem?_toArray, List.getElem?_cons_succ, List.getElem?_cons_zero]; exact rfl) (by kernel_rfl) (by kernel_rfl) (by kernel_rfl) (by exact fun _ _ _ h => h) (Or.inl ⟨by rfl, ?_⟩) (by assumption) ?_
          rotate_left
          · intro w hSw; (try dsimp only at hSw); go_simp; try with_reducible rfl
          try simp only [Act.put, List.setIfInBounds_toArray, List.set_cons_zero, List.set_cons_succ]
          refine wpAnyH_take (i := 8) (v := ?_) (by simp only [List.getElem?_toArray, List.getElem?_cons_succ, List.getElem?_cons_zero]; exact rfl) (by kernel_rfl) (by kernel_rfl) (by kernel_rfl) (by exact fun _ _ _ h => h) (Or.inl ⟨by rfl, ?_⟩) (by assumption) ?_
          rotate_left
          · intro w hSw; (try dsimp only at hSw); go_simp; try with_reducible rfl
          try simp only [Act.put, List.setIfInBounds_toArray, List.set_cons_zero, List.set_cons_succ]
          refine wpAnyH_take (i := 9) (v := ?_) (by simp only [List.getElem?_toArray, List.getElem?_cons_succ, List.getElem?_cons_zero]; exact rfl) (by kernel_rfl) (by kernel_rfl) (by kernel_rfl) (by exact fun _ _ _ h => h) (Or.inl ⟨by rfl, ?_⟩) (by assumption) ?_
          rotate_left
          · intro w hSw; (try dsimp only at hSw); go_simp; try with_reducible rfl
          try simp only [Act.put, List.setIfInBounds_toArray, List.set_cons_zero, List.set_cons_succ]
          refine wpAnyH_take (i := 10) (v := ?_) (by simp only [List.getElem?_toArray, List.getElem?_cons_succ, List.getElem?_cons_zero]; exact rfl) (by kernel_rfl) (by kernel_rfl) (by kernel_rfl) (by exact fun _ _ _ h => h) (Or.inl ⟨by rfl, ?_⟩) (by assumption) ?_
          rotate_left
          · intro w hSw; (try dsimp only at hSw); go_simp; try with_reducible rfl
          try simp only [Act.put, List.setIfInBounds_toArray, List.set_cons_zero, List.set_cons_succ]
          refine wpAnyH_take (i := 11) (v := ?_) (by simp only [List.getElem?_toArray, List.getElem?_cons_succ, List.getElem?_cons_zero]; exact rfl) (by kernel_rfl) (by kernel_rfl) (by kernel_rfl) (by exact fun _ _ _ h => h) (Or.inl ⟨by rfl, ?_⟩) (by assumption) ?_
          rotate_left
          · intro w hSw; (try dsimp only at hSw); obtain ⟨c0, c1, c2, c3⟩ := HC4.out w hSw; go_simp; try with_reducible rfl
          try simp only [Act.put, List.setIfInBounds_toArray, List.set_cons_zero, List.set_cons_succ]
          refine wpAnyH_take (i := 12) (v := ?_) (by simp only [List.getElem?_toArray, List.getElem?_cons_succ, List.getElem?_cons_zero]; exact rfl) (by kernel_rfl) (by kernel_rfl) (by kernel_rfl) (by exact fun _ _ _ h => h) (Or.inl ⟨by rfl, ?_⟩) (by assumption) ?_
          rotate_left
          · intro w hSw; (try dsimp only at hSw); go_simp; try with_reducible rfl
          try simp only [Act.put, List.setIfInBounds_toArray, List.set_cons_zero, List.set_cons_succ]
          refine wpAnyH_ready (rs := [13]) (by kernel_rfl) (by simp) ?_
          refine AllReadyH.cons (by simp only [List.getElem?_toArray, List.getElem?_cons_succ, List.getElem?_cons_zero]; exact rfl) (fun K hK => ?_) AllReadyH.nil
          go_simp
          have HC1 := Lib.hid (show ((wr.alloc (.cells #[.int .i64 (10 * x1 + x0)] 3)).drew).heap[wr.heap.size]? = some (.cells #[.int .i64 (10 * x1 + x0)] 3 (0, 0)) from heap_alloc_new wr _)
          have HO1 := Lib.hid (show ((wr.alloc (.cells #[.int .i64 (10 * x1 + x0)] 3)).drew).ownsRow S0 3 1 vx i (nsV (fnL (ptI Z0) i)) from HOW.out.alloc _)
          have HB5 := Lib.hid (show Below w3.heap.size w3 ((wr.alloc (.cells #[.int .i64 (10 * x1 + x0)] 3)).drew) from (HB4.out.alloc hsz4 _).drew)
          have hsA : wr.heap.size < ((wr.alloc (.cells #[.int .i64 (10 * x1 + x0)] 3)).drew).heap.size := lt_of_block HC1.out
          generalize (wr.alloc (.cells #[.int .i64 (10 * x1 + x0)] 3)).drew = V1 at HC1 HO1 HB5 hsA ⊢
          refine hK.out _ _ ?_ (fun hHeld2 => ?_)
          · exact HB5.out
          clear hK K
          try simp only [Act.put, List.setIfInBounds_toArray, List.set_cons_zero, List.set_cons_succ]
          refine wpAnyH_ready (rs := [14]) (by kernel_rfl) (by simp) ?_
          refine AllReadyH.cons (by simp only [List.getElem?_toArray, List.getElem?_cons_succ, List.getElem?_cons_zero]; exact rfl) (fun K hK => ?_) AllReadyH.nil
          refine st_append_g (by kernel_rfl) _ _ _ (by rfl) S0 3 i0' (.int .i64 0) 1 8 Try.underlying26 hi00 hz00 hz10 hz20 rfl (by decide) vx i (nsV (fnL (ptI Z0) i)) (by rfl) HO1.out ⟨wr.heap.size, 0, none⟩ 1 _ [.int .i64 (10 * x1 + x0)] (by rfl) rfl (World.news_of_block (cs := #[.int .i64 (10 * x1 + x0)]) HC1.out) (by simp [Value.oneCell']) (by unfold maxLen; omega) (by omega) (by omega) ?_
          intro vy w5 hown hg _
          have HN5 := Lib.hid (nums_more hown HPT.out.symm)
          have HB6 := Lib.hid (show Below w3.heap.size w3 w5 from HB5.out.grown hg HB5.out.size (fun r hr => by have := (HO1.out.lt r hr).1; have := ES0.out; omega))
          have hs5 : S0 ≤ w5.heap.size := by have := hg.size; omega
          clear hown hg
          refine hK.out _ _ ?_ (fun hHeld3 => ?_)
          · exact HB6.out
          clear hK K
          try simp only [Act.put, List.setIfInBounds_toArray, List.set_cons_zero, List.set_cons_succ]
          refine wpAnyH_take (i := 15) (v := ?_) (by simp only [List.getElem?_toArray, List.getElem?_cons_succ, List.getElem?_cons_zero]; exact rfl) (by kernel_rfl) (by kernel_rfl) (by kernel_rfl) (by exact fun _ _ _ h => h) (Or.inl ⟨by rfl, ?_⟩) (by assumption) ?_
          rotate_left
          · intro w hSw; (try dsimp only at hSw); go_simp; try with_reducible rfl
          try simp only [Act.put, List.setIfInBounds_toArray, List.set_cons_zero, List.set_cons_succ]
          refine wpAnyH_done (by kernel_rfl) ?_ _
          clear hHeld hHeld2 hHeld3
          go_wp2
          go_roundw
          case rel => exact ⟨i + 1, _, by omega, rfl, by go_num, HN5.out, hs5, HB6.out⟩
          case measure => simp [intOf]; omega
        · have hlk' : ¬ (i : Int) < n0 := by omega
          obtain rfl : i = n0 := by omega
          rw [← HU0.out] at HNU
          go_wp2
          go_loopw [7, 9] (fun x c' wr => ∃ (q : Nat) (v : Value), q ≤ i ∧ v = x ∧ c' = .int .i64 q ∧ Nums S0 wr v (US q) ∧ S0 ≤ wr.heap.size ∧ Below w3.heap.size w3 wr) (fun _ c' _ => i - (intOf c').toNat)
          case atStart => exact ⟨0, _, Nat.zero_le _, rfl, rfl, HNU.out, hs3, HB4.out⟩
          case round =>
            clear HNU HB4 hs3 hsz4 hlk hlk'
            obtain ⟨q, vu, hq, rfl, rfl, hnu, hs3, hb⟩ := hrel
            have HB4 := Lib.hid hb
            have HNU := Lib.hid hnu
            have hsz4 := hb.size
            clear hb hnu
            by_cases hlq : q < i
            · have hlq' : (q : Int) < i := by omega
              have HC4 := Lib.hid (fun (W : World) (hb : Below w3.heap.size w3 W) => HZC.out W hb q hlq)
              have HCD := Lib.hid (fun (W : World) (hb : Below w3.heap.size w3 W) => show W.cell? ⟨b2, q, none⟩ = some (.int .i64 (D0 q)) from ((HDC.out W hb).num hlq).1)
              obtain ⟨_, hdb, hdc1, hdc2⟩ := (HDC.out wr HB4.out).num hlq
              have hpb := ((HPC.out wr HB4.out).field (j := q * 4 + 3) (by omega)).2
              obtain ⟨hcp1, hcp2⟩ := (HPC.out wr HB4.out).capT
              have HLQ := Lib.hid (fun (W : World) => HLP.out q hlq W)
              have HNQ := Lib.hid (fun k hk => HNE.out q k hlq hk)
              have HKQ := Lib.hid (fun k hk => HUK.out q k hlq hk)
              have HPQ := Lib.hid (HPP.out q hlq)
              have hml := HML.out q hlq
              have hul := HUL.out q (by omega)
              have HUQ := Lib.hid (HUS.out q)
              have hdm := HDM.out q hlq
              obtain ⟨x0, ex0⟩ : ∃ x, Z0 (q * 4) = x := ⟨_, rfl⟩
              obtain ⟨x1, ex1⟩ : ∃ x, Z0 (q * 4 + 1) = x := ⟨_, rfl⟩
              obtain ⟨x2, ex2⟩ : ∃ x, Z0 (q * 4 + 2) = x := ⟨_, rfl⟩
              obtain ⟨x3, ex3⟩ : ∃ x, Z0 (q * 4 + 3) = x := ⟨_, rfl⟩
              obtain ⟨d, ed⟩ : ∃ x, D0 q = x := ⟨_, rfl⟩
              obtain ⟨pb, epb⟩ : ∃ x, decide (0 ≤ d) = x := ⟨_, rfl⟩
              obtain ⟨p, ep⟩ : ∃ x, pp q = x := ⟨_, rfl⟩
              obtain ⟨m, em⟩ : ∃ x, mm q = x := ⟨_, rfl⟩
              obtain ⟨U, eU⟩ : ∃ x, US q = x := ⟨_, rfl⟩
              simp only [ex0, ex1, ex2, ex3, ed, epb, ep, em] at HLQ
              simp only [ex0, ex1, ex2, ex3] at HC4
              simp only [ed] at HCD
              rw [ed] at hdm
              simp only [em, ep, eU] at HNQ HKQ HPQ HUQ hml hul HNU
              have EPB := Lib.hid epb
              clear ex0 ex1 ex2 ex3 ed epb ep em eU
              go_wp2_with fail
              refine wp_region_held_drew (S := (fun w' => Below w3.heap.size w3 w')) (by kernel_rfl) ?_ (fun hHeld => ?_)
              · first | exact HB4.out | exact HB4.out.drew
              refine wpAnyH_take (i := 0) (v := ?_) (by simp only [List.getElem?_toArray, List.getElem?_cons_succ, List.getElem?_cons_zero]; exact rfl) (by kernel_rfl) (by kernel_rfl) (by kernel_rfl) (by exact fun _ _ _ h => h) (Or.inl ⟨by rfl, ?_⟩) (by assumption) ?_
              rotate_left
              · intro w hSw; (try dsimp only at hSw); go_simp; try with_reducible rfl
              try simp only [Act.put, List.setIfInBounds_toArray, List.set_cons_zero, List.set_cons_succ]
              refine wpAnyH_take (i := 1) (v := ?_) (by simp only [List.getElem?_toArray, List.getElem?_cons_succ, List.getElem?_cons_zero]; exact rfl) (by kernel_rfl) (by kernel_rfl) (by kernel_rfl) (by exact fun _ _ _ h => h) (Or.inl ⟨by rfl, ?_⟩) (by assumption) ?_
              rotate_left
              · intro w hSw; (try dsimp only at hSw); go_simp; try with_reducible rfl
              try simp only [Act.put, List.setIfInBounds_toArray, List.set_cons_zero, List.set_cons_succ]
              refine wpAnyH_take (i := 2) (v := ?_) (by simp only [List.getElem?_toArray, List.getElem?_cons_succ, List.getElem?_cons_zero]; exact rfl) (by kernel_rfl) (by kernel_rfl) (by kernel_rfl) (by exact fun _ _ _ h => h) (Or.inl ⟨by rfl, ?_⟩) (by assumption) ?_
              rotate_left
              · intro w hSw; (try dsimp only at hSw); go_simp; try with_reducible rfl
              try simp only [Act.put, List.setIfInBounds_toArray, List.set_cons_zero, List.set_cons_succ]
              refine wpAnyH_take (i := 3) (v := ?_) (by simp only [List.getElem?_toArray, List.getElem?_cons_succ, List.getElem?_cons_zero]; exact rfl) (by kernel_rfl) (by kernel_rfl) (by kernel_rfl) (by exact fun _ _ _ h => h) (Or.inl ⟨by rfl, ?_⟩) (by assumption) ?_
              rotate_left
              · intro w hSw; (try dsimp only at hSw); obtain ⟨c0, c1, c2, c3⟩ := HC4.out w hSw; go_simp; try with_reducible rfl
              try simp only [Act.put, List.setIfInBounds_toArray, List.set_cons_zero, List.set_cons_succ]
              refine wpAnyH_take (i := 4) (v := ?_) (by simp only [List.getElem?_toArray, List.getElem?_cons_succ, List.getElem?_cons_zero]; exact rfl) (by kernel_rfl) (by kernel_rfl) (by kernel_rfl) (by exact fun _ _ _ h => h) (Or.inl ⟨by rfl, ?_⟩) (by assumption) ?_
              rotate_left
              · intro w hSw; (try dsimp only at hSw); go_simp; try with_reducible rfl
              try simp only [Act.put, List.setIfInBounds_toArray, List.set_cons_zero, List.set_cons_succ]
              refine wpAnyH_take (i := 5) (v := ?_) (by simp only [List.getElem?_toArray, List.getElem?_cons_succ, List.getElem?_cons_zero]; exact rfl) (by kernel_rfl) (by kernel_rfl) (by kernel_rfl) (by exact fun _ _ _ h => h) (Or.inl ⟨by rfl, ?_⟩) (by assumption) ?_
              rotate_left
              · intro w hSw; (try dsimp only at hSw); go_simp; try with_reducible rfl
              try simp only [Act.put, List.setIfInBounds_toArray, List.set_cons_zero, List.set_cons_succ]
              refine wpAnyH_take (i := 6) (v := ?_) (by simp only [List.getElem?_toArray, List.getElem?_cons_succ, List.getElem?_cons_zero]; exact rfl) (by kernel_rfl) (by kernel_rfl) (by kernel_rfl) (by exact fun _ _ _ h => h) (Or.inl ⟨by rfl, ?_⟩) (by assumption) ?_
              rotate_left
              · intro w hSw; (try dsimp only at hSw); go_simp; try with_reducible rfl
              try simp only [Act.put, List.setIfInBounds_toArray, List.set_cons_zero, List.set_cons_succ]
              refine wpAnyH_take (i := 7) (v := ?_) (by simp only [List.getElem?_toArray, List.getElem?_cons_succ, List.getElem?_cons_zero]; exact rfl) (by kernel_rfl) (by kernel_rfl) (by kernel_rfl) (by exact fun _ _ _ h => h) (Or.inl ⟨by rfl, ?_⟩) (by assumption) ?_
              rotate_left
              · intro w hSw; (try dsimp only at hSw); have c0 := HCD.out w hSw; go_simp; try with_reducible rfl
              try simp only [Act.put, List.setIfInBounds_toArray, List.set_cons_zero, List.set_cons_succ]
              refine wpAnyH_ready (rs := [8]) (by kernel_rfl) (by simp) ?_
              refine AllReadyH.cons (by simp only [List.getElem?_toArray, List.getElem?_cons_succ, List.getElem?_cons_zero]; exact rfl) (fun K hK => ?_) AllReadyH.nil
              go_simp
              go_at_call 20
              refine (HLQ.out wr.drew).mono ?_
              rintro e w8 ⟨vp, rfl, hnp, b8⟩
              obtain ⟨bp, hbp1, hbp2, hbp3⟩ := places_pin (show Nums wr.heap.size w8 vp (plK p m) from hnp) HPQ.out
              have HRP := Lib.hid hbp3
              have HB8 := Lib.hid (show Below w3.heap.size w3 w8 from HB4.out.drew.trans (b8.mono hsz4))
              have HN8 := Lib.hid (show Nums S0 w8 vu U from HNU.out.below ((Below.refl wr.heap.size wr).drew.trans b8) (Nat.le_refl _))
              have hs8 : wr.heap.size ≤ w8.heap.size := b8.size
              have hvb : ∀ r, vu.ownBlock = some r → r ≠ bp := fun r hr => by have := ((show wr.ownsRow S0 3 1 vu U.length (nsV U) from HNU.out).lt r hr).2; omega
              have HVB := Lib.hid hvb
              obtain ⟨ap, cpp, rfl⟩ := hbp3.shape
              clear hnp b8 hbp3 hvb
              go_wp2_with fail
              refine hK.out _ _ ?_ (fun hHeld2 => ?_)
              · exact HB8.out
              clear hK K
              try simp only [Act.put, List.setIfInBounds_toArray, List.set_cons_zero, List.set_cons_succ]
              refine wpAnyH_take (i := 9) (v := ?_) (by simp only [List.getElem?_toArray, List.getElem?_cons_succ, List.getElem?_cons_zero]; exact rfl) (by kernel_rfl) (by kernel_rfl) (by kernel_rfl) (by exact fun _ _ _ h => h) (Or.inl ⟨by rfl, ?_⟩) (by assumption) ?_
              rotate_left
              · intro w hSw; (try dsimp only at hSw); go_simp; try with_reducible rfl
              try simp only [Act.put, List.setIfInBounds_toArray, List.set_cons_zero, List.set_cons_succ]
              refine wpAnyH_take (i := 10) (v := ?_) (by simp only [List.getElem?_toArray, List.getElem?_cons_succ, List.getElem?_cons_zero]; exact rfl) (by kernel_rfl) (by kernel_rfl) (by kernel_rfl) (by exact fun _ _ _ h => h) (Or.inl ⟨by rfl, ?_⟩) (by assumption) ?_
              rotate_left
              · intro w hSw; (try dsimp only at hSw); go_simp; try with_reducible rfl
              try simp only [Act.put, List.setIfInBounds_toArray, List.set_cons_zero, List.set_cons_succ]
              refine wpAnyH_take (i := 11) (v := ?_) (by simp only [List.getElem?_toArray, List.getElem?_cons_succ, List.getElem?_cons_zero]; exact rfl) (by kernel_rfl) (by kernel_rfl) (by kernel_rfl) (by exact fun _ _ _ h => h) (Or.inl ⟨by rfl, ?_⟩) (by assumption) ?_
              rotate_left
              · intro w hSw; (try dsimp only at hSw); go_simp; try with_reducible rfl
              try simp only [Act.put, List.setIfInBounds_toArray, List.set_cons_zero, List.set_cons_succ]
              refine wpAnyH_take (i := 12) (v := ?_) (by simp only [List.getElem?_toArray, List.getElem?_cons_succ, List.getElem?_cons_zero]; exact rfl) (by kernel_rfl) (by kernel_rfl) (by kernel_rfl) (by exact fun _ _ _ h => h) (Or.inl ⟨by rfl, ?_⟩) (by assumption) ?_
              rotate_left
              · intro w hSw; (try dsimp only at hSw); go_simp; try with_reducible rfl
              try simp only [Act.put, List.setIfInBounds_toArray, List.set_cons_zero, List.set_cons_succ]
              refine wpAnyH_take (i := 13) (v := ?_) (by simp only [List.getElem?_toArray, List.getElem?_cons_succ, List.getElem?_cons_zero]; exact rfl) (by kernel_rfl) (by kernel_rfl) (by kernel_rfl) (by exact fun _ _ _ h => h) (Or.inl ⟨by rfl, ?_⟩) (by assumption) ?_
              rotate_left
              · intro w hSw; (try dsimp only at hSw); go_simp; try with_reducible rfl
              try simp only [Act.put, List.setIfInBounds_toArray, List.set_cons_zero, List.set_cons_succ]
              refine wpAnyH_done (by kernel_rfl) ?_ _
              clear hHeld hHeld2
              go_wp2
              go_loopw [7, 12] (fun x c' wr3 => ∃ (k : Nat) (v : Value), k ≤ m ∧ v = x ∧ c' = .int .i64 k ∧ Nums S0 wr3 v (U ++ plK p k) ∧ (∀ r, v.ownBlock = some r → r ≠ bp) ∧ RdI bp (bp + 1) wr3 (.slice ap m cpp) m (fun k => p + k) ∧ w8.heap.size ≤ wr3.heap.size ∧ Below w3.heap.size w3 wr3) (fun _ c' _ => m - (intOf c').toNat)
              case atStart => exact ⟨0, _, Nat.zero_le _, rfl, rfl, by show Nums S0 w8 vu (U ++ []); rw [List.append_nil]; exact HN8.out, HVB.out, HRP.out, Nat.le_refl _, HB8.out⟩
              case round =>
                clear HN8 HVB HRP HB8
                obtain ⟨k, vk, hk, rfl, rfl, hnk, hvk, hrk, hsk, hb⟩ := hrel
                have HBK := Lib.hid hb
                have HNK := Lib.hid hnk
                have HVK := Lib.hid hvk
                have HRK := Lib.hid hrk
                have hszk := hb.size
                have hlk : (U ++ plK p k).length = U.length + k := by rw [List.length_append, plK_len]
                have HOK := Lib.hid (HKQ.out k hk)
                clear hb hnk hvk hrk
                by_cases hkm : k < m
                · have hkm' : (k : Int) < m := by omega
                  obtain ⟨bq, oq, cq, e2, _, hq1, hq2, k8⟩ := HRK.out.open (by omega)
                  simp only [Value.slice.injEq] at e2
                  obtain ⟨rfl, _, rfl⟩ := e2
                  obtain rfl : bq = bp := by omega
                  have c1 := k8 k hkm
                  have hpq := HPQ.out (by omega)
                  have hbs := hbp2 (by omega)
                  have HMB := Lib.hid (HNQ.out k hkm)
                  obtain ⟨x, ex⟩ : ∃ x, p + (k : Int) = x := ⟨_, rfl⟩
                  have HPK := Lib.hid (show plK p (k + 1) = plK p k ++ [x] from by rw [← ex]; rfl)
                  rw [ex] at HMB
                  simp only [ex] at c1
                  have HHN := Lib.hid (show Calls Try.prog 21 #[vk, .int .i64 x] wr (BlPost false wr) from by
                    have h1 := hasN_any vk S0 wr.heap.size (U ++ plK p k) x wr ((Nums.owI HNK.out HOK.out).rd) (by omega)
                    rw [show decide (x ∈ U ++ plK p k) = false from by simp [HMB.out]] at h1
                    exact h1)
                  have hx100 : 0 ≤ x ∧ x ≤ 200 := by omega
                  clear k8 ex
                  go_wp2_with fail
                  refine HHN.out.mono ?_
                  rintro e w10 ⟨rfl, b10⟩
                  have HBX := Lib.hid (show Below w3.heap.size w3 w10 from HBK.out.trans (b10.mono hszk))
                  have HNX := Lib.hid (show w10.ownsRow S0 3 1 vk (U ++ plK p k).length (nsV (U ++ plK p k)) from HNK.out.below b10 (Nat.le_refl _))
                  have HRX := Lib.hid (HRK.out.same (SameIn.below b10 (by omega)))
                  have hs10 : wr.heap.size ≤ w10.heap.size := b10.size
                  have c2 : w10.cell? ⟨bq, oq + k, none⟩ = some (.int .i64 x) := (b10.cell (p := ⟨bq, oq + k, none⟩) (by show bq < _; omega)).trans c1
                  have hl1 : (nsV (U ++ plK p k)).length = (U ++ plK p k).length * 1 := by simp [nsV]
                  clear b10 c1
                  go_wp2_with (first | (at_builtin; refine wpList_append_own_at _ rfl _ _ 26 rfl S0 3 i0' (.int .i64 0) 1 8 Try.underlying26 hi00 hz00 hz10 hz20 rfl (by decide) vk (U ++ plK p k).length (nsV (U ++ plK p k)) rfl (HNX.out.alloc _) ⟨w10.heap.size, 0, none⟩ 1 1 [.int .i64 x] rfl rfl (World.news_of_block (cs := #[.int .i64 x]) (t := 3) (fr := (0, 0)) (heap_alloc_new w10 _)) (by simp [Value.oneCell']) (by unfold maxLen; omega) (by omega) (by simp; omega) ?_; intro vy w5 hown hgr _ hat; have HO := Lib.hid hown; have HG := Lib.hid hgr; have HAT := Lib.hid hat; clear hown hgr hat))
                  have HN5 := Lib.hid (show Nums S0 w5 vy (U ++ plK p (k + 1)) from by rw [HPK.out, ← List.append_assoc]; exact nums_push HO.out)
                  have HB5 := Lib.hid (show Below w3.heap.size w3 w5 from (HBX.out.alloc HBX.out.size _).grown HG.out (by rw [World.size_alloc]; have := HBX.out.size; omega) (fun r hr => by have := (HNX.out.lt r hr).1; have := ES0.out; omega))
                  have hs5 : w8.heap.size ≤ w5.heap.size := by have := HG.out.size; rw [World.size_alloc] at this; omega
                  have HV5 := Lib.hid (show ∀ r, vy.ownBlock = some r → r ≠ bq from fun r hr => by
                    rcases HAT.out with h | h
                    · rw [h] at hr; exact HVK.out r hr
                    · rw [h] at hr
                      simp only [World.size_alloc, Option.some.injEq] at hr
                      omega)
                  have HR5 := Lib.hid (HRX.out.same (w' := w5) (fun r h1 h2 => by
                    obtain rfl : r = bq := by omega
                    exact (HG.out.block r (by rw [World.size_alloc]; omega) (fun h => HVK.out r h.symm rfl)).trans (Below.heap_alloc w10 _ r (by omega))))
                  clear HO HG HAT HNX HRX
                  go_wp2
                  go_roundw
                  case rel => exact ⟨k + 1, _, by omega, rfl, by go_num, HN5.out, HV5.out, HR5.out, hs5, HB5.out⟩
                  case measure => simp [intOf]; omega
                · have hkm' : ¬ (k : Int) < m := by omega
                  obtain rfl : k = m := by omega
                  have HUN := Lib.hid (show Nums S0 wr vk (US (q + 1)) from by rw [HUQ.out]; exact HNK.out)
                  have hszB := HBK.out.size
                  clear HNK HVK HRK HOK hlk HNQ HKQ HPQ
                  obtain ⟨S1, eS1⟩ : ∃ S1, wr.heap.size = S1 := ⟨_, rfl⟩
                  have ES1 := Lib.hid eS1
                  have HLI := Lib.hid (show (wr.alloc (.cells #[] 3)).ownsRow S1 3 1 (.slice (some ⟨S1, 0, none⟩) 0 0) 0 [] from by subst eS1; exact World.ownsRow_lit wr #[] 0 (Nat.le_refl _) (Nat.zero_le _) (by simp))
                  have HBA := Lib.hid (HBK.out.alloc hszB (.cells #[] 3))
                  have HBL := Lib.hid (show Below S1 wr (wr.alloc (.cells #[] 3)) from by subst eS1; exact (Below.refl _ _).alloc (Nat.le_refl _) _)
                  have HNW := Lib.hid (cp_news (W := wr.alloc (.cells #[] 3)) (b := b2) (off := 0) (n := i) (Z := D0) (fun j hj => by
                    rw [Nat.zero_add]
                    exact ((HDC.out _ HBA.out).num hj).1))
                  have hl1 := cp_len D0 i
                  go_upto_region 24 with (first | (at_builtin; refine wpList_append_own _ rfl _ _ 26 rfl S1 3 i0' (.int .i64 0) 1 8 Try.underlying26 hi00 hz00 hz10 hz20 rfl (by decide) (.slice (some ⟨S1, 0, none⟩) 0 0) 0 [] (by simp [← ES1.out]; try rfl) HLI.out ⟨b2, 0, none⟩ i cp2 (nsV (fnL D0 i)) rfl hl1 HNW.out (cp_one D0 i) (by unfold maxLen; omega) (by omega) (by simp; have := ES1.out; omega) ?_; intro vx w5 hown hgr _; have HO := Lib.hid hown; have HG := Lib.hid hgr; clear hown hgr))
                  have HB5 := Lib.hid (HBA.out.grown HG.out (by rw [World.size_alloc]; omega) (fun k hk => by simp only [Value.ownBlock, Option.some.injEq] at hk; have := ES1.out; omega))
                  have HBL5 := Lib.hid (HBL.out.grown HG.out (by rw [World.size_alloc]; have := ES1.out; omega) (fun k hk => by simp only [Value.ownBlock, Option.some.injEq] at hk; omega))
                  have HO5 := Lib.hid (cp_own HO.out (fun j hj => by have := HDM.out j hj; omega))
                  have hs5 : S1 ≤ w5.heap.size := by have := HG.out.size; rw [World.size_alloc] at this; omega
                  obtain ⟨bx, cx, rfl, hbx1, hbx2, hbx3⟩ := owI_block HO5.out (by omega)
                  obtain ⟨cc, ff⟩ := owI_cellAt HO5.out hlq
                  have HPUT := Lib.hid (owI_put HO5.out hlq (-1) (by omega))
                  have hps := setCell_size w5 ⟨bx, q, none⟩ (.int .i64 (-1))
                  have HB6 := Lib.hid (show Below w3.heap.size w3 (w5.setCell ⟨bx, q, none⟩ (.int .i64 (-1))) from HB5.out.setCell (p := ⟨bx, q, none⟩) (show w3.heap.size ≤ bx by have := ES1.out; omega) _)
                  have HBL6 := Lib.hid (show Below S1 wr (w5.setCell ⟨bx, q, none⟩ (.int .i64 (-1))) from HBL5.out.setCell (p := ⟨bx, q, none⟩) (show S1 ≤ bx by omega) _)
                  obtain ⟨V, eV⟩ : ∃ V, w5.setCell ⟨bx, q, none⟩ (.int .i64 (-1)) = V := ⟨_, rfl⟩
                  rw [eV] at HPUT HB6 HBL6 hps
                  clear HO HG HNW HLI HBA HBL HBL5 HB5
                  go_upto_region 25 with fail
                  try rw [eV]
                  have hsV := HB6.out.size
                  have c1 := HCD.out V HB6.out
                  clear cc ff eV
                  by_cases hd0 : 0 ≤ d
                  · have hpb : pb = true := by rw [← EPB.out]; simp [hd0]
                    subst hpb
                    go_wp2_with fail
                    refine (HLE.out q V w3.heap.size _ _ S1 w5.heap.size (HPC.out _ HB6.out) hsV HPUT.out.rd (by omega)).mono ?_
                    rintro e w7 ⟨rfl, b7⟩
                    have HB7 := Lib.hid (show Below w3.heap.size w3 w7 from HB6.out.trans (b7.mono hsV))
                    have HU7 := Lib.hid (show Nums S0 w7 vk (US (q + 1)) from HUN.out.below (HBL6.out.trans (b7.mono (show S1 ≤ V.heap.size by omega))) (by have := ES1.out; omega))
                    have hs7 : S0 ≤ w7.heap.size := by have := b7.size; have := ES0.out; omega
                    clear b7 c1
                    go_wp2
                    go_roundw
                    case rel => exact ⟨q + 1, _, hlq, rfl, by go_num, HU7.out, hs7, HB7.out⟩
                    case measure => simp [intOf]; omega
                  · have hpb : pb = false := by rw [← EPB.out]; simp [hd0]
                    subst hpb
                    go_wp2_with fail
                    refine (HLE.out q V w3.heap.size _ _ S1 w5.heap.size (HPC.out _ HB6.out) hsV HPUT.out.rd (by omega)).mono ?_
                    rintro e w7 ⟨rfl, b7⟩
                    have HB7 := Lib.hid (show Below w3.heap.size w3 w7 from HB6.out.trans (b7.mono hsV))
                    have HU7 := Lib.hid (show Nums S0 w7 vk (US (q + 1)) from HUN.out.below (HBL6.out.trans (b7.mono (show S1 ≤ V.heap.size by omega))) (by have := ES1.out; omega))
                    have hs7 : S0 ≤ w7.heap.size := by have := b7.size; have := ES0.out; omega
                    clear b7 c1
                    go_wp2
                    go_roundw
                    case rel => exact ⟨q + 1, _, hlq, rfl, by go_num, HU7.out, hs7, HB7.out⟩
                    case measure => simp [intOf]; omega
            · have hlq' : ¬ (q : Int) < i := by omega
              obtain rfl : q = i := by omega
              have HBF := Lib.hid (BL_6.out.trans (HB4.out.mono (by omega)))
              go_wp2
              go_ret
              exact ⟨rfl, HBF.out⟩
end Go.Proofs.Ythelaffjpmcdbaa
