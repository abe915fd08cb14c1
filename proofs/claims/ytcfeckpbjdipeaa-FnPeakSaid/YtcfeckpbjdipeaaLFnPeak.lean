/- The law FnPeak of the promises: its walk. -/
import Derived.Test.YtcfeckpbjdipeaaPkY
namespace Go.Proofs.Ytcfeckpbjdipeaa
open Go.RowKit
set_option linter.unusedVariables false
set_option linter.unusedSimpArgs false

set_option maxHeartbeats 4000000 in
set_option maxRecDepth 100000 in
theorem law_FnPeak (v : Value) (n : Nat) (w : World) (hv : RdB w.heap.size w v n) : Calls Try.prog 3 #[v] w (LawPost w) := by
  have HD := Lib.hid (draw_DrawPeakIs v n w.heap.size w hv (Nat.le_refl _))
  obtain ⟨ao, cap, cb, off, Z, rfl, hc1, hc2, _⟩ := hv
  by_cases hn : 1048576 < n
  · have hn' : (1048576 : Int) < n := by omega
    go_enter Try.func3, Try.ntmps3
    go_wp2
    go_ret
    exact ⟨rfl, Below.refl _ _⟩
  · have hn' : ¬ (1048576 : Int) < n := by omega
    go_enter Try.func3, Try.ntmps3
    go_wp2_with fail
    refine HD.out.mono ?_
    rintro e w1 ⟨vg, g, i0, rfl, _, hm, hgn, hgl, hi0, bw1⟩
    obtain ⟨bg, og, cg, rfl⟩ := hm.shape (by omega)
    have R_g := Lib.hid hm
    clear hm HD hgl
    have sw1 : w.heap.size ≤ w1.heap.size := bw1.size
    have BL := Lib.hid bw1
    clear bw1
    by_cases hok : g.pkB i0 = true
    case neg =>
      have hno : g.pkB i0 = false := by simpa using hok
      go_wp2_with fail
      refine (implPkIs_no _ 0 w1.heap.size g i0 _ (R_g.out.mono (Nat.zero_le _) (by omega)) (Nat.le_refl _) hno).mono ?_
      rintro e w2 ⟨rfl, bw2⟩
      have sw2 : w1.heap.size ≤ w2.heap.size := bw2.size
      have L_1 := Lib.hid (R_g.out.same (SameIn.below bw2 (by omega)))
      clear R_g
      have BL_2 := Lib.hid (BL.out.trans (bw2.mono (by omega)))
      clear BL bw2
      go_wp2_with fail
      refine (specPkIs_no _ 0 w2.heap.size g i0 _ (L_1.out.mono (Nat.zero_le _) (by omega)) (Nat.le_refl _) hno).mono ?_
      rintro e w3 ⟨rfl, bw3⟩
      have sw3 : w2.heap.size ≤ w3.heap.size := bw3.size
      have L_3 := Lib.hid (L_1.out.same (SameIn.below bw3 (by omega)))
      clear L_1
      have BL_4 := Lib.hid (BL_2.out.trans (bw3.mono (by omega)))
      clear BL_2 bw3
      go_wp2
      go_ret
      exact ⟨rfl, BL_4.out⟩
    case pos =>
      have HPI := Lib.hid (fun (W : World) (hi' : Nat) (v : Value) (h : RdM 0 hi' W v g) (hh : hi' ≤ W.heap.size) => implPkIs_yes v 0 hi' g i0 W h hh hok)
      have HPS := Lib.hid (fun (W : World) (hi' : Nat) (v : Value) (h : RdM 0 hi' W v g) (hh : hi' ≤ W.heap.size) => specPkIs_yes v 0 hi' g i0 W h hh hok)
      obtain ⟨hval, i, hi, rfl, hpk⟩ := pkB_yes' hok
      have hn7 := hval.1.2
      have hn1 := hval.1.1
      have hl7 := hval.2.1.2
      have hl1 := hval.2.1.1
      have h49 := mul_le_49 hn7 hl7
      have hpos : 0 < g.n * g.len 0 := Nat.mul_pos (by omega) (by omega)
      obtain ⟨m, y, hy⟩ := lsFn_ex (near g.n (g.len 0) ⟨i, hi⟩ 4)
      have hm4 : m ≤ 4 := by rw [hy.len]; exact near_len g.n (g.len 0) ⟨i, hi⟩ 4
      obtain ⟨n, x, hx⟩ := pkFn_ex hval
      have hzr := flat_okW hval hi
      obtain ⟨C, eC⟩ : ∃ C, g.len 0 = C := ⟨_, rfl⟩
      obtain ⟨r, er⟩ : ∃ r, i / C = r := ⟨_, rfl⟩
      obtain ⟨q, eq⟩ : ∃ q, i % C = q := ⟨_, rfl⟩
      have hC0 : ¬ C = 0 := by omega
      have hC0' : ¬ (C : Int) = 0 := by omega
      have hqc : q < C := by rw [← eq]; exact Nat.mod_lt _ (by omega)
      have hrn : r < g.n := by rw [← er, Nat.div_lt_iff_lt_mul (by omega), ← eC]; exact hi
      have hd1 : (i : Int) / (C : Int) = (r : Int) := by rw [← er]; exact (Int.natCast_ediv i C).symm
      have hd2 : (i : Int) % (C : Int) = (q : Int) := by rw [← eq]; exact (Int.natCast_emod i C).symm
      have hd5 : (i : Int).tmod (C : Int) = (q : Int) := by rw [Int.tmod_eq_emod_of_nonneg (by omega)]; exact hd2
      have hd6 : IntKind.i64.wrap (r : Int) = (r : Int) := IntWalk.i64_in _ (by omega)
      have hd3 : IntKind.i64.wrap ((i : Int) / (C : Int)) = (r : Int) := by rw [hd1]; exact IntWalk.i64_in _ (by omega)
      have HNR := Lib.hid (fun (W : World) (hi' : Nat) (v : Value) (h : RdM 0 hi' W v g) (hh : hi' ≤ W.heap.size) => nearL_any v 0 hi' g i hi m y hy W h hh hval)
      have HHI := Lib.hid (fun (k : Nat) (hk : k < m) (W : World) (hi' : Nat) (v : Value) (h : RdM 0 hi' W v g) => by
        obtain ⟨h1, h2⟩ := hy.mem hk
        have := higher_any v 0 hi' g i (y k) W h hval hi h1
        rw [peak_over hpk h2] at this
        exact this)
      have HYB := Lib.hid (fun (k : Nat) (hk : k < m) => (hy.mem hk).1)
      have HH := Lib.hid (fun (W : World) (hi' : Nat) (v : Value) (h : RdM 0 hi' W v g) => heightOf_any v 0 hi' g i W h hval hi)
      have HLS := Lib.hid (fun (W : World) (hi' : Nat) (v : Value) (h : RdM 0 hi' W v g) (hh : hi' ≤ W.heap.size) => hx.impl hval v 0 hi' W h hh)
      have HHS := Lib.hid (fun (W : World) (lo hi' : Nat) (v : Value) (h : RdI lo hi' W v n (fun j => (x j : Int))) => by
        have := hx.hasInt hval v lo hi' ⟨i, hi⟩ W h
        rw [hpk] at this
        exact this)
      have HSY := Lib.hid (fun (hz : g.flat i + 1 ≤ 99) (W : World) (hi' : Nat) (v : Value) (h : RdM 0 hi' W v g) (hh : hi' ≤ W.heap.size) => by
        have := implGridSet_yes v 0 hi' g r q (g.flat i + 1) W h hh ⟨⟨hval, by omega, by omega⟩, by omega⟩
        rw [Int.toNat_natCast, Int.toNat_natCast] at this
        exact this)
      have HSN := Lib.hid (fun (hz : ¬ g.flat i + 1 ≤ 99) (W : World) (hi' : Nat) (v : Value) (h : RdM 0 hi' W v g) (hh : hi' ≤ W.heap.size) => implGridSet_no v 0 hi' g r q (g.flat i + 1) W h hh (fun k => hz k.2.2))
      have HUP := Lib.hid (fun (hz : g.flat i + 1 ≤ 99) (W : World) (hi' : Nat) (v : Value) (h : RdM 0 hi' W v (g.upd r q (g.flat i + 1))) (hh : hi' ≤ W.heap.size) => by
        have h1 := pk_raised hval ⟨i, hi⟩ hpk hz
        simp only [eC, er, eq] at h1
        exact implPkIs_yes v 0 hi' _ i W h hh h1)
      obtain ⟨z, ez⟩ : ∃ z, g.flat i = z := ⟨_, rfl⟩
      simp only [ez] at hzr HH HSY HSN HUP
      have hi49 : i ≤ 49 := by omega
      clear hy hx er eq hok hpk ez
      go_wp2_with fail
      refine (HPI.out _ w1.heap.size _ (R_g.out.mono (Nat.zero_le _) (by omega)) (Nat.le_refl _)).mono ?_
      rintro e w2 ⟨rfl, bw2⟩
      have sw2 : w1.heap.size ≤ w2.heap.size := bw2.size
      have L_1 := Lib.hid (R_g.out.same (SameIn.below bw2 (by omega)))
      clear R_g
      have BL_2 := Lib.hid (BL.out.trans (bw2.mono (by omega)))
      clear BL bw2
      go_wp2_with fail
      refine (HPS.out _ w2.heap.size _ (L_1.out.mono (Nat.zero_le _) (by omega)) (Nat.le_refl _)).mono ?_
      rintro e w3 ⟨rfl, bw3⟩
      have sw3 : w2.heap.size ≤ w3.heap.size := bw3.size
      have L_3 := Lib.hid (L_1.out.same (SameIn.below bw3 (by omega)))
      clear L_1
      have BL_4 := Lib.hid (BL_2.out.trans (bw3.mono (by omega)))
      clear BL_2 bw3
      go_wp2_with fail
      refine (HNR.out _ w3.heap.size _ (L_3.out.mono (Nat.zero_le _) (by omega)) (Nat.le_refl _)).mono ?_
      rintro e w4 ⟨_, rfl, ⟨_, _, _, rfl⟩, ow4, bw4⟩
      have Nw4 := Lib.hid (ow4)
      clear ow4
      have sw4 : w3.heap.size ≤ w4.heap.size := bw4.size
      have L_5 := Lib.hid (L_3.out.same (SameIn.below bw4 (by omega)))
      clear L_3
      have BL_6 := Lib.hid (BL_4.out.trans (bw4.mono (by omega)))
      clear BL_4 bw4
      obtain ⟨_, _, e0⟩ := (Nw4.out).shapeN
      simp only [Value.slice.injEq] at e0
      obtain ⟨rfl, e1, rfl⟩ := e0
      have e2 := e1.symm
      subst e2
      have HNC := Lib.hid (fun (h0 : 0 < m) => (Nw4.out).openN h0)
      have HGC := Lib.hid (fun (W : World) (hb : Below w4.heap.size w4 W) => (L_5.out.same (SameIn.below hb (by omega))).mono (Nat.zero_le _) (show _ ≤ w4.heap.size by omega))
      have HNL := Lib.hid (fun (W : World) (hb : Below w4.heap.size w4 W) => Nw4.out.same (SameIn.below hb (by omega)))
      go_wp2
      go_loopw [8] (fun c' wr => ∃ k : Nat, k ≤ m ∧ c' = .int .i64 k ∧ Below w4.heap.size w4 wr) (fun c' _ => m - (intOf c').toNat)
      case atStart => exact ⟨0, Nat.zero_le _, rfl, Below.refl _ _⟩
      case round =>
        obtain ⟨k, hk, rfl, hb⟩ := hrel
        have HB := Lib.hid hb
        have hsz := hb.size
        clear hb
        by_cases hlt : k < m
        · have hlt' : (k : Int) < m := by omega
          obtain ⟨bN, oN, capN, e2, k5, _, k7, k8⟩ := (HNL.out wr HB.out).openN (by omega)
          simp only [Value.slice.injEq] at e2
          obtain ⟨rfl, _, rfl⟩ := e2
          have c1 := k8 k hlt
          have HIC := Lib.hid (HHI.out k hlt wr w4.heap.size _ (HGC.out _ HB.out))
          have hyb := HYB.out k hlt
          obtain ⟨Y, eY⟩ : ∃ Y, y k = Y := ⟨_, rfl⟩
          simp only [eY] at c1 HIC hyb
          clear k8 eY
          go_wp2_with fail
          refine HIC.out.mono ?_
          rintro e w8 ⟨rfl, b8⟩
          have HB8 := Lib.hid (HB.out.trans (b8.mono hsz))
          clear b8
          go_wp2
          go_roundw
          case rel => exact ⟨k + 1, hlt, by go_num, HB8.out⟩
          case measure => simp [intOf]; omega
        · have hlt' : ¬ (k : Int) < m := by omega
          obtain rfl : k = m := by omega
          have HG := Lib.hid (HGC.out wr HB.out)
          obtain ⟨a0, c0, hd0⟩ := HG.out.head (by omega) C eC
          have HBW := Lib.hid (BL_6.out.trans (HB.out.mono (by omega)))
          have hg0 : (0 : Int) < g.n := by omega
          have hg0' : 0 < g.n := by omega
          have hw1 : IntKind.i64.wrap (z + 1) = z + 1 := IntWalk.i64_in _ (by omega)
          have S0 := Lib.hid (show Below wr.heap.size wr wr.drew from below_drewN (Below.refl _ _) 1)
          by_cases hz : z + 1 ≤ 99
          · go_wp2_with fail
            refine wp_region_held_drew (S := (fun w' => Below wr.heap.size wr w')) (by kernel_rfl) ?_ (fun hHeld => ?_)
            · first | exact Below.refl _ _ | exact below_drewN (Below.refl _ _) 1
            refine wpAnyH_take (i := 0) (v := ?_) (by simp only [List.getElem?_toArray, List.getElem?_cons_succ, List.getElem?_cons_zero]; exact rfl) (by kernel_rfl) (by kernel_rfl) (by kernel_rfl) (by exact fun _ _ _ h => h) (Or.inl ⟨by rfl, ?_⟩) (by assumption) ?_
            rotate_left
            · intro w hSw; (try dsimp only at hSw); go_simp; try with_reducible rfl
            try simp only [Act.put, List.setIfInBounds_toArray, List.set_cons_zero, List.set_cons_succ]
            refine wpAnyH_take (i := 1) (v := ?_) (by simp only [List.getElem?_toArray, List.getElem?_cons_succ, List.getElem?_cons_zero]; exact rfl) (by kernel_rfl) (by kernel_rfl) (by kernel_rfl) (by exact fun _ _ _ h => h) (Or.inl ⟨by rfl, ?_⟩) (by assumption) ?_
            rotate_left
            · intro w hSw; (try dsimp only at hSw); go_simp; try with_reducible rfl
            try simp only [Act.put, List.setIfInBounds_toArray, List.set_cons_zero, List.set_cons_succ]
            refine wpAnyH_take (i := 2) (v := ?_) (by simp only [List.getElem?_toArray, List.getElem?_cons_succ, List.getElem?_cons_zero]; exact rfl) (by kernel_rfl) (by kernel_rfl) (by kernel_rfl) (by exact fun _ _ _ h => h) (Or.inl ⟨by rfl, ?_⟩) (by assumption) ?_
            rotate_left
            · intro w hSw; (try dsimp only at hSw); go_simp; try with_reducible rfl
            try simp only [Act.put, List.setIfInBounds_toArray, List.set_cons_zero, List.set_cons_succ]
            refine wpAnyH_take (i := 3) (v := ?_) (by simp only [List.getElem?_toArray, List.getElem?_cons_succ, List.getElem?_cons_zero]; exact rfl) (by kernel_rfl) (by kernel_rfl) (by kernel_rfl) (by exact fun _ _ _ h => h) (Or.inl ⟨by rfl, ?_⟩) (by assumption) ?_
            rotate_left
            · intro w hSw; (try dsimp only at hSw); go_simp; try with_reducible rfl
            try simp only [Act.put, List.setIfInBounds_toArray, List.set_cons_zero, List.set_cons_succ]
            refine wpAnyH_take (i := 4) (v := ?_) (by simp only [List.getElem?_toArray, List.getElem?_cons_succ, List.getElem?_cons_zero]; exact rfl) (by kernel_rfl) (by kernel_rfl) (by kernel_rfl) (by exact fun _ _ _ h => h) (Or.inl ⟨by rfl, ?_⟩) (by assumption) ?_
            rotate_left
            · intro w hSw; (try dsimp only at hSw); go_simp; try with_reducible rfl
            try simp only [Act.put, List.setIfInBounds_toArray, List.set_cons_zero, List.set_cons_succ]
            refine wpAnyH_take (i := 5) (v := ?_) (by simp only [List.getElem?_toArray, List.getElem?_cons_succ, List.getElem?_cons_zero]; exact rfl) (by kernel_rfl) (by kernel_rfl) (by kernel_rfl) (by exact fun _ _ _ h => h) (Or.inl ⟨by rfl, ?_⟩) (by assumption) ?_
            rotate_left
            · intro w hSw; (try dsimp only at hSw); go_simp; try with_reducible rfl
            try simp only [Act.put, List.setIfInBounds_toArray, List.set_cons_zero, List.set_cons_succ]
            refine wpAnyH_take (i := 6) (v := ?_) (by simp only [List.getElem?_toArray, List.getElem?_cons_succ, List.getElem?_cons_zero]; exact rfl) (by kernel_rfl) (by kernel_rfl) (by kernel_rfl) (by exact fun _ _ _ h => h) (Or.inl ⟨by rfl, ?_⟩) (by assumption) ?_
            rotate_left
            · intro w hSw; (try dsimp only at hSw); go_simp; try with_reducible rfl
            try simp only [Act.put, List.setIfInBounds_toArray, List.set_cons_zero, List.set_cons_succ]
            refine wpAnyH_take (i := 7) (v := ?_) (by simp only [List.getElem?_toArray, List.getElem?_cons_succ, List.getElem?_cons_zero]; exact rfl) (by kernel_rfl) (by kernel_rfl) (by kernel_rfl) (by exact fun _ _ _ h => h) (Or.inl ⟨by rfl, ?_⟩) (by assumption) ?_
            rotate_left
            · intro w hSw; (try dsimp only at hSw); go_simp; try with_reducible rfl
            try simp only [Act.put, List.setIfInBounds_toArray, List.set_cons_zero, List.set_cons_succ]
            refine wpAnyH_take (i := 8) (v := ?_) (by simp only [List.getElem?_toArray, List.getElem?_cons_succ, List.getElem?_cons_zero]; exact rfl) (by kernel_rfl) (by kernel_rfl) (by kernel_rfl) (by exact fun _ _ _ h => h) (Or.inl ⟨by rfl, ?_⟩) (by assumption) ?_
            rotate_left
            · intro w hSw; (try dsimp only at hSw); go_simp; try with_reducible rfl
            try simp only [Act.put, List.setIfInBounds_toArray, List.set_cons_zero, List.set_cons_succ]
            refine wpAnyH_ready (rs := [9]) (by kernel_rfl) (by simp) ?_
            refine AllReadyH.cons (by simp only [List.getElem?_toArray, List.getElem?_cons_succ, List.getElem?_cons_zero]; exact rfl) (fun K hK => ?_) AllReadyH.nil
            go_simp
            go_at_call 18
            refine (HH.out wr.drew w4.heap.size _ (HG.out.same (fun _ _ _ => rfl))).mono ?_
            intro e w8 hq
            obtain ⟨rfl, b8⟩ := hq.below
            have HQ8 := Lib.hid (show Below wr.heap.size wr w8 from S0.out.trans (b8.mono S0.out.size))
            clear hq b8
            go_wp2_with fail
            refine hK.out _ _ ?_ (fun hHeld2 => ?_)
            · exact HQ8.out
            clear hK K
            try simp only [Act.put, List.setIfInBounds_toArray, List.set_cons_zero, List.set_cons_succ]
            refine wpAnyH_take (i := 10) (v := ?_) (by simp only [List.getElem?_toArray, List.getElem?_cons_succ, List.getElem?_cons_zero]; exact rfl) (by kernel_rfl) (by kernel_rfl) (by kernel_rfl) (by exact fun _ _ _ h => h) (Or.inl ⟨by rfl, ?_⟩) (by assumption) ?_
            rotate_left
            · intro w hSw; (try dsimp only at hSw); go_simp; try with_reducible rfl
            try simp only [Act.put, List.setIfInBounds_toArray, List.set_cons_zero, List.set_cons_succ]
            refine wpAnyH_ready (rs := [11]) (by kernel_rfl) (by simp) ?_
            refine AllReadyH.cons (by simp only [List.getElem?_toArray, List.getElem?_cons_succ, List.getElem?_cons_zero]; exact rfl) (fun K hK => ?_) AllReadyH.nil
            go_simp
            go_at_call 17
            refine ((HSY.out hz) _ w4.heap.size _ (HGC.out _ (HB.out.trans (HQ8.out.mono hsz))) (by have := HQ8.out.size; omega)).mono ?_
            rintro e w9 ⟨_, rfl, ⟨_, _, _, rfl⟩, ow, b9⟩
            have HOW := Lib.hid ow.rd
            have HB9 := Lib.hid (show Below wr.heap.size wr w9 from HQ8.out.trans (b9.mono HQ8.out.size))
            clear ow b9
            go_wp2_with fail
            refine hK.out _ _ ?_ (fun hHeld2 => ?_)
            · exact HB9.out
            clear hK K
            try simp only [Act.put, List.setIfInBounds_toArray, List.set_cons_zero, List.set_cons_succ]
            refine wpAnyH_take (i := 12) (v := ?_) (by simp only [List.getElem?_toArray, List.getElem?_cons_succ, List.getElem?_cons_zero]; exact rfl) (by kernel_rfl) (by kernel_rfl) (by kernel_rfl) (by exact fun _ _ _ h => h) (Or.inl ⟨by rfl, ?_⟩) (by assumption) ?_
            rotate_left
            · intro w hSw; (try dsimp only at hSw); go_simp; try with_reducible rfl
            try simp only [Act.put, List.setIfInBounds_toArray, List.set_cons_zero, List.set_cons_succ]
            refine wpAnyH_take (i := 13) (v := ?_) (by simp only [List.getElem?_toArray, List.getElem?_cons_succ, List.getElem?_cons_zero]; exact rfl) (by kernel_rfl) (by kernel_rfl) (by kernel_rfl) (by exact fun _ _ _ h => h) (Or.inl ⟨by rfl, ?_⟩) (by assumption) ?_
            rotate_left
            · intro w hSw; (try dsimp only at hSw); go_simp; try with_reducible rfl
            try simp only [Act.put, List.setIfInBounds_toArray, List.set_cons_zero, List.set_cons_succ]
            refine wpAnyH_take (i := 14) (v := ?_) (by simp only [List.getElem?_toArray, List.getElem?_cons_succ, List.getElem?_cons_zero]; exact rfl) (by kernel_rfl) (by kernel_rfl) (by kernel_rfl) (by exact fun _ _ _ h => h) (Or.inl ⟨by rfl, ?_⟩) (by assumption) ?_
            rotate_left
            · intro w hSw; (try dsimp only at hSw); go_simp; try with_reducible rfl
            try simp only [Act.put, List.setIfInBounds_toArray, List.set_cons_zero, List.set_cons_succ]
            refine wpAnyH_take (i := 15) (v := ?_) (by simp only [List.getElem?_toArray, List.getElem?_cons_succ, List.getElem?_cons_zero]; exact rfl) (by kernel_rfl) (by kernel_rfl) (by kernel_rfl) (by exact fun _ _ _ h => h) (Or.inl ⟨by rfl, ?_⟩) (by assumption) ?_
            rotate_left
            · intro w hSw; (try dsimp only at hSw); go_simp; try with_reducible rfl
            try simp only [Act.put, List.setIfInBounds_toArray, List.set_cons_zero, List.set_cons_succ]
            refine wpAnyH_take (i := 16) (v := ?_) (by simp only [List.getElem?_toArray, List.getElem?_cons_succ, List.getElem?_cons_zero]; exact rfl) (by kernel_rfl) (by kernel_rfl) (by kernel_rfl) (by exact fun _ _ _ h => h) (Or.inl ⟨by rfl, ?_⟩) (by assumption) ?_
            rotate_left
            · intro w hSw; (try dsimp only at hSw); go_simp; try with_reducible rfl
            try simp only [Act.put, List.setIfInBounds_toArray, List.set_cons_zero, List.set_cons_succ]
            refine wpAnyH_done (by kernel_rfl) ?_ _
            go_wp2_with fail
            refine (HLS.out w9 w4.heap.size _ (HGC.out _ (HB.out.trans (HB9.out.mono hsz))) (by have := HB9.out.size; omega)).mono ?_
            rintro e w10 ⟨_, rfl, ⟨_, _, _, rfl⟩, ow, b10⟩
            have HOL := Lib.hid ow.rd
            have HB10 := Lib.hid (HB9.out.trans (b10.mono HB9.out.size))
            have HOX := Lib.hid (HOW.out.same (SameIn.below b10 (Nat.le_refl _)))
            have hs10 := b10.size
            clear ow b10
            go_wp2_with fail
            refine (HHS.out w10 _ _ _ HOL.out).mono ?_
            rintro e w11 ⟨rfl, q11, rfl⟩
            have HB11 := Lib.hid (below_drewN HB10.out q11)
            go_wp2_with fail
            refine (HUP.out hz (w10.drewN q11) w9.heap.size _ ((HOX.out.same (fun _ _ _ => rfl)).mono (Nat.zero_le _) (Nat.le_refl _)) hs10).mono ?_
            rintro e w12 ⟨rfl, b12⟩
            have HBF := Lib.hid (HBW.out.trans ((HB11.out.trans (b12.mono HB11.out.size)).mono (by omega)))
            clear b12
            go_wp2
            go_ret
            exact ⟨rfl, HBF.out⟩
          · go_wp2_with fail
            refine wp_region_held_drew (S := (fun w' => Below wr.heap.size wr w')) (by kernel_rfl) ?_ (fun hHeld => ?_)
            · first | exact Below.refl _ _ | exact below_drewN (Below.refl _ _) 1
            refine wpAnyH_take (i := 0) (v := ?_) (by simp only [List.getElem?_toArray, List.getElem?_cons_succ, List.getElem?_cons_zero]; exact rfl) (by kernel_rfl) (by kernel_rfl) (by kernel_rfl) (by exact fun _ _ _ h => h) (Or.inl ⟨by rfl, ?_⟩) (by assumption) ?_
            rotate_left
            · intro w hSw; (try dsimp only at hSw); go_simp; try with_reducible rfl
            try simp only [Act.put, List.setIfInBounds_toArray, List.set_cons_zero, List.set_cons_succ]
            refine wpAnyH_take (i := 1) (v := ?_) (by simp only [List.getElem?_toArray, List.getElem?_cons_succ, List.getElem?_cons_zero]; exact rfl) (by kernel_rfl) (by kernel_rfl) (by kernel_rfl) (by exact fun _ _ _ h => h) (Or.inl ⟨by rfl, ?_⟩) (by assumption) ?_
            rotate_left
            · intro w hSw; (try dsimp only at hSw); go_simp; try with_reducible rfl
            try simp only [Act.put, List.setIfInBounds_toArray, List.set_cons_zero, List.set_cons_succ]
            refine wpAnyH_take (i := 2) (v := ?_) (by simp only [List.getElem?_toArray, List.getElem?_cons_succ, List.getElem?_cons_zero]; exact rfl) (by kernel_rfl) (by kernel_rfl) (by kernel_rfl) (by exact fun _ _ _ h => h) (Or.inl ⟨by rfl, ?_⟩) (by assumption) ?_
            rotate_left
            · intro w hSw; (try dsimp only at hSw); go_simp; try with_reducible rfl
            try simp only [Act.put, List.setIfInBounds_toArray, List.set_cons_zero, List.set_cons_succ]
            refine wpAnyH_take (i := 3) (v := ?_) (by simp only [List.getElem?_toArray, List.getElem?_cons_succ, List.getElem?_cons_zero]; exact rfl) (by kernel_rfl) (by kernel_rfl) (by kernel_rfl) (by exact fun _ _ _ h => h) (Or.inl ⟨by rfl, ?_⟩) (by assumption) ?_
            rotate_left
            · intro w hSw; (try dsimp only at hSw); go_simp; try with_reducible rfl
            try simp only [Act.put, List.setIfInBounds_toArray, List.set_cons_zero, List.set_cons_succ]
            refine wpAnyH_take (i := 4) (v := ?_) (by simp only [List.getElem?_toArray, List.getElem?_cons_succ, List.getElem?_cons_zero]; exact rfl) (by kernel_rfl) (by kernel_rfl) (by kernel_rfl) (by exact fun _ _ _ h => h) (Or.inl ⟨by rfl, ?_⟩) (by assumption) ?_
            rotate_left
            · intro w hSw; (try dsimp only at hSw); go_simp; try with_reducible rfl
            try simp only [Act.put, List.setIfInBounds_toArray, List.set_cons_zero, List.set_cons_succ]
            refine wpAnyH_take (i := 5) (v := ?_) (by simp only [List.getElem?_toArray, List.getElem?_cons_succ, List.getElem?_cons_zero]; exact rfl) (by kernel_rfl) (by kernel_rfl) (by kernel_rfl) (by exact fun _ _ _ h => h) (Or.inl ⟨by rfl, ?_⟩) (by assumption) ?_
            rotate_left
            · intro w hSw; (try dsimp only at hSw); go_simp; try with_reducible rfl
            try simp only [Act.put, List.setIfInBounds_toArray, List.set_cons_zero, List.set_cons_succ]
            refine wpAnyH_take (i := 6) (v := ?_) (by simp only [List.getElem?_toArray, List.getElem?_cons_succ, List.getElem?_cons_zero]; exact rfl) (by kernel_rfl) (by kernel_rfl) (by kernel_rfl) (by exact fun _ _ _ h => h) (Or.inl ⟨by rfl, ?_⟩) (by assumption) ?_
            rotate_left
            · intro w hSw; (try dsimp only at hSw); go_simp; try with_reducible rfl
            try simp only [Act.put, List.setIfInBounds_toArray, List.set_cons_zero, List.set_cons_succ]
            refine wpAnyH_take (i := 7) (v := ?_) (by simp only [List.getElem?_toArray, List.getElem?_cons_succ, List.getElem?_cons_zero]; exact rfl) (by kernel_rfl) (by kernel_rfl) (by kernel_rfl) (by exact fun _ _ _ h => h) (Or.inl ⟨by rfl, ?_⟩) (by assumption) ?_
            rotate_left
            · intro w hSw; (try dsimp only at hSw); go_simp; try with_reducible rfl
            try simp only [Act.put, List.setIfInBounds_toArray, List.set_cons_zero, List.set_cons_succ]
            refine wpAnyH_take (i := 8) (v := ?_) (by simp only [List.getElem?_toArray, List.getElem?_cons_succ, List.getElem?_cons_zero]; exact rfl) (by kernel_rfl) (by kernel_rfl) (by kernel_rfl) (by exact fun _ _ _ h => h) (Or.inl ⟨by rfl, ?_⟩) (by assumption) ?_
            rotate_left
            · intro w hSw; (try dsimp only at hSw); go_simp; try with_reducible rfl
            try simp only [Act.put, List.setIfInBounds_toArray, List.set_cons_zero, List.set_cons_succ]
            refine wpAnyH_ready (rs := [9]) (by kernel_rfl) (by simp) ?_
            refine AllReadyH.cons (by simp only [List.getElem?_toArray, List.getElem?_cons_succ, List.getElem?_cons_zero]; exact rfl) (fun K hK => ?_) AllReadyH.nil
            go_simp
            go_at_call 18
            refine (HH.out wr.drew w4.heap.size _ (HG.out.same (fun _ _ _ => rfl))).mono ?_
            intro e w8 hq
            obtain ⟨rfl, b8⟩ := hq.below
            have HQ8 := Lib.hid (show Below wr.heap.size wr w8 from S0.out.trans (b8.mono S0.out.size))
            clear hq b8
            go_wp2_with fail
            refine hK.out _ _ ?_ (fun hHeld2 => ?_)
            · exact HQ8.out
            clear hK K
            try simp only [Act.put, List.setIfInBounds_toArray, List.set_cons_zero, List.set_cons_succ]
            refine wpAnyH_take (i := 10) (v := ?_) (by simp only [List.getElem?_toArray, List.getElem?_cons_succ, List.getElem?_cons_zero]; exact rfl) (by kernel_rfl) (by kernel_rfl) (by kernel_rfl) (by exact fun _ _ _ h => h) (Or.inl ⟨by rfl, ?_⟩) (by assumption) ?_
            rotate_left
            · intro w hSw; (try dsimp only at hSw); go_simp; try with_reducible rfl
            try simp only [Act.put, List.setIfInBounds_toArray, List.set_cons_zero, List.set_cons_succ]
            refine wpAnyH_ready (rs := [11]) (by kernel_rfl) (by simp) ?_
            refine AllReadyH.cons (by simp only [List.getElem?_toArray, List.getElem?_cons_succ, List.getElem?_cons_zero]; exact rfl) (fun K hK => ?_) AllReadyH.nil
            go_simp
            go_at_call 17
            refine ((HSN.out hz) _ w4.heap.size _ (HGC.out _ (HB.out.trans (HQ8.out.mono hsz))) (by have := HQ8.out.size; omega)).mono ?_
            rintro e w9 ⟨_, rfl, ⟨_, _, _, rfl⟩, ow, b9⟩
            have HOW := Lib.hid ow.rd
            have HB9 := Lib.hid (show Below wr.heap.size wr w9 from HQ8.out.trans (b9.mono HQ8.out.size))
            clear ow b9
            go_wp2_with fail
            refine hK.out _ _ ?_ (fun hHeld2 => ?_)
            · exact HB9.out
            clear hK K
            try simp only [Act.put, List.setIfInBounds_toArray, List.set_cons_zero, List.set_cons_succ]
            refine wpAnyH_take (i := 12) (v := ?_) (by simp only [List.getElem?_toArray, List.getElem?_cons_succ, List.getElem?_cons_zero]; exact rfl) (by kernel_rfl) (by kernel_rfl) (by kernel_rfl) (by exact fun _ _ _ h => h) (Or.inl ⟨by rfl, ?_⟩) (by assumption) ?_
            rotate_left
            · intro w hSw; (try dsimp only at hSw); go_simp; try with_reducible rfl
            try simp only [Act.put, List.setIfInBounds_toArray, List.set_cons_zero, List.set_cons_succ]
            refine wpAnyH_take (i := 13) (v := ?_) (by simp only [List.getElem?_toArray, List.getElem?_cons_succ, List.getElem?_cons_zero]; exact rfl) (by kernel_rfl) (by kernel_rfl) (by kernel_rfl) (by exact fun _ _ _ h => h) (Or.inl ⟨by rfl, ?_⟩) (by assumption) ?_
            rotate_left
            · intro w hSw; (try dsimp only at hSw); go_simp; try with_reducible rfl
            try simp only [Act.put, List.setIfInBounds_toArray, List.set_cons_zero, List.set_cons_succ]
            refine wpAnyH_take (i := 14) (v := ?_) (by simp only [List.getElem?_toArray, List.getElem?_cons_succ, List.getElem?_cons_zero]; exact rfl) (by kernel_rfl) (by kernel_rfl) (by kernel_rfl) (by exact fun _ _ _ h => h) (Or.inl ⟨by rfl, ?_⟩) (by assumption) ?_
            rotate_left
            · intro w hSw; (try dsimp only at hSw); go_simp; try with_reducible rfl
            try simp only [Act.put, List.setIfInBounds_toArray, List.set_cons_zero, List.set_cons_succ]
            refine wpAnyH_take (i := 15) (v := ?_) (by simp only [List.getElem?_toArray, List.getElem?_cons_succ, List.getElem?_cons_zero]; exact rfl) (by kernel_rfl) (by kernel_rfl) (by kernel_rfl) (by exact fun _ _ _ h => h) (Or.inl ⟨by rfl, ?_⟩) (by assumption) ?_
            rotate_left
            · intro w hSw; (try dsimp only at hSw); go_simp; try with_reducible rfl
            try simp only [Act.put, List.setIfInBounds_toArray, List.set_cons_zero, List.set_cons_succ]
            refine wpAnyH_take (i := 16) (v := ?_) (by simp only [List.getElem?_toArray, List.getElem?_cons_succ, List.getElem?_cons_zero]; exact rfl) (by kernel_rfl) (by kernel_rfl) (by kernel_rfl) (by exact fun _ _ _ h => h) (Or.inl ⟨by rfl, ?_⟩) (by assumption) ?_
            rotate_left
            · intro w hSw; (try dsimp only at hSw); go_simp; try with_reducible rfl
            try simp only [Act.put, List.setIfInBounds_toArray, List.set_cons_zero, List.set_cons_succ]
            refine wpAnyH_done (by kernel_rfl) ?_ _
            go_wp2_with fail
            refine (HLS.out w9 w4.heap.size _ (HGC.out _ (HB.out.trans (HB9.out.mono hsz))) (by have := HB9.out.size; omega)).mono ?_
            rintro e w10 ⟨_, rfl, ⟨_, _, _, rfl⟩, ow, b10⟩
            have HOL := Lib.hid ow.rd
            have HB10 := Lib.hid (HB9.out.trans (b10.mono HB9.out.size))
            clear ow b10
            go_wp2_with fail
            refine (HHS.out w10 _ _ _ HOL.out).mono ?_
            rintro e w11 ⟨rfl, q11, rfl⟩
            have HBF := Lib.hid (HBW.out.trans ((below_drewN HB10.out q11).mono (by omega)))
            go_wp2
            go_ret
            exact ⟨rfl, HBF.out⟩
end Go.Proofs.Ytcfeckpbjdipeaa
