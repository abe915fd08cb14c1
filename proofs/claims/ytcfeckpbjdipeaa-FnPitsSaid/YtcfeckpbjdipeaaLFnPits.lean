/- The law FnPits of the promises: its walk. -/
import Derived.Test.YtcfeckpbjdipeaaPkY
namespace Go.Proofs.Ytcfeckpbjdipeaa
open Go.RowKit
set_option linter.unusedVariables false

set_option maxHeartbeats 4000000 in
set_option maxRecDepth 100000 in
theorem law_FnPits (v : Value) (n : Nat) (w : World) (hv : RdB w.heap.size w v n) : Calls Try.prog 10 #[v] w (LawPost w) := by
  have HD := Lib.hid (draw_DrawPitList v n w.heap.size w hv (Nat.le_refl _))
  obtain ⟨ao, cap, cb, off, Z, rfl, hc1, hc2, _⟩ := hv
  by_cases hn : 1048576 < n
  · have hn' : (1048576 : Int) < n := by omega
    go_enter Try.func10, Try.ntmps10
    go_wp2
    go_ret
    exact ⟨rfl, Below.refl _ _⟩
  · have hn' : ¬ (1048576 : Int) < n := by omega
    go_enter Try.func10, Try.ntmps10
    go_wp2_with fail
    refine HD.out.mono ?_
    rintro e w1 ⟨vg, g, rfl, _, hm, hgn, hgl, bw1⟩
    obtain ⟨ag, cg, rfl⟩ := hm.shapeV
    have R_g := Lib.hid hm
    clear hm HD hgl
    have sw1 : w.heap.size ≤ w1.heap.size := bw1.size
    have BL := Lib.hid bw1
    clear bw1
    by_cases hval : g.Valid
    case neg =>
      go_wp2_with fail
      refine (implPit_none _ 0 w1.heap.size g _ (R_g.out.mono (Nat.zero_le _) (by omega)) (Nat.le_refl _) hval).mono ?_
      rintro e w2 ⟨_, rfl, ⟨_, _, _, rfl⟩, ow2, bw2⟩
      have Nw2 := Lib.hid (ow2.rd)
      clear ow2
      have sw2 : w1.heap.size ≤ w2.heap.size := bw2.size
      have L_1 := Lib.hid (R_g.out.same (SameIn.below bw2 (by omega)))
      clear R_g
      have BL_2 := Lib.hid (BL.out.trans (bw2.mono (by omega)))
      clear BL bw2
      obtain ⟨_, _, e0⟩ := (Nw2.out).shapeN
      simp only [Value.slice.injEq] at e0
      obtain ⟨rfl, e1, rfl⟩ := e0
      have e2 := e1.symm
      subst e2
      go_wp2_with fail
      refine (specPit_none _ 0 w2.heap.size g _ (L_1.out.mono (Nat.zero_le _) (by omega)) (Nat.le_refl _) hval).mono ?_
      rintro e w3 ⟨_, rfl, ⟨_, _, _, rfl⟩, ow3, bw3⟩
      have Nw3 := Lib.hid (ow3)
      clear ow3
      have sw3 : w2.heap.size ≤ w3.heap.size := bw3.size
      have L_3 := Lib.hid (L_1.out.same (SameIn.below bw3 (by omega)))
      clear L_1
      have L_4 := Lib.hid (Nw2.out.same (SameIn.below bw3 (by omega)))
      clear Nw2
      have BL_5 := Lib.hid (BL_2.out.trans (bw3.mono (by omega)))
      clear BL_2 bw3
      go_wp2_with fail
      refine (sameInts_any _ _ _ _ _ _ (0) _ _ _ L_4.out Nw3.out (fun _ _ => rfl)).mono ?_
      intro e w4 hq
      obtain ⟨rfl, bw4⟩ := hq.below
      clear hq
      have sw4 : w3.heap.size ≤ w4.heap.size := bw4.size
      have L_6 := Lib.hid (L_3.out.same (SameIn.below bw4 (by omega)))
      clear L_3
      have L_7 := Lib.hid (L_4.out.same (SameIn.below bw4 (by omega)))
      clear L_4
      have L_8 := Lib.hid (Nw3.out.same (SameIn.below bw4 (by omega)))
      clear Nw3
      have BL_9 := Lib.hid (BL_5.out.trans (bw4.mono (by omega)))
      clear BL_5 bw4
      go_wp2_with fail
      refine (sameInts_any _ _ _ _ _ _ (0) _ _ _ L_7.out L_8.out (fun _ _ => rfl)).mono ?_
      intro e w5 hq
      obtain ⟨rfl, bw5⟩ := hq.below
      clear hq
      have sw5 : w4.heap.size ≤ w5.heap.size := bw5.size
      have L_10 := Lib.hid (L_6.out.same (SameIn.below bw5 (by omega)))
      clear L_6
      have L_11 := Lib.hid (L_7.out.same (SameIn.below bw5 (by omega)))
      clear L_7
      have L_12 := Lib.hid (L_8.out.same (SameIn.below bw5 (by omega)))
      clear L_8
      have BL_13 := Lib.hid (BL_9.out.trans (bw5.mono (by omega)))
      clear BL_9 bw5
      go_wp2
      go_ret
      exact ⟨rfl, BL_13.out⟩
    case pos =>
      have hn7 := hval.1.2
      have hn1 := hval.1.1
      have hl7 := hval.2.1.2
      have hl1 := hval.2.1.1
      have h49 := mul_le_49 hn7 hl7
      have hpos : 0 < g.n * g.len 0 := Nat.mul_pos (by omega) (by omega)
      have hvi := invert_valid hval
      obtain ⟨n, x, hx⟩ := pkFn_ex hvi
      have hxl : LsFn (rkL g.n (g.len 0) (invertG g).flat (g.n * g.len 0)) n x := ⟨hx.len, fun k hk => by obtain ⟨h1, _, h3⟩ := hx.at' k hk; exact ⟨h1, h3⟩, hx.ix⟩
      have hn0 := hx.pos
      have hn49 := hx.le
      obtain ⟨m, y, hy⟩ := lsFn_ex (skL g.n (g.len 0) g.flat (g.n * g.len 0))
      have hm49 : m ≤ 49 := by rw [hy.len]; exact Nat.le_trans (skL_len _ _ _ _) h49
      have HI := Lib.hid (fun (W : World) (hi' : Nat) (v : Value) (h : RdM 0 hi' W v g) (hh : hi' ≤ W.heap.size) => (implPit_at v 0 hi' g W h hh hval).mono fun _ _ k => hxl.lg h49 k)
      have HS := Lib.hid (fun (W : World) (hi' : Nat) (v : Value) (h : RdM 0 hi' W v g) (hh : hi' ≤ W.heap.size) => (specPit_at v 0 hi' g W h hh hval).mono fun _ _ k => hxl.ls h49 k)
      have HK := Lib.hid (fun (W : World) (hi' : Nat) (v : Value) (h : RdM 0 hi' W v g) (hh : hi' ≤ W.heap.size) => (implSk_at v 0 hi' g W h hh hval).mono fun _ _ k => hy.lg h49 k)
      have HHS := Lib.hid (fun (k : Nat) (hk : k < n) (W : World) (lo hi' : Nat) (v : Value) (h : RdI lo hi' W v m (fun j => (y j : Int))) => by
        obtain ⟨h1, h2, _⟩ := hx.at' k hk
        have := hy.hasInt h49 hm49 v lo hi' (x k) (by have : x k < g.n * g.len 0 := h1; omega) W h
        have e := sk_any (R := g.n) (C := g.len 0) (Z := g.flat) ⟨x k, h1⟩ (pit_sink h2)
        simp only at e
        rw [e] at this
        exact this)
      have HHO := Lib.hid (fun (k : Nat) (hk : k < m) (W : World) (lo hi' : Nat) (v : Value) (h : RdI lo hi' W v n (fun j => (x j : Int))) => by
        have := hx.hasInt hvi v lo hi' ⟨y k, (hy.mem hk).1⟩ W h
        rw [← pkAt_eq] at this
        exact (show Calls Try.prog 19 #[v, .int .i64 (y k)] W (HasPost (pkAt g.n (g.len 0) (invertG g).flat (y k)) W) from this))
      have HNE := Lib.hid (fun (k : Nat) (hk : k < m) => show ∃ (q : Nat) (u : Nat → Nat) (al : Nat → Bool), q ≤ 4 ∧ al 0 = true ∧ (∀ j, j < q → al (j + 1) = (al j && (g.flat (u j) != g.flat (y k)))) ∧ (∀ j, j < q → u j < g.n * g.len 0) ∧ (al q = true → pkAt g.n (g.len 0) (invertG g).flat (y k) = true) ∧
          (∀ (W : World) (hi' : Nat) (v : Value) (h : RdM 0 hi' W v g) (hh : hi' ≤ W.heap.size), Calls Try.prog 15 #[v, .int .i64 (y k)] W (LsPost1 q (fun j => (u j : Int)) W)) from by
        obtain ⟨h1, h2⟩ := hy.mem hk
        obtain ⟨q, u, hu⟩ := lsFn_ex (near g.n (g.len 0) ⟨y k, h1⟩ 4)
        refine ⟨q, u, alB g.flat (g.flat (y k)) (near g.n (g.len 0) ⟨y k, h1⟩ 4), by rw [hu.len]; exact near_len _ _ _ 4, alB_zero _ _ _, fun j hj => ?_, fun j hj => (hu.mem hj).1, fun ha => ?_, fun W hi' v h hh => nearL_any v 0 hi' g (y k) h1 q u hu W h hh hval⟩
        · obtain ⟨h3, h4⟩ := hu.at' j hj
          have h5 : j < (near g.n (g.len 0) ⟨y k, h1⟩ 4).length := by rw [← hu.len]; exact hj
          rw [alB_step _ _ _ h5]
          rw [List.getElem?_eq_getElem h5] at h4
          simp only [Option.some.injEq] at h4
          rw [h4]
        · rw [hu.len] at ha
          exact (pkAt_eq (R := g.n) (C := g.len 0) (Z := (invertG g).flat) ⟨y k, h1⟩).trans (sink_pit (skL_holds.1 h2).2 (alB_all ha)))
      have HYB := Lib.hid (fun (k : Nat) (hk : k < m) => (hy.mem hk).1)
      have HH := Lib.hid (fun (i : Nat) (hi : i < g.n * g.len 0) (W : World) (hi' : Nat) (v : Value) (h : RdM 0 hi' W v g) => heightOf_any v 0 hi' g i W h hval hi)
      clear hx hy hxl
      go_wp2_with fail
      refine (HI.out _ w1.heap.size _ (R_g.out.mono (Nat.zero_le _) (by omega)) (Nat.le_refl _)).mono ?_
      rintro e w2 ⟨_, rfl, ⟨_, _, _, rfl⟩, ow2, bw2⟩
      have Nw2 := Lib.hid (ow2.rd)
      clear ow2
      have sw2 : w1.heap.size ≤ w2.heap.size := bw2.size
      have L_1 := Lib.hid (R_g.out.same (SameIn.below bw2 (by omega)))
      clear R_g
      have BL_2 := Lib.hid (BL.out.trans (bw2.mono (by omega)))
      clear BL bw2
      obtain ⟨_, _, e0⟩ := (Nw2.out).shapeN
      simp only [Value.slice.injEq] at e0
      obtain ⟨rfl, e1, rfl⟩ := e0
      have e2 := e1.symm
      subst e2
      have hpb : ((n : Int) == 0) = false := by rw [beq_eq_false_iff_ne]; omega
      go_wp2_with fail
      refine (HS.out _ w2.heap.size _ (L_1.out.mono (Nat.zero_le _) (by omega)) (Nat.le_refl _)).mono ?_
      rintro e w3 ⟨_, rfl, ⟨_, _, _, rfl⟩, ow3, bw3⟩
      have Nw3 := Lib.hid (ow3)
      clear ow3
      have sw3 : w2.heap.size ≤ w3.heap.size := bw3.size
      have L_3 := Lib.hid (L_1.out.same (SameIn.below bw3 (by omega)))
      clear L_1
      have L_4 := Lib.hid (Nw2.out.same (SameIn.below bw3 (by omega)))
      clear Nw2
      have BL_5 := Lib.hid (BL_2.out.trans (bw3.mono (by omega)))
      clear BL_2 bw3
      go_wp2_with fail
      refine (sameInts_any _ _ _ _ _ _ (n) _ _ _ L_4.out Nw3.out (fun _ _ => rfl)).mono ?_
      intro e w4 hq
      obtain ⟨rfl, bw4⟩ := hq.below
      clear hq
      have sw4 : w3.heap.size ≤ w4.heap.size := bw4.size
      have L_6 := Lib.hid (L_3.out.same (SameIn.below bw4 (by omega)))
      clear L_3
      have L_7 := Lib.hid (L_4.out.same (SameIn.below bw4 (by omega)))
      clear L_4
      have L_8 := Lib.hid (Nw3.out.same (SameIn.below bw4 (by omega)))
      clear Nw3
      have BL_9 := Lib.hid (BL_5.out.trans (bw4.mono (by omega)))
      clear BL_5 bw4
      go_wp2_with fail
      refine (HK.out _ w4.heap.size _ (L_6.out.mono (Nat.zero_le _) (by omega)) (Nat.le_refl _)).mono ?_
      rintro e w5 ⟨_, rfl, ⟨_, _, _, rfl⟩, ow5, bw5⟩
      have Nw5 := Lib.hid (ow5.rd)
      clear ow5
      have sw5 : w4.heap.size ≤ w5.heap.size := bw5.size
      have L_10 := Lib.hid (L_6.out.same (SameIn.below bw5 (by omega)))
      clear L_6
      have L_11 := Lib.hid (L_7.out.same (SameIn.below bw5 (by omega)))
      clear L_7
      have BL_12 := Lib.hid (BL_9.out.trans (bw5.mono (by omega)))
      clear BL_9 bw5
      obtain ⟨_, _, e0⟩ := (Nw5.out).shapeN
      simp only [Value.slice.injEq] at e0
      obtain ⟨rfl, e1, rfl⟩ := e0
      have e2 := e1.symm
      subst e2
      have HGC := Lib.hid (fun (W : World) (hb : Below w5.heap.size w5 W) => (L_10.out.same (SameIn.below hb (by omega))).mono (Nat.zero_le _) (show _ ≤ w5.heap.size by omega))
      have HSC := Lib.hid (fun (W : World) (hb : Below w5.heap.size w5 W) => Nw5.out.same (SameIn.below hb (by omega)))
      have HOC := Lib.hid (fun (W : World) (hb : Below w5.heap.size w5 W) => L_11.out.same (SameIn.below hb (by omega)))
      obtain ⟨bX, oX, capbX, e2, k5, _, k7, k8⟩ := L_11.out.openN (by omega)
      simp only [Value.slice.injEq] at e2
      obtain ⟨rfl, _, rfl⟩ := e2
      have HXL := Lib.hid (fun (W : World) (hb : Below w5.heap.size w5 W) (j : Nat) (hj : j < n) => show W.cell? ⟨bX, oX + j, none⟩ = some (.int .i64 (x j : Nat)) from (hb.cell (p := ⟨bX, oX + j, none⟩) (by show bX < _; omega)).trans (k8 j hj))
      clear k8
      go_wp2
      go_loopw [7] (fun c' wr => ∃ k : Nat, k ≤ n ∧ c' = .int .i64 k ∧ Below w5.heap.size w5 wr) (fun c' _ => n - (intOf c').toNat)
      case atStart => exact ⟨0, Nat.zero_le _, rfl, Below.refl _ _⟩
      case round =>
        obtain ⟨k, hk, rfl, hb⟩ := hrel
        have HB := Lib.hid hb
        have hsz := hb.size
        clear hb
        by_cases hlt : k < n
        · have hlt' : (k : Int) < n := by omega
          have c1 := HXL.out wr HB.out k hlt
          have HIC := Lib.hid (HHS.out k hlt wr _ _ _ (HSC.out wr HB.out))
          obtain ⟨X, eX⟩ : ∃ X, x k = X := ⟨_, rfl⟩
          simp only [eX] at c1 HIC
          clear eX
          go_wp2_with fail
          refine HIC.out.mono ?_
          rintro e w8 ⟨rfl, q8, rfl⟩
          have HB8 := Lib.hid (below_drewN HB.out q8)
          go_wp2
          go_roundw
          case rel => exact ⟨k + 1, hlt, by go_num, HB8.out⟩
          case measure => simp [intOf]; omega
        · have hlt' : ¬ (k : Int) < n := by omega
          go_wp2
          go_loopw [8] (fun c' wr2 => ∃ i : Nat, i ≤ m ∧ c' = .int .i64 i ∧ Below w5.heap.size w5 wr2) (fun c' _ => m - (intOf c').toNat)
          case atStart => exact ⟨0, Nat.zero_le _, rfl, HB.out⟩
          case round =>
            obtain ⟨i, hi', rfl, hb⟩ := hrel
            have HB2 := Lib.hid hb
            have hsz2 := hb.size
            clear hb
            by_cases hli : i < m
            · have hli' : (i : Int) < m := by omega
              obtain ⟨q, u, al, hq4, hal0, hals, hub, halq, hnear⟩ := HNE.out i hli
              have HAL0 := Lib.hid hal0
              have HALS := Lib.hid hals
              have HUB := Lib.hid hub
              have HALQ := Lib.hid halq
              have HNEAR := Lib.hid (hnear wr w5.heap.size _ (HGC.out _ HB2.out) hsz2)
              clear hal0 hals hub halq hnear
              have HS2 := Lib.hid (fun (W : World) (hb : Below w5.heap.size w5 W) => (HSC.out W hb).openN (by omega))
              have HOH := Lib.hid (fun (W : World) (hb : Below w5.heap.size w5 W) => HHO.out i hli W _ _ _ (HOC.out W hb))
              have hyb := HYB.out i hli
              have HHY := Lib.hid (fun (W : World) (hb : Below w5.heap.size w5 W) => HH.out (y i) hyb W w5.heap.size _ (HGC.out _ hb))
              obtain ⟨bS, oS, capS, e2, k5, _, k7, k8⟩ := HS2.out w5 (Below.refl _ _)
              simp only [Value.slice.injEq] at e2
              obtain ⟨rfl, _, rfl⟩ := e2
              have HCY := Lib.hid (fun (W : World) (hb : Below w5.heap.size w5 W) => show W.cell? ⟨bS, oS + i, none⟩ = some (.int .i64 (y i : Nat)) from (hb.cell (p := ⟨bS, oS + i, none⟩) (by show bS < _; omega)).trans (k8 i hli))
              clear k8 HS2
              obtain ⟨Y, eY⟩ : ∃ Y, y i = Y := ⟨_, rfl⟩
              simp only [eY] at HALS HALQ HNEAR HOH hyb HHY HCY
              obtain ⟨z, ez⟩ : ∃ z, g.flat Y = z := ⟨_, rfl⟩
              rw [ez] at HALS
              simp only [ez] at HHY
              obtain ⟨pk, epk⟩ : ∃ t, pkAt g.n (g.len 0) (invertG g).flat Y = t := ⟨_, rfl⟩
              rw [epk] at HALQ
              have HOH2 := Lib.hid (show ∀ (W : World), Below w5.heap.size w5 W → Calls Try.prog 19 #[_, .int .i64 Y] W (HasPost pk W) from fun W hb => by rw [← epk]; exact HOH.out W hb)
              clear eY ez epk HOH
              have cy := HCY.out wr HB2.out
              go_wp2_with fail
              refine HNEAR.out.mono ?_
              rintro e w9 ⟨_, rfl, ⟨_, _, _, rfl⟩, o9, b9⟩
              obtain ⟨_, _, e0⟩ := o9.shapeN
              simp only [Value.slice.injEq] at e0
              obtain ⟨rfl, e1, rfl⟩ := e0
              have e2 := e1.symm
              subst e2
              have HB9 := Lib.hid (HB2.out.trans (b9.mono hsz2))
              have HNR := Lib.hid o9
              have hs9 := b9.size
              clear o9 b9 cy
              go_wp2
              go_loopw [9, 11] (fun a c' wr3 => ∃ j : Nat, j ≤ q ∧ a = .bool (al j) ∧ c' = .int .i64 j ∧ Below w9.heap.size w9 wr3) (fun _ c' _ => q - (intOf c').toNat)
              case atStart => exact ⟨0, Nat.zero_le _, by rw [HAL0.out], rfl, Below.refl _ _⟩
              case round =>
                obtain ⟨j, hj, rfl, rfl, hb⟩ := hrel
                have HB3 := Lib.hid (HB9.out.trans (hb.mono (by omega)))
                have HB4 := Lib.hid hb
                have hsz3 := hb.size
                clear hb
                by_cases hlj : j < q
                · have hlj' : (j : Int) < q := by omega
                  have hst := HALS.out j hlj
                  obtain ⟨t, et⟩ : ∃ t, al j = t := ⟨_, rfl⟩
                  rw [et] at hst ⊢
                  clear et
                  cases t with
                  | false =>
                    have HST := Lib.hid (show al (j + 1) = false from hst)
                    clear hst
                    go_wp2_with fail
                    go_quiet (fail)
                    go_wp2
                    go_roundw
                    case rel => exact ⟨j + 1, hlj, by rw [HST.out], by go_num, by first | exact HB4.out | exact below_drewN HB4.out _⟩
                    case measure => simp [intOf]; omega
                  | true =>
                    obtain ⟨bN, oN, capN, e2, k5, _, k7, k8⟩ := (HNR.out.same (SameIn.below HB4.out (Nat.le_refl _))).openN (by omega)
                    simp only [Value.slice.injEq] at e2
                    obtain ⟨rfl, _, rfl⟩ := e2
                    have c1 := k8 j hlj
                    have c2 := HCY.out wr HB3.out
                    have hub := HUB.out j hlj
                    have H1 := Lib.hid (fun N => HH.out (u j) hub (wr.drewN N) w5.heap.size _ (HGC.out _ (below_drewN HB3.out N)))
                    have H2 := Lib.hid (fun N => HHY.out (wr.drewN N) (below_drewN HB3.out N))
                    obtain ⟨U, eU⟩ : ∃ U, u j = U := ⟨_, rfl⟩
                    simp only [eU] at c1 H1 hst
                    obtain ⟨zu, ezu⟩ : ∃ z, g.flat U = z := ⟨_, rfl⟩
                    simp only [ezu] at H1 hst
                    have HST := Lib.hid (show al (j + 1) = (zu != z) from hst)
                    clear hst k8 eU ezu
                    go_wp2_with fail
                    go_quiet (first | (go_at_call 18; with_reducible exact Calls.quiet_htP (H1.out _)) | (go_at_call 18; with_reducible exact Calls.quiet_htP (H2.out _)))
                    go_wp2
                    go_roundw
                    case rel => exact ⟨j + 1, hlj, by rw [HST.out], by go_num, by first | exact HB4.out | exact below_drewN HB4.out _⟩
                    case measure => simp [intOf]; omega
                · have hlj' : ¬ (j : Int) < q := by omega
                  obtain rfl : j = q := by omega
                  have hql := HALQ.out
                  obtain ⟨t, et⟩ : ∃ t, al j = t := ⟨_, rfl⟩
                  rw [et] at hql ⊢
                  clear et
                  have c2 := HCY.out wr HB3.out
                  cases t with
                  | false =>
                    clear hql
                    go_wp2
                    go_roundw
                    case rel => exact ⟨i + 1, hli, by go_num, HB3.out⟩
                    case measure => simp [intOf]; omega
                  | true =>
                    obtain rfl := hql rfl
                    go_wp2_with fail
                    refine (HOH2.out _ HB3.out).mono ?_
                    rintro e w12 ⟨rfl, q12, rfl⟩
                    have HB12 := Lib.hid (below_drewN HB3.out q12)
                    go_wp2
                    go_roundw
                    case rel => exact ⟨i + 1, hli, by go_num, HB12.out⟩
                    case measure => simp [intOf]; omega
            · have hli' : ¬ (i : Int) < m := by omega
              have HBF := Lib.hid (BL_12.out.trans (HB2.out.mono (by omega)))
              go_wp2
              go_ret
              exact ⟨rfl, HBF.out⟩
end Go.Proofs.Ytcfeckpbjdipeaa
