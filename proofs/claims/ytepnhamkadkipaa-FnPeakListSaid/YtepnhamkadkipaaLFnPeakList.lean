/- The law FnPeakList of the promises: its walk. -/
import Derived.Test.YtepnhamkadkipaaPkP
import Derived.StillTailTactics
import Derived.Test.YtepnhamkadkipaaPHasB
import Derived.Test.YtepnhamkadkipaaPkLS
import Derived.Test.YtepnhamkadkipaaPkLI
import Derived.Test.YtepnhamkadkipaaPkI2
import Derived.Test.YtepnhamkadkipaaPkS
import Derived.Test.YtepnhamkadkipaaDrawV
namespace Go.Proofs.Ytepnhamkadkipaa
open Go.RowKit
set_option linter.unusedVariables false

set_option maxHeartbeats 4000000 in
set_option maxRecDepth 100000 in
theorem law_FnPeakList (v : Value) (n : Nat) (w : World) (hv : RdB w.heap.size w v n) : Calls Try.prog 5 #[v] w (LawPost w) := by
  have HD := Lib.hid (draw_DrawPeakList v n w.heap.size w hv (Nat.le_refl _))
  obtain ⟨ao, cap, cb, off, Z, rfl, hc1, hc2, _⟩ := hv
  by_cases hn : 1048576 < n
  · have hn' : (1048576 : Int) < n := by omega
    go_enter Try.func5, Try.ntmps5
    go_wp2
    go_ret
    exact ⟨rfl, Below.refl _ _⟩
  · have hn' : ¬ (1048576 : Int) < n := by omega
    go_enter Try.func5, Try.ntmps5
    go_wp2_with fail
    refine HD.out.mono ?_
    rintro e w1 ⟨vg, g, rfl, _, hm, hgn, hgl, bw1⟩
    obtain ⟨ag, cg, rfl⟩ := hm.shapeV
    have R_g := Lib.hid hm
    clear hm HD hgl
    have sw1 : w.heap.size ≤ w1.heap.size := bw1.size
    have BL := Lib.hid bw1
    clear bw1
    by_cases hval : g.Valid
    case neg =>
      go_wp2_with fail
      refine (implPkL_no _ 0 w1.heap.size g _ (R_g.out.mono (Nat.zero_le _) (by omega)) (Nat.le_refl _) hval).mono ?_
      rintro e w2 ⟨_, rfl, ⟨_, _, _, rfl⟩, ow2, bw2⟩
      have Nw2 := Lib.hid (ow2.rd)
      clear ow2
      have sw2 : w1.heap.size ≤ w2.heap.size := bw2.size
      have L_1 := Lib.hid (R_g.out.same (SameIn.below bw2 (by omega)))
      clear R_g
      have BL_2 := Lib.hid (BL.out.trans (bw2.mono (by omega)))
      clear BL bw2
      obtain ⟨_, _, e0⟩ := (Nw2.out).shapeN
      simp only [Value.slice.injEq] at e0
      obtain ⟨rfl, rfl, rfl⟩ := e0
      go_wp2_with fail
      refine (specPkL_no _ 0 w2.heap.size g _ (L_1.out.mono (Nat.zero_le _) (by omega)) (Nat.le_refl _) hval).mono ?_
      rintro e w3 ⟨_, rfl, ⟨_, _, _, rfl⟩, ow3, bw3⟩
      have Nw3 := Lib.hid (ow3)
      clear ow3
      have sw3 : w2.heap.size ≤ w3.heap.size := bw3.size
      have L_3 := Lib.hid (L_1.out.same (SameIn.below bw3 (by omega)))
      clear L_1
      have L_4 := Lib.hid (Nw2.out.same (SameIn.below bw3 (by omega)))
      clear Nw2
      have BL_5 := Lib.hid (BL_2.out.trans (bw3.mono (by omega)))
      clear BL_2 bw3
      go_wp2_with fail
      refine (sameInts_any _ _ _ _ _ _ (0) _ _ _ L_4.out Nw3.out (fun _ _ => rfl)).mono ?_
      intro e w4 hq
      obtain ⟨rfl, bw4⟩ := hq.below
      clear hq
      have sw4 : w3.heap.size ≤ w4.heap.size := bw4.size
      have L_6 := Lib.hid (L_3.out.same (SameIn.below bw4 (by omega)))
      clear L_3
      have L_7 := Lib.hid (L_4.out.same (SameIn.below bw4 (by omega)))
      clear L_4
      have L_8 := Lib.hid (Nw3.out.same (SameIn.below bw4 (by omega)))
      clear Nw3
      have BL_9 := Lib.hid (BL_5.out.trans (bw4.mono (by omega)))
      clear BL_5 bw4
      go_wp2_with fail
      refine (sameInts_any _ _ _ _ _ _ (0) _ _ _ L_7.out L_8.out (fun _ _ => rfl)).mono ?_
      intro e w5 hq
      obtain ⟨rfl, bw5⟩ := hq.below
      clear hq
      have sw5 : w4.heap.size ≤ w5.heap.size := bw5.size
      have L_10 := Lib.hid (L_6.out.same (SameIn.below bw5 (by omega)))
      clear L_6
      have L_11 := Lib.hid (L_7.out.same (SameIn.below bw5 (by omega)))
      clear L_7
      have L_12 := Lib.hid (L_8.out.same (SameIn.below bw5 (by omega)))
      clear L_8
      have BL_13 := Lib.hid (BL_9.out.trans (bw5.mono (by omega)))
      clear BL_9 bw5
      go_wp2
      go_ret
      exact ⟨rfl, BL_13.out⟩
    case pos =>
      have hn7 := hval.1.2
      have hn1 := hval.1.1
      have hl7 := hval.2.1.2
      have hl1 := hval.2.1.1
      have h49 := mul_le_49 hn7 hl7
      have hpos : 0 < g.n * g.len 0 := Nat.mul_pos (by omega) (by omega)
      obtain ⟨hl0, hfst⟩ := rk_first (R := g.n) (C := g.len 0) (Z := g.flat) hpos
      have HNX := Lib.hid (fun k hk => rk_next (R := g.n) (C := g.len 0) (Z := g.flat) (k := k) hk)
      have HHS := Lib.hid (fun i => rk_has (R := g.n) (C := g.len 0) (Z := g.flat) i)
      have HLE := Lib.hid (rkL_len (R := g.n) (C := g.len 0) (Z := g.flat) (k := g.n * g.len 0))
      have HPI := Lib.hid (fun (W : World) (hi : Nat) (u : Value) (i : Ix (g.n * g.len 0)) (h : RdM 0 hi W u g) (hh : hi ≤ W.heap.size) => implPkIs_at u 0 hi g i W h hh hval)
      go_wp2_with fail
      refine (implPkL_yes _ 0 w1.heap.size g _ (R_g.out.mono (Nat.zero_le _) (by omega)) (Nat.le_refl _) hval).mono ?_
      rintro e w2 ⟨_, rfl, ⟨_, _, _, rfl⟩, ow2, bw2⟩
      have Nw2 := Lib.hid (ow2.rd)
      clear ow2
      have sw2 : w1.heap.size ≤ w2.heap.size := bw2.size
      have L_1 := Lib.hid (R_g.out.same (SameIn.below bw2 (by omega)))
      clear R_g
      have BL_2 := Lib.hid (BL.out.trans (bw2.mono (by omega)))
      clear BL bw2
      obtain ⟨L, eL⟩ : ∃ L, rkL g.n (g.len 0) g.flat (g.n * g.len 0) = L := ⟨_, rfl⟩
      have HSP := Lib.hid (fun (W : World) (v : Value) (hi : Nat) (h : RdM 0 hi W v g) (hh : hi ≤ W.heap.size) => specPkL_yes v 0 hi g W h hh hval)
      have hfst2 := hfst
      simp only [eL] at Nw2 hl0 HNX HHS HLE HSP hfst2
      obtain ⟨_, _, e0⟩ := (Nw2.out).shapeN
      simp only [Value.slice.injEq] at e0
      obtain ⟨rfl, rfl, rfl⟩ := e0
      have hlen : L.length ≤ g.n * g.len 0 := HLE.out
      have hpb : ((L.length : Int) == 0) = false := by rw [beq_eq_false_iff_ne]; omega
      have htop := mx_top (Z := g.flat) (L[0]).2 (fun x hx => hiB_le (hfst2 x hx))
      have HTOP := Lib.hid htop
      clear hfst hfst2 htop
      go_wp2_with fail
      refine (HSP.out _ _ w2.heap.size (L_1.out.mono (Nat.zero_le _) (by omega)) (Nat.le_refl _)).mono ?_
      rintro e w3 ⟨_, rfl, ⟨_, _, _, rfl⟩, ow3, bw3⟩
      have Nw3 := Lib.hid (ow3)
      clear ow3
      have sw3 : w2.heap.size ≤ w3.heap.size := bw3.size
      have L_3 := Lib.hid (L_1.out.same (SameIn.below bw3 (by omega)))
      clear L_1
      have L_4 := Lib.hid (Nw2.out.same (SameIn.below bw3 (by omega)))
      clear Nw2
      have BL_5 := Lib.hid (BL_2.out.trans (bw3.mono (by omega)))
      clear BL_2 bw3
      go_wp2_with fail
      refine (sameInts_any _ _ _ _ _ _ (L.length) _ _ _ L_4.out Nw3.out (fun _ _ => rfl)).mono ?_
      intro e w4 hq
      obtain ⟨rfl, bw4⟩ := hq.below
      clear hq
      have sw4 : w3.heap.size ≤ w4.heap.size := bw4.size
      have L_6 := Lib.hid (L_3.out.same (SameIn.below bw4 (by omega)))
      clear L_3
      have L_7 := Lib.hid (L_4.out.same (SameIn.below bw4 (by omega)))
      clear L_4
      have L_8 := Lib.hid (Nw3.out.same (SameIn.below bw4 (by omega)))
      clear Nw3
      have BL_9 := Lib.hid (BL_5.out.trans (bw4.mono (by omega)))
      clear BL_5 bw4
      obtain ⟨bL, oL, capL, e2, k5, _, k7, k8⟩ := L_7.out.openN hl0
      simp only [Value.slice.injEq] at e2
      obtain ⟨rfl, _, rfl⟩ := e2
      have HLL := Lib.hid (fun (W : World) (hb : Below w4.heap.size w4 W) (j : Nat) (hj : j < L.length) => show W.cell? ⟨bL, oL + j, none⟩ = some (.int .i64 (L[j].1 : Nat)) from by
        rw [← ixZ_at L hj]; exact (hb.cell (p := ⟨bL, oL + j, none⟩) (by show bL < _; omega)).trans (k8 j hj))
      have HRO := Lib.hid (fun (W : World) (hb : Below w4.heap.size w4 W) => L_7.out.same (SameIn.below hb (by omega)))
      have HGC := Lib.hid (fun (W : World) (hb : Below w4.heap.size w4 W) => (L_6.out.same (SameIn.below hb (by omega))).mono (Nat.zero_le _) (show _ ≤ w4.heap.size by omega))
      clear k8
      have hlt0 : (0 : Int) < L.length := by omega
      go_wp2
      go_loopw [6] (fun c wr => ∃ m : Nat, m + 1 ≤ L.length ∧ c = .int .i64 ((m : Int) + 1) ∧ Below w4.heap.size w4 wr) (fun c _ => L.length - (intOf c).toNat)
      case atStart => exact ⟨0, by omega, rfl, Below.refl _ _⟩
      case round =>
        obtain ⟨m, hm, rfl, hb⟩ := hrel
        have HB := Lib.hid hb
        have hszb := hb.size
        clear hb
        by_cases hlt : m + 1 < L.length
        · have hlt' : (m : Int) + 1 < L.length := by omega
          have hlt2 : (m : Int) < L.length := by omega
          have hwm : IntKind.i64.wrap (m : Int) = m := IntWalk.i64_in _ (by omega)
          have hge : (0 : Int) ≤ (m : Int) + 1 := by omega
          have htn : ((m : Int) + 1).toNat = m + 1 := by omega
          have c1 := HLL.out _ HB.out m (by omega)
          have c2 := HLL.out _ HB.out (m + 1) hlt
          have hnx := HNX.out m hlt
          have HHI := Lib.hid (higher_any _ 0 w4.heap.size g (L[m]).1 (L[m + 1]).1 wr.drew ((HGC.out _ HB.out).same (fun _ _ _ => rfl)) hval (L[m]).2 (L[m + 1]).2)
          rw [hnx] at HHI
          obtain ⟨x, ex⟩ : ∃ x, (L[m]).1 = x := ⟨_, rfl⟩
          obtain ⟨y, ey⟩ : ∃ x, (L[m + 1]).1 = x := ⟨_, rfl⟩
          rw [ex] at c1 HHI
          rw [ey] at c2 HHI
          clear hnx ex ey
          go_wp2_with fail
          go_still_tail 10, (by kernel_rfl)
          change wpList _ _ _ _ _ wr.drew
          go_wp2_with fail
          refine HHI.out.mono ?_
          rintro e w8 ⟨rfl, b8⟩
          have HB8 := Lib.hid (HB.out.trans (b8.undrew.mono hszb))
          clear b8 c1 c2
          go_wp2
          go_roundw
          case rel => exact ⟨m + 1, by omega, by go_num, HB8.out⟩
          case measure => simp [intOf]; omega
        · have hlt' : ¬ (m : Int) + 1 < L.length := by omega
          go_wp2
          go_loopw [7] (fun c wr2 => ∃ i : Nat, i ≤ g.n * g.len 0 ∧ c = .int .i64 i ∧ Below w4.heap.size w4 wr2) (fun c _ => g.n * g.len 0 - (intOf c).toNat)
          case atStart => exact ⟨0, Nat.zero_le _, rfl, HB.out⟩
          case round =>
            obtain ⟨i, hi', rfl, hb⟩ := hrel
            have HB2 := Lib.hid hb
            have hsz2 := hb.size
            have HCE := Lib.hid (cellsOf_any _ 0 w4.heap.size g wr (HGC.out _ hb) hval)
            clear hb
            obtain ⟨N, eN⟩ : ∃ N, g.n * g.len 0 = N := ⟨_, rfl⟩
            have EN := Lib.hid eN
            by_cases hli : i < g.n * g.len 0
            · have hli' : (i : Int) < N := by omega
              have HH := Lib.hid (hasInt_any _ _ _ L i wr (HRO.out _ HB2.out) h49 (by omega) (by omega))
              have hq := HHS.out ⟨i, hli⟩
              rw [show L.any (fun x => x.1 == i) = pkQ g.n (g.len 0) g.flat ⟨i, hli⟩ from hq] at HH
              have HP := Lib.hid (fun (W : World) (hb : Below w4.heap.size w4 W) => HPI.out W w4.heap.size _ ⟨i, hli⟩ (HGC.out W hb) hb.size)
              obtain ⟨t, et⟩ : ∃ t, pkQ g.n (g.len 0) g.flat ⟨i, hli⟩ = t := ⟨_, rfl⟩
              rw [et] at HH
              simp only [et] at HP
              have htt : (t != t) = false := by simp
              rw [eN] at HCE
              clear et hq eN
              go_wp2_with fail
              refine HCE.out.mono ?_
              rintro e w10 ⟨rfl, rfl⟩
              go_wp2_with fail
              refine HH.out.mono ?_
              rintro e w11 ⟨rfl, q11, rfl⟩
              have HB11 := Lib.hid (below_drewN HB2.out q11)
              go_wp2_with fail
              refine (HP.out _ HB11.out).mono ?_
              rintro e w12 ⟨rfl, b12⟩
              have HB12 := Lib.hid (HB11.out.trans (b12.mono HB11.out.size))
              clear b12
              go_wp2
              go_roundw
              case rel => exact ⟨i + 1, by omega, by go_num, HB12.out⟩
              case measure => simp [intOf]; omega
            · have hli' : ¬ (i : Int) < N := by omega
              have c0 := HLL.out _ HB2.out 0 hl0
              have HHT := Lib.hid (fun (W : World) (hb : Below w4.heap.size w4 W) => heightOf_any _ 0 w4.heap.size g (L[0]).1 W (HGC.out W hb) hval (L[0]).2)
              have HRG := Lib.hid (fun (W : World) (hb : Below w4.heap.size w4 W) => implGridRange_yes _ 0 w4.heap.size g W (HGC.out W hb) hb.size hval)
              have htop := HTOP.out
              obtain ⟨x, ex⟩ : ∃ x, (L[0]).1 = x := ⟨_, rfl⟩
              rw [ex] at HHT htop c0
              rw [htop] at HRG
              obtain ⟨z, ez⟩ : ∃ z, g.flat x = z := ⟨_, rfl⟩
              rw [ez] at HHT HRG
              have hzz : (z == z) = true := by simp
              rw [eN] at HCE
              rw [Nat.add_zero] at c0
              clear htop ex ez eN
              go_wp2_with fail
              refine HCE.out.mono ?_
              rintro e w10 ⟨rfl, rfl⟩
              go_wp2_with fail
              refine (HRG.out _ HB2.out).mono ?_
              rintro e w11 ⟨rfl, b11⟩
              have HB11 := Lib.hid (HB2.out.trans (b11.mono hsz2))
              have c0' := (b11.cell (p := ⟨bL, oL, none⟩) (by show bL < _; omega)).trans c0
              clear b11 c0
              go_wp2_with fail
              refine (HHT.out _ HB11.out).mono ?_
              rintro e w12 ⟨rfl, q12, rfl⟩
              have HBF := Lib.hid (BL_9.out.trans ((below_drewN HB11.out q12).mono (by omega)))
              go_wp2
              go_ret
              exact ⟨rfl, HBF.out⟩
end Go.Proofs.Ytepnhamkadkipaa
