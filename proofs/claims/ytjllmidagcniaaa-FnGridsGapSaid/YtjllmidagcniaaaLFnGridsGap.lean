/- The law FnGridsGap of the promises: its walk. -/
import Derived.Test.YtjllmidagcniaaaSdM
import Derived.Test.YtjllmidagcniaaaDrawSe
namespace Go.Proofs.Ytjllmidagcniaaa
open Go.RowKit
set_option linter.unusedVariables false

theorem sizeOf_any (n : Int) (w : World) (h1 : -1000 ≤ n) (h2 : n ≤ 1000) (x : Int) (hx : absI n = x) :
    Calls Try.prog 25 #[.int .i64 n] w (fun e w' => e = .returned (.int .i64 x) ∧ w' = w) := by
  have HX := Lib.hid (show max n (-n) = x from by rw [← hx]; unfold absI; rw [Int.zero_sub])
  clear hx
  go_enter Try.func25, Try.ntmps25
  go_wp2
  go_ret
  refine ⟨?_, rfl⟩
  show Ending.returned (.int .i64 (max n (-n))) = _
  rw [HX.out]
theorem mid_parts (x y : Int) : absI ((x + y) / 2 - x) + absI ((x + y) / 2 - y) = absI (x - y) := by unfold absI; omega
theorem specGap_i (v u : Value) (lo hi : Nat) (a b : G) (w : World) (hv : RdM lo hi w v a) (hu : RdM lo hi w u b) (x : Int) (h : gapV a b = x) :
    Calls Try.prog 24 #[v, u] w (IntPost x w) := by
  have := specGridsGap_any v u lo hi a b w hv hu; rwa [h] at this

set_option maxHeartbeats 4000000 in
set_option maxRecDepth 100000 in
theorem law_FnGridsGap (v : Value) (n : Nat) (w : World) (hv : RdB w.heap.size w v n) : Calls Try.prog 5 #[v] w (LawPost w) := by
  have HD := Lib.hid (draw_DrawGridsGap v n w.heap.size w hv (Nat.le_refl _))
  obtain ⟨ao, cap, cb, off, Z, rfl, hc1, hc2, _⟩ := hv
  by_cases hn : 1048576 < n
  · have hn' : (1048576 : Int) < n := by omega
    go_enter Try.func5, Try.ntmps5
    go_wp2
    go_ret
    exact ⟨rfl, Below.refl _ _⟩
  · have hn' : ¬ (1048576 : Int) < n := by omega
    go_enter Try.func5, Try.ntmps5
    go_wp2_with fail
    refine HD.out.mono ?_
    rintro e w1 ⟨va, a, vb, b, rfl, _, _, hma, hmb, hna, hnb, hla, hlb, bw1⟩
    obtain ⟨ba, oa, ca, rfl⟩ := hma.shape (by omega)
    obtain ⟨bb, ob, cb', rfl⟩ := hmb.shape (by omega)
    have R_a := Lib.hid hma
    have R_b := Lib.hid hmb
    have HLA := Lib.hid hla
    have HLB := Lib.hid hlb
    obtain ⟨hna1, hna5⟩ := hna
    obtain ⟨hnb1, hnb5⟩ := hnb
    clear hma hmb hla hlb HD
    have sw1 : w.heap.size ≤ w1.heap.size := bw1.size
    have BL := Lib.hid bw1
    clear bw1
    by_cases hok : RwOk a b
    case neg =>
      have HNO := Lib.hid (gapV_no hok)
      clear hok
      go_wp2_with fail
      refine (implGap_i _ _ 0 w1.heap.size a b _ (R_a.out.mono (Nat.zero_le _) (by omega)) (R_b.out.mono (Nat.zero_le _) (by omega)) (Nat.le_refl _) (-1) HNO.out).mono ?_
      rintro e w2 ⟨rfl, bw2⟩
      have sw2 : w1.heap.size ≤ w2.heap.size := bw2.size
      have L_1 := Lib.hid (R_a.out.same (SameIn.below bw2 (by omega)))
      clear R_a
      have L_2 := Lib.hid (R_b.out.same (SameIn.below bw2 (by omega)))
      clear R_b
      have BL_3 := Lib.hid (BL.out.trans (bw2.mono (by omega)))
      clear BL bw2
      go_wp2_with fail
      refine (specGap_i _ _ 0 w2.heap.size a b _ (L_1.out.mono (Nat.zero_le _) (by omega)) (L_2.out.mono (Nat.zero_le _) (by omega)) (-1) HNO.out).mono ?_
      rintro e w3 ⟨rfl, bw3⟩
      have sw3 : w2.heap.size ≤ w3.heap.size := bw3.size
      have L_4 := Lib.hid (L_1.out.same (SameIn.below bw3 (by omega)))
      clear L_1
      have L_5 := Lib.hid (L_2.out.same (SameIn.below bw3 (by omega)))
      clear L_2
      have BL_6 := Lib.hid (BL_3.out.trans (bw3.mono (by omega)))
      clear BL_3 bw3
      go_wp2
      go_ret
      exact ⟨rfl, BL_6.out⟩
    case pos =>
      have HOK := Lib.hid hok
      have HVA := Lib.hid hok.1
      have HVB := Lib.hid hok.2.1
      have hgr := gapS_ok hok a.n (Nat.le_refl _)
      have hmr := gap_mirror hok
      have hga := gapV_yes hok
      obtain ⟨Gp, eGp⟩ : ∃ Gp, gapS a b a.n = Gp := ⟨_, rfl⟩
      rw [eGp] at hgr hga
      rw [hga] at hmr
      have HGA := Lib.hid hga
      have HGM := Lib.hid hmr
      have EGP := Lib.hid eGp
      have HAG := Lib.hid (show agB a b = decide (Gp = 0) from by unfold agB; rw [hga])
      have HNN := Lib.hid hok.2.2
      have hA1 := hok.1.1
      have hG5 : 0 ≤ Gp ∧ Gp ≤ 1000 := by omega
      have hX1 : (Gp != Gp) = false := by simp
      have hX2 : (Gp == Gp) = true := by simp
      have hX3 : ¬ Gp < 0 := by omega
      have HGS := Lib.hid (fun k (hk : k ≤ a.n) => gapS_ok hok k hk)
      have HMX := Lib.hid (show (mdA a b a.n).n = a.n ∧ (∀ r, (mdA a b a.n).len r = a.len r) ∧ ∀ r, r < a.n → (mdA a b a.n).z r (a.len 0 - 1) = midV a b r from ⟨rfl, fun _ => rfl, fun r hr => by
        show (if r < a.n ∧ a.len 0 - 1 = a.len 0 - 1 then _ else _) = _
        rw [if_pos ⟨hr, rfl⟩]⟩)
      have HMY := Lib.hid (show (mdB a b a.n).n = b.n ∧ (∀ r, (mdB a b a.n).len r = b.len r) ∧ ∀ r, r < a.n → (mdB a b a.n).z r 0 = midV a b r from ⟨rfl, fun _ => rfl, fun r hr => by
        show (if r < a.n ∧ 0 = 0 then _ else _) = _
        rw [if_pos ⟨hr, rfl⟩]⟩)
      have HMD := Lib.hid (fun r (hr : r < a.n) => mid_range hok hr)
      have HC := Lib.hid (fun v u hi w h1 h2 h3 => implMend_yes v u 0 hi a b w h1 h2 h3 hok)
      obtain ⟨GX, eGX⟩ : ∃ GX, mdA a b a.n = GX := ⟨_, rfl⟩
      obtain ⟨GY, eGY⟩ : ∃ GY, mdB a b a.n = GY := ⟨_, rfl⟩
      rw [eGX] at HMX HC
      rw [eGY] at HMY HC
      clear hok eGp eGX eGY hga hmr
      go_wp2_with fail
      refine ((implGridsGap_any _ _ 0 w1.heap.size a b _ (R_a.out.mono (Nat.zero_le _) (by omega)) (R_b.out.mono (Nat.zero_le _) (by omega)) (Nat.le_refl _)).mono (fun _ _ h => by rw [HGA.out] at h; exact h)).mono ?_
      rintro e w2 ⟨rfl, bw2⟩
      have sw2 : w1.heap.size ≤ w2.heap.size := bw2.size
      have L_1 := Lib.hid (R_a.out.same (SameIn.below bw2 (by omega)))
      clear R_a
      have L_2 := Lib.hid (R_b.out.same (SameIn.below bw2 (by omega)))
      clear R_b
      have BL_3 := Lib.hid (BL.out.trans (bw2.mono (by omega)))
      clear BL bw2
      go_wp2_with fail
      refine ((specGridsGap_any _ _ 0 w2.heap.size a b _ (L_1.out.mono (Nat.zero_le _) (by omega)) (L_2.out.mono (Nat.zero_le _) (by omega))).mono (fun _ _ h => by rw [HGA.out] at h; exact h)).mono ?_
      rintro e w3 ⟨rfl, bw3⟩
      have sw3 : w2.heap.size ≤ w3.heap.size := bw3.size
      have L_4 := Lib.hid (L_1.out.same (SameIn.below bw3 (by omega)))
      clear L_1
      have L_5 := Lib.hid (L_2.out.same (SameIn.below bw3 (by omega)))
      clear L_2
      have BL_6 := Lib.hid (BL_3.out.trans (bw3.mono (by omega)))
      clear BL_3 bw3
      go_wp2_with fail
      refine (implGridMirror_yes _ 0 w3.heap.size a _ (L_4.out.mono (Nat.zero_le _) (by omega)) (Nat.le_refl _) HVA.out).mono ?_
      rintro e w4 ⟨r_7, rfl, ⟨_, _, _, rfl⟩, ow4, bw4⟩
      have Nw4 := Lib.hid (ow4.rd)
      clear ow4
      have sw4 : w3.heap.size ≤ w4.heap.size := bw4.size
      have L_8 := Lib.hid (L_4.out.same (SameIn.below bw4 (by omega)))
      clear L_4
      have L_9 := Lib.hid (L_5.out.same (SameIn.below bw4 (by omega)))
      clear L_5
      have BL_10 := Lib.hid (BL_6.out.trans (bw4.mono (by omega)))
      clear BL_6 bw4
      go_wp2_with fail
      refine (implGridMirror_yes _ 0 w4.heap.size b _ (L_9.out.mono (Nat.zero_le _) (by omega)) (Nat.le_refl _) HVB.out).mono ?_
      rintro e w5 ⟨r_11, rfl, ⟨_, _, _, rfl⟩, ow5, bw5⟩
      have Nw5 := Lib.hid (ow5.rd)
      clear ow5
      have sw5 : w4.heap.size ≤ w5.heap.size := bw5.size
      have L_12 := Lib.hid (L_8.out.same (SameIn.below bw5 (by omega)))
      clear L_8
      have L_13 := Lib.hid (L_9.out.same (SameIn.below bw5 (by omega)))
      clear L_9
      have L_14 := Lib.hid (Nw4.out.same (SameIn.below bw5 (by omega)))
      clear Nw4
      have BL_15 := Lib.hid (BL_10.out.trans (bw5.mono (by omega)))
      clear BL_10 bw5
      go_wp2_with fail
      refine (HC.out _ _ w5.heap.size _ (L_12.out.mono (Nat.zero_le _) (by omega)) (L_13.out.mono (Nat.zero_le _) (by omega)) (Nat.le_refl _)).mono ?_
      rintro e w6 ⟨rx, ry, rfl, _, _, hox, hoy, bw6⟩
      obtain ⟨bx, ox, cx, rfl⟩ := hox.shape (by have := HMX.out.1; omega)
      obtain ⟨by', oy, cy, rfl⟩ := hoy.shape (by have := HMY.out.1; omega)
      have Nx := Lib.hid hox
      have Ny := Lib.hid hoy
      clear hox hoy
      have sw6 : w5.heap.size ≤ w6.heap.size := bw6.size
      have L_16 := Lib.hid (L_12.out.same (SameIn.below bw6 (by omega)))
      clear L_12
      have L_17 := Lib.hid (L_13.out.same (SameIn.below bw6 (by omega)))
      clear L_13
      have L_18 := Lib.hid (L_14.out.same (SameIn.below bw6 (by omega)))
      clear L_14
      have L_19 := Lib.hid (Nw5.out.same (SameIn.below bw6 (by omega)))
      clear Nw5
      have BL_20 := Lib.hid (BL_15.out.trans (bw6.mono (by omega)))
      clear BL_15 bw6
      have HWa := Lib.hid (fun (W : World) (hb : Below w6.heap.size w6 W) => L_16.out.same (SameIn.below hb (by omega)))
      have HWb := Lib.hid (fun (W : World) (hb : Below w6.heap.size w6 W) => L_17.out.same (SameIn.below hb (by omega)))
      have HWx := Lib.hid (fun (W : World) (hb : Below w6.heap.size w6 W) => Nx.out.same (SameIn.below hb (by omega)))
      have HWy := Lib.hid (fun (W : World) (hb : Below w6.heap.size w6 W) => Ny.out.same (SameIn.below hb (by omega)))
      have HWam := Lib.hid (fun (W : World) (hb : Below w6.heap.size w6 W) => L_18.out.same (SameIn.below hb (by omega)))
      have HWbm := Lib.hid (fun (W : World) (hb : Below w6.heap.size w6 W) => L_19.out.same (SameIn.below hb (by omega)))
      go_wp2
      go_loopw [14, 15] (fun mv rv wr => ∃ k : Nat, k ≤ a.n ∧ rv = .int .i64 k ∧ mv = .int .i64 (gapS a b k) ∧ Below w6.heap.size w6 wr) (fun _ rv _ => a.n - (intOf rv).toNat)
      case atStart => exact ⟨0, Nat.zero_le _, rfl, rfl, Below.refl _ _⟩
      case round =>
        obtain ⟨k, hk, rfl, rfl, hb⟩ := hrel
        have HB := Lib.hid hb
        have hszb := hb.size
        by_cases hlt : k < a.n
        · have hlt' : (k : Int) < a.n := by omega
          have hltb : (k : Int) < b.n := by have := HNN.out; omega
          have hltx : (k : Int) < GX.n := by have := HMX.out.1; omega
          have hlty : (k : Int) < GY.n := by have := HMY.out.1; have := HNN.out; omega
          have hva := HVA.out.2.2 k hlt
          have hvb := HVB.out.2.2 k (by have := HNN.out; omega)
          have hla := hva.1
          have hlb := hvb.1
          have hlx := HMX.out.2.1 k
          have hly := HMY.out.2.1 k
          have hA2 := HVA.out.2.1
          have hB2 := HVB.out.2.1
          obtain ⟨m, em⟩ : ∃ m, a.len 0 = m + 1 := ⟨a.len 0 - 1, by omega⟩
          have hza := hva.2 m (by omega)
          have hzb := hvb.2 0 (by omega)
          have hzx := HMX.out.2.2 k hlt
          have hzy := HMY.out.2.2 k hlt
          rw [show a.len 0 - 1 = m by omega] at hzx
          have hmv := HMD.out k hlt
          have hra : k < a.n := hlt
          have hrb : k < b.n := by have := HNN.out; omega
          have hrx : k < GX.n := by have := HMX.out.1; omega
          have hry : k < GY.n := by have := HMY.out.1; have := HNN.out; omega
          have hca : m < a.len k := by omega
          have hcb : 0 < b.len k := by omega
          have hcx : m < GX.len k := by omega
          have hcy : 0 < GY.len k := by omega
          have hgk := HGS.out k hk
          have hgk1 := HGS.out (k + 1) hlt
          have hgs : gapS a b (k + 1) = gapS a b k + absI (dfV a b k) := rfl
          have hpp := mid_parts (a.z k m) (b.z k 0)
          have hmm : midV a b k = (a.z k m + b.z k 0) / 2 := by unfold midV; rw [show a.len 0 - 1 = m by omega]
          have hdf : dfV a b k = a.z k m - b.z k 0 := by unfold dfV; rw [show a.len 0 - 1 = m by omega]
          rw [hdf, ← hpp, ← hmm] at hgs
          obtain ⟨Mv, eMv⟩ : ∃ Mv, midV a b k = Mv := ⟨_, rfl⟩
          obtain ⟨Av, eAv⟩ : ∃ Av, a.z k m = Av := ⟨_, rfl⟩
          obtain ⟨Bv, eBv⟩ : ∃ Bv, b.z k 0 = Bv := ⟨_, rfl⟩
          rw [eMv, eAv, eBv] at hgs
          rw [eMv] at hzx hzy hmv
          rw [eAv] at hza
          rw [eBv] at hzb
          obtain ⟨b_a, off_a, cap_a, b1_a, off1_a, cp_a, he_a, p1_a, p2_a, _, _⟩ := (HWa.out wr hb).cellAt hra hca
          simp only [Value.slice.injEq] at he_a
          obtain ⟨he1_a, _, he2_a⟩ := he_a
          simp only [Option.some.injEq, Addr.mk.injEq] at he1_a
          obtain ⟨rfl, rfl, _⟩ := he1_a
          clear he2_a
          rw [eAv] at p2_a
          obtain ⟨b_b, off_b, cap_b, b1_b, off1_b, cp_b, he_b, p1_b, p2_b, _, _⟩ := (HWb.out wr hb).cellAt hrb hcb
          simp only [Value.slice.injEq] at he_b
          obtain ⟨he1_b, _, he2_b⟩ := he_b
          simp only [Option.some.injEq, Addr.mk.injEq] at he1_b
          obtain ⟨rfl, rfl, _⟩ := he1_b
          clear he2_b
          rw [eBv, Nat.add_zero] at p2_b
          obtain ⟨b_x, off_x, cap_x, b1_x, off1_x, cp_x, he_x, p1_x, p2_x, _, _⟩ := (HWx.out wr hb).cellAt hrx hcx
          simp only [Value.slice.injEq] at he_x
          obtain ⟨he1_x, _, he2_x⟩ := he_x
          simp only [Option.some.injEq, Addr.mk.injEq] at he1_x
          obtain ⟨rfl, rfl, _⟩ := he1_x
          clear he2_x
          rw [hzx] at p2_x
          obtain ⟨b_y, off_y, cap_y, b1_y, off1_y, cp_y, he_y, p1_y, p2_y, _, _⟩ := (HWy.out wr hb).cellAt hry hcy
          simp only [Value.slice.injEq] at he_y
          obtain ⟨he1_y, _, he2_y⟩ := he_y
          simp only [Option.some.injEq, Addr.mk.injEq] at he1_y
          obtain ⟨rfl, rfl, _⟩ := he1_y
          clear he2_y
          rw [hzy, Nat.add_zero] at p2_y
          obtain ⟨P1, eP1⟩ : ∃ P1, absI (Mv - Av) = P1 := ⟨_, rfl⟩
          obtain ⟨P2, eP2⟩ : ∃ P2, absI (Mv - Bv) = P2 := ⟨_, rfl⟩
          have hP1 : 0 ≤ P1 ∧ P1 ≤ 99 := by rw [← eP1]; exact absI_range (by omega) (by omega)
          have hP2 : 0 ≤ P2 ∧ P2 ≤ 99 := by rw [← eP2]; exact absI_range (by omega) (by omega)
          rw [eP1, eP2] at hgs
          have HZ1 := Lib.hid (fun W => sizeOf_any (Mv - Av) W (by omega) (by omega) P1 eP1)
          have HZ2 := Lib.hid (fun W => sizeOf_any (Mv - Bv) W (by omega) (by omega) P2 eP2)
          obtain ⟨S, eS⟩ : ∃ S, gapS a b k = S := ⟨_, rfl⟩
          have HGN := Lib.hid hgs
          rw [eS] at HGN hgk ⊢
          rw [hgs, eS] at hgk1
          obtain ⟨la, ela⟩ : ∃ la, a.len k = la := ⟨_, rfl⟩
          have hsub : (la : Int) - 1 = m := by omega
          rw [ela] at p1_a hca hlx
          have hi1 : (m : Int) < la := by omega
          have hi2 : (0 : Int) < b.len k := by omega
          have hi3 : (m : Int) < GX.len k := by omega
          have hi4 : (0 : Int) < GY.len k := by omega
          have hS1 : IntKind.i64.wrap (Mv - Av) = Mv - Av := IntWalk.i64_in _ (by omega)
          have hS2 : IntKind.i64.wrap (Mv - Bv) = Mv - Bv := IntWalk.i64_in _ (by omega)
          have hS3 : IntKind.i64.wrap (S + P1) = S + P1 := IntWalk.i64_in _ (by omega)
          have hS4 : IntKind.i64.wrap (S + P1 + P2) = S + P1 + P2 := IntWalk.i64_in _ (by omega)
          have hwm : IntKind.i64.wrap (m : Int) = m := IntWalk.i64_in _ (by omega)
          have hm0 : (0 : Int) ≤ m := by omega
          clear hb hva hvb hla hlb hlx hly hA2 hB2 em hza hzb hzx hzy hmv hgk1 hgs hpp hmm hdf eMv eAv eBv eP1 eP2 eS ela hgk hP1 hP2
          go_wp2_with fail
          go_quiet (first | (go_at_call 25; with_reducible exact Calls.quiet_of_same (HZ1.out _)) | (go_at_call 25; with_reducible exact Calls.quiet_of_same (HZ2.out _)))
          go_wp2
          go_roundw
          case rel => exact ⟨k + 1, by omega, by go_num, by rw [HGN.out, Int.add_assoc], below_drewN HB.out _⟩
          case measure => simp [intOf]; omega
        · obtain rfl : k = a.n := by omega
          have hlt' : ¬ (a.n : Int) < a.n := by omega
          have Ar := Lib.hid (HWa.out wr hb)
          have Br := Lib.hid (HWb.out wr hb)
          have AMr := Lib.hid (HWam.out wr hb)
          have BMr := Lib.hid (HWbm.out wr hb)
          have BLr := Lib.hid (BL_20.out.trans (hb.mono (by omega)))
          rw [EGP.out]
          clear hb HWx HWy HWa HWb HWam HWbm
          by_cases h0 : Gp = 0
          · have hag : agB a b = true := by rw [HAG.out]; simp [h0]
            have hg0 : (Gp == 0) = true := by rw [h0]; rfl
            have HAH := Lib.hid hag
            clear hag h0
            go_wp2_with fail
            refine (implAgree_b _ _ 0 wr.heap.size a b _ (Ar.out.mono (Nat.zero_le _) (by omega)) (Br.out.mono (Nat.zero_le _) (by omega)) (Nat.le_refl _) true HAH.out).mono ?_
            rintro e w7 ⟨rfl, bw7⟩
            have sw7 : wr.heap.size ≤ w7.heap.size := bw7.size
            have L_21 := Lib.hid (Ar.out.same (SameIn.below bw7 (by omega)))
            clear Ar
            have L_22 := Lib.hid (Br.out.same (SameIn.below bw7 (by omega)))
            clear Br
            have L_23 := Lib.hid (AMr.out.same (SameIn.below bw7 (by omega)))
            clear AMr
            have L_24 := Lib.hid (BMr.out.same (SameIn.below bw7 (by omega)))
            clear BMr
            have BL_25 := Lib.hid (BLr.out.trans (bw7.mono (by omega)))
            clear BLr bw7
            go_wp2_with fail
            refine ((implGridsGap_any _ _ 0 w7.heap.size (mirrorG b) (mirrorG a) _ (L_24.out.mono (Nat.zero_le _) (by omega)) (L_23.out.mono (Nat.zero_le _) (by omega)) (Nat.le_refl _)).mono (fun _ _ h => by rw [HGM.out] at h; exact h)).mono ?_
            rintro e w8 ⟨rfl, bw8⟩
            have sw8 : w7.heap.size ≤ w8.heap.size := bw8.size
            have L_26 := Lib.hid (L_21.out.same (SameIn.below bw8 (by omega)))
            clear L_21
            have L_27 := Lib.hid (L_22.out.same (SameIn.below bw8 (by omega)))
            clear L_22
            have L_28 := Lib.hid (L_23.out.same (SameIn.below bw8 (by omega)))
            clear L_23
            have L_29 := Lib.hid (L_24.out.same (SameIn.below bw8 (by omega)))
            clear L_24
            have BL_30 := Lib.hid (BL_25.out.trans (bw8.mono (by omega)))
            clear BL_25 bw8
            go_wp2
            go_ret
            exact ⟨rfl, BL_30.out⟩
          · have hag : agB a b = false := by rw [HAG.out]; simp [h0]
            have hg0 : (Gp == 0) = false := by simpa using h0
            have HAH := Lib.hid hag
            clear hag h0
            go_wp2_with fail
            refine (implAgree_b _ _ 0 wr.heap.size a b _ (Ar.out.mono (Nat.zero_le _) (by omega)) (Br.out.mono (Nat.zero_le _) (by omega)) (Nat.le_refl _) false HAH.out).mono ?_
            rintro e w7 ⟨rfl, bw7⟩
            have sw7 : wr.heap.size ≤ w7.heap.size := bw7.size
            have L_21 := Lib.hid (Ar.out.same (SameIn.below bw7 (by omega)))
            clear Ar
            have L_22 := Lib.hid (Br.out.same (SameIn.below bw7 (by omega)))
            clear Br
            have L_23 := Lib.hid (AMr.out.same (SameIn.below bw7 (by omega)))
            clear AMr
            have L_24 := Lib.hid (BMr.out.same (SameIn.below bw7 (by omega)))
            clear BMr
            have BL_25 := Lib.hid (BLr.out.trans (bw7.mono (by omega)))
            clear BLr bw7
            go_wp2_with fail
            refine ((implGridsGap_any _ _ 0 w7.heap.size (mirrorG b) (mirrorG a) _ (L_24.out.mono (Nat.zero_le _) (by omega)) (L_23.out.mono (Nat.zero_le _) (by omega)) (Nat.le_refl _)).mono (fun _ _ h => by rw [HGM.out] at h; exact h)).mono ?_
            rintro e w8 ⟨rfl, bw8⟩
            have sw8 : w7.heap.size ≤ w8.heap.size := bw8.size
            have L_26 := Lib.hid (L_21.out.same (SameIn.below bw8 (by omega)))
            clear L_21
            have L_27 := Lib.hid (L_22.out.same (SameIn.below bw8 (by omega)))
            clear L_22
            have L_28 := Lib.hid (L_23.out.same (SameIn.below bw8 (by omega)))
            clear L_23
            have L_29 := Lib.hid (L_24.out.same (SameIn.below bw8 (by omega)))
            clear L_24
            have BL_30 := Lib.hid (BL_25.out.trans (bw8.mono (by omega)))
            clear BL_25 bw8
            go_wp2
            go_ret
            exact ⟨rfl, BL_30.out⟩
end Go.Proofs.Ytjllmidagcniaaa
