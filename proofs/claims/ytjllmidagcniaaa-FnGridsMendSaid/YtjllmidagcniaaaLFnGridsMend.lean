/- The law FnGridsMend of the promises: its walk. -/
import Derived.BigQuiet
import Derived.Lib.MinMax
import Derived.Test.YtjllmidagcniaaaSdM
import Derived.Test.YtjllmidagcniaaaDrawSe
namespace Go.Proofs.Ytjllmidagcniaaa
open Go.RowKit
set_option linter.unusedVariables false

theorem implMend_no (v u : Value) (lo hi : Nat) (a b : G) (w : World) (hv : RdM lo hi w v a) (hu : RdM lo hi w u b) (hh : hi ≤ w.heap.size) (h : ¬ RwOk a b) :
    Calls Try.prog 15 #[v, u] w (SPost2 false G0 G0 w) :=
  (implGridsMend_any v u lo hi a b w hv hu hh).mono fun _ _ k => by
    obtain ⟨v, u, m, h1, h2, h3, h4, h5, h6, h7, h8⟩ := k.2 h
    exact ⟨v, u, h1, h2, h3, h6.rd.mono (Nat.le_refl _) h5, h7.rd.mono h4 (Nat.le_refl _), h8⟩
theorem md_agree {a b : G} (h : RwOk a b) : agB (mdA a b a.n) (mdB a b a.n) = true := ag_of ⟨mdA_valid h _, mdB_valid h _, h.2.2⟩ fun r hr => by
  have hr' : r < a.n := hr
  show (if r < a.n ∧ a.len 0 - 1 = a.len 0 - 1 then midV a b r else _) = (if r < a.n ∧ 0 = 0 then midV a b r else _)
  rw [if_pos ⟨hr', rfl⟩, if_pos ⟨hr', rfl⟩]
theorem mid_min (x y : Int) : ¬ (x + y) / 2 < min x y := by omega
theorem mid_max (x y : Int) : ¬ max x y < (x + y) / 2 := by omega

set_option maxHeartbeats 4000000 in
set_option maxRecDepth 100000 in
theorem law_FnGridsMend (v : Value) (n : Nat) (w : World) (hv : RdB w.heap.size w v n) : Calls Try.prog 6 #[v] w (LawPost w) := by
  have HD := Lib.hid (draw_DrawGridsMend v n w.heap.size w hv (Nat.le_refl _))
  obtain ⟨ao, cap, cb, off, Z, rfl, hc1, hc2, _⟩ := hv
  by_cases hn : 1048576 < n
  · have hn' : (1048576 : Int) < n := by omega
    go_enter Try.func6, Try.ntmps6
    go_wp2
    go_ret
    exact ⟨rfl, Below.refl _ _⟩
  · have hn' : ¬ (1048576 : Int) < n := by omega
    go_enter Try.func6, Try.ntmps6
    go_wp2_with fail
    refine HD.out.mono ?_
    rintro e w1 ⟨va, a, vb, b, rfl, _, _, hma, hmb, hna, hnb, hla, hlb, bw1⟩
    obtain ⟨ba, oa, ca, rfl⟩ := hma.shape (by omega)
    obtain ⟨bb, ob, cb', rfl⟩ := hmb.shape (by omega)
    have R_a := Lib.hid hma
    have R_b := Lib.hid hmb
    have HLA := Lib.hid hla
    have HLB := Lib.hid hlb
    obtain ⟨hna1, hna5⟩ := hna
    obtain ⟨hnb1, hnb5⟩ := hnb
    clear hma hmb hla hlb HD
    have sw1 : w.heap.size ≤ w1.heap.size := bw1.size
    have BL := Lib.hid bw1
    clear bw1
    by_cases hok : RwOk a b
    case neg =>
      have HNO := Lib.hid hok
      clear hok
      go_wp2_with fail
      refine (implMend_no _ _ 0 w1.heap.size a b _ (R_a.out.mono (Nat.zero_le _) (by omega)) (R_b.out.mono (Nat.zero_le _) (by omega)) (Nat.le_refl _) HNO.out).mono ?_
      rintro e w2 ⟨rw2, sw2, rfl, ⟨_, _, _, rfl⟩, ⟨_, _, _, rfl⟩, ox, oy, bw2⟩
      have Nw2 := Lib.hid ox
      have Mw2 := Lib.hid oy
      clear ox oy
      have sw2 : w1.heap.size ≤ w2.heap.size := bw2.size
      have L_1 := Lib.hid (R_a.out.same (SameIn.below bw2 (by omega)))
      clear R_a
      have L_2 := Lib.hid (R_b.out.same (SameIn.below bw2 (by omega)))
      clear R_b
      have BL_3 := Lib.hid (BL.out.trans (bw2.mono (by omega)))
      clear BL bw2
      go_wp2_with fail
      refine (specGridsMend_no _ _ 0 w2.heap.size a b _ (L_1.out.mono (Nat.zero_le _) (by omega)) (L_2.out.mono (Nat.zero_le _) (by omega)) HNO.out).mono ?_
      rintro e w3 ⟨rw3, sw3, rfl, ⟨_, _, _, rfl⟩, ⟨_, _, _, rfl⟩, ox, oy, bw3⟩
      have Nw3 := Lib.hid ox
      have Mw3 := Lib.hid oy
      clear ox oy
      have sw3 : w2.heap.size ≤ w3.heap.size := bw3.size
      have L_4 := Lib.hid (L_1.out.same (SameIn.below bw3 (by omega)))
      clear L_1
      have L_5 := Lib.hid (L_2.out.same (SameIn.below bw3 (by omega)))
      clear L_2
      have L_6 := Lib.hid (Nw2.out.same (SameIn.below bw3 (by omega)))
      clear Nw2
      have L_7 := Lib.hid (Mw2.out.same (SameIn.below bw3 (by omega)))
      clear Mw2
      have BL_8 := Lib.hid (BL_3.out.trans (bw3.mono (by omega)))
      clear BL_3 bw3
      go_wp2_with fail
      refine (sameGrid_any _ _ _ _ _ _ (G0) _ (L_6.out) (Nw3.out)).mono ?_
      intro e w4 hq
      obtain ⟨rfl, bw4⟩ := hq.below
      clear hq
      have sw4 : w3.heap.size ≤ w4.heap.size := bw4.size
      have L_9 := Lib.hid (L_4.out.same (SameIn.below bw4 (by omega)))
      clear L_4
      have L_10 := Lib.hid (L_5.out.same (SameIn.below bw4 (by omega)))
      clear L_5
      have L_11 := Lib.hid (L_6.out.same (SameIn.below bw4 (by omega)))
      clear L_6
      have L_12 := Lib.hid (L_7.out.same (SameIn.below bw4 (by omega)))
      clear L_7
      have L_13 := Lib.hid (Nw3.out.same (SameIn.below bw4 (by omega)))
      clear Nw3
      have L_14 := Lib.hid (Mw3.out.same (SameIn.below bw4 (by omega)))
      clear Mw3
      have BL_15 := Lib.hid (BL_8.out.trans (bw4.mono (by omega)))
      clear BL_8 bw4
      go_wp2_with fail
      refine (sameGrid_any _ _ _ _ _ _ (G0) _ (L_12.out) (L_14.out)).mono ?_
      intro e w5 hq
      obtain ⟨rfl, bw5⟩ := hq.below
      clear hq
      have sw5 : w4.heap.size ≤ w5.heap.size := bw5.size
      have L_16 := Lib.hid (L_9.out.same (SameIn.below bw5 (by omega)))
      clear L_9
      have L_17 := Lib.hid (L_10.out.same (SameIn.below bw5 (by omega)))
      clear L_10
      have L_18 := Lib.hid (L_11.out.same (SameIn.below bw5 (by omega)))
      clear L_11
      have L_19 := Lib.hid (L_12.out.same (SameIn.below bw5 (by omega)))
      clear L_12
      have L_20 := Lib.hid (L_13.out.same (SameIn.below bw5 (by omega)))
      clear L_13
      have L_21 := Lib.hid (L_14.out.same (SameIn.below bw5 (by omega)))
      clear L_14
      have BL_22 := Lib.hid (BL_15.out.trans (bw5.mono (by omega)))
      clear BL_15 bw5
      go_wp2_with fail
      refine (sameGrid_any _ _ _ _ _ _ (G0) _ (L_18.out) (L_20.out)).mono ?_
      intro e w6 hq
      obtain ⟨rfl, bw6⟩ := hq.below
      clear hq
      have sw6 : w5.heap.size ≤ w6.heap.size := bw6.size
      have L_23 := Lib.hid (L_16.out.same (SameIn.below bw6 (by omega)))
      clear L_16
      have L_24 := Lib.hid (L_17.out.same (SameIn.below bw6 (by omega)))
      clear L_17
      have L_25 := Lib.hid (L_18.out.same (SameIn.below bw6 (by omega)))
      clear L_18
      have L_26 := Lib.hid (L_19.out.same (SameIn.below bw6 (by omega)))
      clear L_19
      have L_27 := Lib.hid (L_20.out.same (SameIn.below bw6 (by omega)))
      clear L_20
      have L_28 := Lib.hid (L_21.out.same (SameIn.below bw6 (by omega)))
      clear L_21
      have BL_29 := Lib.hid (BL_22.out.trans (bw6.mono (by omega)))
      clear BL_22 bw6
      go_wp2_with fail
      refine (sameGrid_any _ _ _ _ _ _ (G0) _ (L_26.out) (L_28.out)).mono ?_
      intro e w7 hq
      obtain ⟨rfl, bw7⟩ := hq.below
      clear hq
      have sw7 : w6.heap.size ≤ w7.heap.size := bw7.size
      have L_30 := Lib.hid (L_23.out.same (SameIn.below bw7 (by omega)))
      clear L_23
      have L_31 := Lib.hid (L_24.out.same (SameIn.below bw7 (by omega)))
      clear L_24
      have L_32 := Lib.hid (L_25.out.same (SameIn.below bw7 (by omega)))
      clear L_25
      have L_33 := Lib.hid (L_26.out.same (SameIn.below bw7 (by omega)))
      clear L_26
      have L_34 := Lib.hid (L_27.out.same (SameIn.below bw7 (by omega)))
      clear L_27
      have L_35 := Lib.hid (L_28.out.same (SameIn.below bw7 (by omega)))
      clear L_28
      have BL_36 := Lib.hid (BL_29.out.trans (bw7.mono (by omega)))
      clear BL_29 bw7
      go_wp2
      go_ret
      exact ⟨rfl, BL_36.out⟩
    case pos =>
      have HVA := Lib.hid hok.1
      have HVB := Lib.hid hok.2.1
      have HNN := Lib.hid hok.2.2
      have HMX := Lib.hid (show (mdA a b a.n).n = a.n ∧ (∀ r, (mdA a b a.n).len r = a.len r) ∧ (∀ r, r < a.n → (mdA a b a.n).z r (a.len 0 - 1) = midV a b r) ∧ ∀ r c, c < a.len 0 - 1 → (mdA a b a.n).z r c = a.z r c from ⟨rfl, fun _ => rfl, fun r hr => (by
        show (if r < a.n ∧ a.len 0 - 1 = a.len 0 - 1 then _ else _) = _
        rw [if_pos ⟨hr, rfl⟩]), fun r c hc => (by
        show (if r < a.n ∧ c = a.len 0 - 1 then _ else _) = _
        rw [if_neg]; omega)⟩)
      have HMY := Lib.hid (show (mdB a b a.n).n = b.n ∧ (∀ r, (mdB a b a.n).len r = b.len r) ∧ ∀ r c, 0 < c → (mdB a b a.n).z r c = b.z r c from ⟨rfl, fun _ => rfl, fun r c hc => (by
        show (if r < a.n ∧ c = 0 then _ else _) = _
        rw [if_neg]; omega)⟩)
      have HMD := Lib.hid (fun r (hr : r < a.n) => mid_range hok hr)
      have HAG := Lib.hid (md_agree hok)
      have HC := Lib.hid (fun v u hi w h1 h2 h3 => implMend_yes v u 0 hi a b w h1 h2 h3 hok)
      have HS := Lib.hid (fun v u hi w h1 h2 h3 => specGridsMend_yes v u 0 hi a b w h1 h2 h3 hok)
      obtain ⟨GX, eGX⟩ : ∃ GX, mdA a b a.n = GX := ⟨_, rfl⟩
      obtain ⟨GY, eGY⟩ : ∃ GY, mdB a b a.n = GY := ⟨_, rfl⟩
      rw [eGX] at HMX HC HAG HS
      rw [eGY] at HMY HC HAG HS
      clear hok eGX eGY
      go_wp2_with fail
      refine (HC.out _ _ w1.heap.size _ (R_a.out.mono (Nat.zero_le _) (by omega)) (R_b.out.mono (Nat.zero_le _) (by omega)) (Nat.le_refl _)).mono ?_
      rintro e w2 ⟨rx, ry, rfl, _, _, hox, hoy, bw2⟩
      obtain ⟨bx, ox, cx, rfl⟩ := hox.shape (by have := HMX.out.1; omega)
      obtain ⟨by', oy, cy, rfl⟩ := hoy.shape (by have := HMY.out.1; omega)
      have Nw2 := Lib.hid hox
      have Mw2 := Lib.hid hoy
      clear hox hoy
      have sw2 : w1.heap.size ≤ w2.heap.size := bw2.size
      have L_1 := Lib.hid (R_a.out.same (SameIn.below bw2 (by omega)))
      clear R_a
      have L_2 := Lib.hid (R_b.out.same (SameIn.below bw2 (by omega)))
      clear R_b
      have BL_3 := Lib.hid (BL.out.trans (bw2.mono (by omega)))
      clear BL bw2
      go_wp2_with fail
      refine (HS.out _ _ w2.heap.size _ (L_1.out.mono (Nat.zero_le _) (by omega)) (L_2.out.mono (Nat.zero_le _) (by omega)) (Nat.le_refl _)).mono ?_
      rintro e w3 ⟨rw3, sw3, rfl, ⟨_, _, _, rfl⟩, ⟨_, _, _, rfl⟩, ox', oy', bw3⟩
      have Nw3 := Lib.hid ox'
      have Mw3 := Lib.hid oy'
      clear ox' oy'
      have sw3 : w2.heap.size ≤ w3.heap.size := bw3.size
      have L_4 := Lib.hid (L_1.out.same (SameIn.below bw3 (by omega)))
      clear L_1
      have L_5 := Lib.hid (L_2.out.same (SameIn.below bw3 (by omega)))
      clear L_2
      have L_6 := Lib.hid (Nw2.out.same (SameIn.below bw3 (by omega)))
      clear Nw2
      have L_7 := Lib.hid (Mw2.out.same (SameIn.below bw3 (by omega)))
      clear Mw2
      have BL_8 := Lib.hid (BL_3.out.trans (bw3.mono (by omega)))
      clear BL_3 bw3
      go_wp2_with fail
      refine (sameGrid_any _ _ _ _ _ _ (GX) _ (L_6.out) (Nw3.out)).mono ?_
      intro e w4 hq
      obtain ⟨rfl, bw4⟩ := hq.below
      clear hq
      have sw4 : w3.heap.size ≤ w4.heap.size := bw4.size
      have L_9 := Lib.hid (L_4.out.same (SameIn.below bw4 (by omega)))
      clear L_4
      have L_10 := Lib.hid (L_5.out.same (SameIn.below bw4 (by omega)))
      clear L_5
      have L_11 := Lib.hid (L_6.out.same (SameIn.below bw4 (by omega)))
      clear L_6
      have L_12 := Lib.hid (L_7.out.same (SameIn.below bw4 (by omega)))
      clear L_7
      have L_13 := Lib.hid (Nw3.out.same (SameIn.below bw4 (by omega)))
      clear Nw3
      have L_14 := Lib.hid (Mw3.out.same (SameIn.below bw4 (by omega)))
      clear Mw3
      have BL_15 := Lib.hid (BL_8.out.trans (bw4.mono (by omega)))
      clear BL_8 bw4
      go_wp2_with fail
      refine (sameGrid_any _ _ _ _ _ _ (GY) _ (L_12.out) (L_14.out)).mono ?_
      intro e w5 hq
      obtain ⟨rfl, bw5⟩ := hq.below
      clear hq
      have sw5 : w4.heap.size ≤ w5.heap.size := bw5.size
      have L_16 := Lib.hid (L_9.out.same (SameIn.below bw5 (by omega)))
      clear L_9
      have L_17 := Lib.hid (L_10.out.same (SameIn.below bw5 (by omega)))
      clear L_10
      have L_18 := Lib.hid (L_11.out.same (SameIn.below bw5 (by omega)))
      clear L_11
      have L_19 := Lib.hid (L_12.out.same (SameIn.below bw5 (by omega)))
      clear L_12
      have L_20 := Lib.hid (L_13.out.same (SameIn.below bw5 (by omega)))
      clear L_13
      have L_21 := Lib.hid (L_14.out.same (SameIn.below bw5 (by omega)))
      clear L_14
      have BL_22 := Lib.hid (BL_15.out.trans (bw5.mono (by omega)))
      clear BL_15 bw5
      have HWa := Lib.hid (fun (W : World) (hb : Below w5.heap.size w5 W) => L_16.out.same (SameIn.below hb (by omega)))
      have HWb := Lib.hid (fun (W : World) (hb : Below w5.heap.size w5 W) => L_17.out.same (SameIn.below hb (by omega)))
      have HWx := Lib.hid (fun (W : World) (hb : Below w5.heap.size w5 W) => L_18.out.same (SameIn.below hb (by omega)))
      have HWy := Lib.hid (fun (W : World) (hb : Below w5.heap.size w5 W) => L_19.out.same (SameIn.below hb (by omega)))
      clear L_16 L_17 L_18 L_19 HLA HLB HC HS
      go_wp2
      go_loopw [11] (fun rv wr => ∃ k : Nat, k ≤ a.n ∧ rv = .int .i64 k ∧ Below w5.heap.size w5 wr) (fun rv _ => a.n - (intOf rv).toNat)
      case atStart => exact ⟨0, Nat.zero_le _, rfl, Below.refl _ _⟩
      case round =>
        obtain ⟨k, hk, rfl, hb⟩ := hrel
        have HB := Lib.hid hb
        have hszb := hb.size
        clear hb
        by_cases hlt : k < a.n
        · have hlt' : (k : Int) < a.n := by omega
          have hltb : (k : Int) < b.n := by have := HNN.out; omega
          have hltx : (k : Int) < GX.n := by have := HMX.out.1; omega
          have hlty : (k : Int) < GY.n := by have := HMY.out.1; have := HNN.out; omega
          obtain ⟨m, hla, hm0, hm6⟩ : ∃ m, a.len k = m + 1 ∧ a.len 0 - 1 = m ∧ m ≤ 6 := ⟨a.len 0 - 1, by have := (HVA.out.2.2 k hlt).1; have := HVA.out.2.1; omega, rfl, by have := HVA.out.2.1; omega⟩
          obtain ⟨nb, hnb, hnb0, hnb7⟩ : ∃ nb, b.len k = nb ∧ 0 < nb ∧ nb ≤ 7 := ⟨b.len k, rfl, by have := (HVB.out.2.2 k (by have := HNN.out; omega)).1; have := HVB.out.2.1; omega, by have := (HVB.out.2.2 k (by have := HNN.out; omega)).1; have := HVB.out.2.1; omega⟩
          have hra : k < a.n := hlt
          have hrb : k < b.n := by omega
          have hrx : k < GX.n := by omega
          have hry : k < GY.n := by omega
          have HNA := Lib.hid hla
          have HNB := Lib.hid hnb
          have HMX0 := Lib.hid hm0
          have HLX := Lib.hid (show GX.len k = m + 1 from by have := HMX.out.2.1 k; omega)
          have HLY := Lib.hid (show GY.len k = nb from by have := HMY.out.2.1 k; omega)
          clear hla hnb hm0
          obtain ⟨b_a, off_a, cap_a, b1_a, off1_a, cp_a, he_a, p1_a, p2_a, _, _⟩ := (HWa.out wr HB.out).cellAt hra (show 0 < a.len k by have := HNA.out; omega)
          simp only [Value.slice.injEq] at he_a
          obtain ⟨he1_a, _, he2_a⟩ := he_a
          simp only [Option.some.injEq, Addr.mk.injEq] at he1_a
          obtain ⟨rfl, rfl, _⟩ := he1_a
          clear he2_a
          clear p2_a
          rw [HNA.out] at p1_a
          have hsub : ((m + 1 : Nat) : Int) - 1 = m := by omega
          have hwm : IntKind.i64.wrap (m : Int) = m := IntWalk.i64_in _ (by omega)
          have hm0 : (0 : Int) ≤ m := by omega
          go_wp2
          clear p1_a
          go_loopw [13] (fun cv wq => ∃ j : Nat, j ≤ m ∧ cv = .int .i64 j ∧ Below w5.heap.size w5 wq) (fun cv _ => m - (intOf cv).toNat)
          case atStart => exact ⟨0, Nat.zero_le _, rfl, HB.out⟩
          case round =>
            obtain ⟨j, hj, rfl, hbq⟩ := hrel
            have HBQ := Lib.hid hbq
            clear hbq
            by_cases hjm : j < m
            · have hjm' : (j : Int) < m := by omega
              have hzz := HMX.out.2.2.2 k j (by have := HMX0.out; omega)
              obtain ⟨V, eV⟩ : ∃ V, a.z k j = V := ⟨_, rfl⟩
              rw [eV] at hzz
              obtain ⟨b_a, off_a, cap_a, b1_a, off1_a, cp_a, he_a, p1_a, p2_a, _, _⟩ := (HWa.out wr HBQ.out).cellAt hra (show j < a.len k by have := HNA.out; omega)
              simp only [Value.slice.injEq] at he_a
              obtain ⟨he1_a, _, he2_a⟩ := he_a
              simp only [Option.some.injEq, Addr.mk.injEq] at he1_a
              obtain ⟨rfl, rfl, _⟩ := he1_a
              clear he2_a
              rw [eV] at p2_a
              obtain ⟨b_x, off_x, cap_x, b1_x, off1_x, cp_x, he_x, p1_x, p2_x, _, _⟩ := (HWx.out wr HBQ.out).cellAt hrx (show j < GX.len k by have := HLX.out; omega)
              simp only [Value.slice.injEq] at he_x
              obtain ⟨he1_x, _, he2_x⟩ := he_x
              simp only [Option.some.injEq, Addr.mk.injEq] at he1_x
              obtain ⟨rfl, rfl, _⟩ := he1_x
              clear he2_x
              rw [hzz] at p2_x
              rw [HNA.out] at p1_a
              rw [HLX.out] at p1_x
              have hi1 : (j : Int) < ((m + 1 : Nat) : Int) := by omega
              have hvv : (V != V) = false := by simp
              clear hzz eV
              go_wp2_with fail
              go_quiet (fail)
              go_wp2
              go_roundw
              case rel => exact ⟨j + 1, by omega, by go_num, below_drewN HBQ.out _⟩
              case measure => simp [intOf]; omega
            · obtain rfl : j = m := by omega
              have hjj : ¬ (j : Int) < j := by omega
              go_wp2
              go_loopw [14] (fun cv wp => ∃ i : Nat, 1 ≤ i ∧ i ≤ nb ∧ cv = .int .i64 i ∧ Below w5.heap.size w5 wp) (fun cv _ => nb - (intOf cv).toNat)
              case atStart => exact ⟨1, Nat.le_refl _, hnb0, rfl, HBQ.out⟩
              case round =>
                obtain ⟨i, hi1, hi, rfl, hbp⟩ := hrel
                have HBP := Lib.hid hbp
                clear hbp
                by_cases him : i < nb
                · have him' : (i : Int) < nb := by omega
                  have hi0 : (0 : Int) ≤ i := by omega
                  have hzz := HMY.out.2.2 k i (by omega)
                  obtain ⟨V, eV⟩ : ∃ V, b.z k i = V := ⟨_, rfl⟩
                  rw [eV] at hzz
                  obtain ⟨b_b, off_b, cap_b, b1_b, off1_b, cp_b, he_b, p1_b, p2_b, _, _⟩ := (HWb.out wr HBP.out).cellAt hrb (show i < b.len k by have := HNB.out; omega)
                  simp only [Value.slice.injEq] at he_b
                  obtain ⟨he1_b, _, he2_b⟩ := he_b
                  simp only [Option.some.injEq, Addr.mk.injEq] at he1_b
                  obtain ⟨rfl, rfl, _⟩ := he1_b
                  clear he2_b
                  rw [eV] at p2_b
                  obtain ⟨b_y, off_y, cap_y, b1_y, off1_y, cp_y, he_y, p1_y, p2_y, _, _⟩ := (HWy.out wr HBP.out).cellAt hry (show i < GY.len k by have := HLY.out; omega)
                  simp only [Value.slice.injEq] at he_y
                  obtain ⟨he1_y, _, he2_y⟩ := he_y
                  simp only [Option.some.injEq, Addr.mk.injEq] at he1_y
                  obtain ⟨rfl, rfl, _⟩ := he1_y
                  clear he2_y
                  rw [hzz] at p2_y
                  rw [HNB.out] at p1_b
                  rw [HLY.out] at p1_y
                  have hvv : (V != V) = false := by simp
                  clear hzz eV
                  go_wp2_with fail
                  go_quiet (fail)
                  go_wp2
                  go_roundw
                  case rel => exact ⟨i + 1, by omega, by omega, by go_num, below_drewN HBP.out _⟩
                  case measure => simp [intOf]; omega
                · obtain rfl : i = nb := by omega
                  have hii : ¬ (i : Int) < i := by omega
                  have hzx := HMX.out.2.2.1 k hlt
                  obtain ⟨Av, eAv⟩ : ∃ Av, a.z k j = Av := ⟨_, rfl⟩
                  obtain ⟨Bv, eBv⟩ : ∃ Bv, b.z k 0 = Bv := ⟨_, rfl⟩
                  obtain ⟨Mv, eMv⟩ : ∃ Mv, midV a b k = Mv := ⟨_, rfl⟩
                  rw [eMv, HMX0.out] at hzx
                  have hmm : Mv = (Av + Bv) / 2 := by rw [← eMv, ← eAv, ← eBv]; unfold midV; rw [HMX0.out]
                  have hd1 : decide (Mv < min Av Bv) = false := by rw [hmm]; exact decide_eq_false (mid_min _ _)
                  have hd2 : decide (max Av Bv < Mv) = false := by rw [hmm]; exact decide_eq_false (mid_max _ _)
                  obtain ⟨b_a, off_a, cap_a, b1_a, off1_a, cp_a, he_a, p1_a, p2_a, _, _⟩ := (HWa.out wr HBP.out).cellAt hra (show j < a.len k by have := HNA.out; omega)
                  simp only [Value.slice.injEq] at he_a
                  obtain ⟨he1_a, _, he2_a⟩ := he_a
                  simp only [Option.some.injEq, Addr.mk.injEq] at he1_a
                  obtain ⟨rfl, rfl, _⟩ := he1_a
                  clear he2_a
                  rw [eAv] at p2_a
                  obtain ⟨b_x, off_x, cap_x, b1_x, off1_x, cp_x, he_x, p1_x, p2_x, _, _⟩ := (HWx.out wr HBP.out).cellAt hrx (show j < GX.len k by have := HLX.out; omega)
                  simp only [Value.slice.injEq] at he_x
                  obtain ⟨he1_x, _, he2_x⟩ := he_x
                  simp only [Option.some.injEq, Addr.mk.injEq] at he1_x
                  obtain ⟨rfl, rfl, _⟩ := he1_x
                  clear he2_x
                  rw [hzx] at p2_x
                  obtain ⟨b_b, off_b, cap_b, b1_b, off1_b, cp_b, he_b, p1_b, p2_b, _, _⟩ := (HWb.out wr HBP.out).cellAt hrb (show 0 < b.len k by have := HNB.out; omega)
                  simp only [Value.slice.injEq] at he_b
                  obtain ⟨he1_b, _, he2_b⟩ := he_b
                  simp only [Option.some.injEq, Addr.mk.injEq] at he1_b
                  obtain ⟨rfl, rfl, _⟩ := he1_b
                  clear he2_b
                  rw [eBv, Nat.add_zero] at p2_b
                  rw [HNA.out] at p1_a
                  rw [HLX.out] at p1_x
                  rw [HNB.out] at p1_b
                  have hi3 : (j : Int) < ((j + 1 : Nat) : Int) := by omega
                  have hi4 : (0 : Int) < i := by omega
                  clear hmm hzx eAv eBv eMv
                  go_wp2_with fail
                  go_quiet (fail)
                  go_wp2
                  go_roundw
                  case rel => exact ⟨k + 1, by omega, by go_num, below_drewN HBP.out _⟩
                  case measure => simp [intOf]; omega
        · obtain rfl : k = a.n := by omega
          have hlt' : ¬ (a.n : Int) < a.n := by omega
          have Xr := Lib.hid (HWx.out wr HB.out)
          have Yr := Lib.hid (HWy.out wr HB.out)
          have BLr := Lib.hid (BL_22.out.trans (HB.out.mono (by omega)))
          clear HB HWx HWy HWa HWb
          go_wp2_with fail
          refine (implAgree_b _ _ 0 wr.heap.size GX GY _ (Xr.out.mono (Nat.zero_le _) (by omega)) (Yr.out.mono (Nat.zero_le _) (by omega)) (Nat.le_refl _) true HAG.out).mono ?_
          rintro e w6 ⟨rfl, bw6⟩
          have sw6 : wr.heap.size ≤ w6.heap.size := bw6.size
          have L_23 := Lib.hid (Xr.out.same (SameIn.below bw6 (by omega)))
          clear Xr
          have L_24 := Lib.hid (Yr.out.same (SameIn.below bw6 (by omega)))
          clear Yr
          have BL_25 := Lib.hid (BLr.out.trans (bw6.mono (by omega)))
          clear BLr bw6
          go_wp2
          go_ret
          exact ⟨rfl, BL_25.out⟩
end Go.Proofs.Ytjllmidagcniaaa
