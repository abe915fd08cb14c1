/- The law FnFlow of the promises: its walk. -/
import Derived.Test.YtplfphpnpjjinaaSame
import Derived.Test.YtplfphpnpjjinaaFlowI
import Derived.Test.YtplfphpnpjjinaaFlowS
import Derived.Test.YtplfphpnpjjinaaFlowN
import Derived.Test.YtplfphpnpjjinaaNextE
import Derived.Test.YtplfphpnpjjinaaRunE
import Derived.Test.YtplfphpnpjjinaaDrawG
import Derived.Test.YtplfphpnpjjinaaPHelp
namespace Go.Proofs.Ytplfphpnpjjinaa
open Go.RowKit
set_option linter.unusedVariables false

theorem OwI.shapeN {lo hi : Nat} {w : World} {v : Value} {n : Nat} {Z : Nat → Int} (h : OwI lo hi w v n Z) : ∃ a c, v = .slice a n c := by
  rcases h with ⟨rfl, rfl⟩ | ⟨b, N, cap, F, rfl, _⟩
  · exact ⟨_, _, rfl⟩
  · exact ⟨_, _, rfl⟩
theorem RdI.at'' {lo hi : Nat} {w : World} {a : Option Addr} {n m c : Nat} {Z : Nat → Int} (h : RdI lo hi w (.slice a n c) m Z) {k : Nat} (hk : k < m) (z : Int) (hz : Z k = z) : ∃ b off, a = some ⟨b, off, none⟩ ∧ w.cell? ⟨b, off + k, none⟩ = some (.int .i64 z) ∧ n = m ∧ -9223372036854775808 ≤ z ∧ z ≤ 9223372036854775807 ∧ m ≤ c ∧ c ≤ 9223372036854775807 := by
  obtain ⟨ao, cp, b, off, e1, i2, i3, i4, i5, i6⟩ := h
  simp only [Value.slice.injEq] at e1
  obtain ⟨rfl, e2, rfl⟩ := e1
  obtain ⟨rfl, _, _⟩ := i5 (by omega)
  have := i4 k hk
  exact ⟨b, off, rfl, by rw [i6 k hk, hz], e2, by omega, by omega, i2, i3⟩
theorem next_at2 (g : G) (h : g.Valid) (k r c : Nat) (hk : k < g.n * g.len 0) (hr : r < g.n) (hc : c < g.len 0) (e : k = r * g.len 0 + c) : g.wnV (r : Int) (c : Int) = (nxt g.n (g.len 0) g.flat ⟨k, hk⟩).1 :=
  G.wnV_yes ⟨h, ⟨by omega, by omega⟩, by omega, by omega⟩ ⟨k, hk⟩ e
theorem run_at2 (g : G) (h : g.Valid) (k r c : Nat) (hk : k < g.n * g.len 0) (hr : r < g.n) (hc : c < g.len 0) (he : k = r * g.len 0 + c) (u : Value) (lo hi : Nat) (W : World) (hu : RdM lo hi W u g) (hh : hi ≤ W.heap.size) :
    Calls Try.prog 46 #[u, .int .i64 r, .int .i64 c] W (fun e w' => (∃ a c, e = .returned (.tuple #[.slice a (lenAt g.n (g.len 0) g.flat k) c, .bool true])) ∧ Below W.heap.size W w') := by
  have hcell : g.Cell r c := ⟨h, ⟨by omega, by omega⟩, by omega, by omega⟩
  have e := G.runV_yes hcell ⟨k, hk⟩ he
  refine (implWaterRun_any u lo hi g _ _ W hu hh true ⟨fun _ => hcell, fun _ => rfl⟩).mono ?_
  rintro e' w' ⟨v, rfl, hl, hb⟩
  obtain ⟨a, cc, rfl⟩ := hl.shape
  exact ⟨⟨a, cc, by rw [e, ← lenAt_eq]⟩, hb⟩
def SumPost (n : Nat) (w : World) (e : Ending) (w' : World) : Prop := e = .returned (.int .i64 n) ∧ w' = w
set_option maxHeartbeats 1000000 in
set_option maxRecDepth 20000 in
theorem sumOf_any (v : Value) (lo hi n : Nat) (f : Nat → Nat) (w : World) (h : RdI lo hi w v n (fun j => ((f j : Nat) : Int))) (hn : n ≤ 49) (hf : ∀ j, f j ≤ 4900) (hs : ∀ k, k ≤ n → Sm k f ≤ 4900 * k) :
    Calls Try.prog 47 #[v] w (SumPost (Sm n f) w) := by
  obtain ⟨ao, cap, b, off, rfl, a2, a3, a4, a5, a6⟩ := h
  have HS := Lib.hid hs
  have HF := Lib.hid hf
  have H5 := Lib.hid a5
  have H6 := Lib.hid a6
  clear a4 a5 a6 hs hf
  go_enter Try.func47, Try.ntmps47
  go_wp2
  go_loop [3, 4] (fun s i => ∃ k : Nat, k ≤ n ∧ i = .int .i64 k ∧ s = .int .i64 (Sm k f : Nat)) (fun _ i => n - (intOf i).toNat)
  case atStart => exact ⟨0, Nat.zero_le _, rfl, rfl⟩
  case round =>
    obtain ⟨k, hk, rfl, rfl⟩ := hrel
    by_cases hlt : k < n
    · have hlt' : (k : Int) < n := by omega
      obtain ⟨rfl, _, _⟩ := H5.out (by omega)
      have c1 := H6.out k hlt
      have h1 := HS.out k hk
      have h2 := HF.out k
      have HT := Lib.hid (show Sm (k + 1) f = Sm k f + f k from rfl)
      generalize Sm k f = q at h1 HT ⊢
      generalize f k = y at h2 c1 HT
      have hw : IntKind.i64.wrap ((q : Int) + (y : Int)) = ((q + y : Nat) : Int) := by rw [IntWalk.i64_in _ (by omega)]; omega
      go_wp2
      go_round
      case rel => exact ⟨k + 1, by omega, by go_num, by rw [HT.out]; simp⟩
      case measure => simp [intOf]; omega
    · have ek : k = n := by omega
      subst ek
      have hge : ¬ (k : Int) < k := by omega
      go_wp2
      go_ret
      exact ⟨rfl, rfl⟩

set_option maxHeartbeats 40000000 in
set_option maxRecDepth 100000 in
theorem law_FnFlow (v : Value) (n : Nat) (w : World) (hv : RdB w.heap.size w v n) : Calls Try.prog 9 #[v] w (LawPost w) := by
  have HD := Lib.hid (draw_DrawWaterFlow v n w.heap.size w hv (Nat.le_refl _))
  obtain ⟨ao, cap, cb, off, Z, rfl, hc1, hc2, _⟩ := hv
  by_cases hn : 1048576 < n
  · have hn' : (1048576 : Int) < n := by omega
    go_enter Try.func9, Try.ntmps9
    go_wp2
    go_ret
    exact ⟨rfl, Below.refl _ _⟩
  · have hn' : ¬ (1048576 : Int) < n := by omega
    go_enter Try.func9, Try.ntmps9
    go_wp2_with fail
    refine HD.out.mono ?_
    rintro e w1 ⟨vg, g, rfl, _, hm, hgn, hgl, bw1⟩
    obtain ⟨bg, og, cg, rfl⟩ := hm.shape (by omega)
    have R_g := Lib.hid hm
    have HGL := Lib.hid hgl
    obtain ⟨hgn1, hgn5⟩ := hgn
    clear hm hgl HD
    have sw1 : w.heap.size ≤ w1.heap.size := bw1.size
    have BL := Lib.hid bw1
    clear bw1
    by_cases hval : g.Valid
    case neg =>
      have HW := Lib.hid (G.flW_no hval)
      have HV := Lib.hid hval
      clear hval
      go_wp2_with fail
      refine (implWaterFlow_any _ 0 w1.heap.size g _ (R_g.out.mono (Nat.zero_le _) (by omega)) (Nat.le_refl _) false (by simp [HV.out])).mono ?_
      rintro e w2 ⟨v_o, rfl, _, hl, bw2⟩
      rw [HW.out] at hl
      obtain ⟨a_o, c_o, rfl⟩ := hl.shapeN
      have Nw2 := Lib.hid hl.rd
      clear hl
      have sw2 : w1.heap.size ≤ w2.heap.size := bw2.size
      have L_1 := Lib.hid (R_g.out.same (SameIn.below bw2 (by omega)))
      clear R_g
      have BL_2 := Lib.hid (BL.out.trans (bw2.mono (by omega)))
      clear BL bw2
      go_wp2_with fail
      refine (specWaterFlow_any _ 0 w2.heap.size g _ (L_1.out.mono (Nat.zero_le _) (by omega)) (Nat.le_refl _) false (by simp [HV.out])).mono ?_
      rintro e w3 ⟨v_p, rfl, _, hl, bw3⟩
      rw [HW.out] at hl
      obtain ⟨a_p, c_p, rfl⟩ := hl.shapeN
      have Nw3 := Lib.hid hl.rd
      clear hl
      have sw3 : w2.heap.size ≤ w3.heap.size := bw3.size
      have L_3 := Lib.hid (L_1.out.same (SameIn.below bw3 (by omega)))
      clear L_1
      have L_4 := Lib.hid (Nw2.out.same (SameIn.below bw3 (by omega)))
      clear Nw2
      have BL_5 := Lib.hid (BL_2.out.trans (bw3.mono (by omega)))
      clear BL_2 bw3
      go_wp2_with fail
      refine (sameInts_any _ _ _ _ _ _ (0) _ _ _ L_4.out Nw3.out (fun _ _ => rfl)).mono ?_
      rintro e w4 ⟨rfl, qw4, rfl⟩
      have bw4 := below_drewN (Below.refl w3.heap.size w3) qw4
      obtain ⟨w_w4, ew⟩ : ∃ w', w' = w3.drewN qw4 := ⟨_, rfl⟩
      rw [← ew] at bw4 ⊢
      clear ew
      have sw_w4 : w3.heap.size ≤ w_w4.heap.size := bw4.size
      have L_6 := Lib.hid (L_3.out.same (SameIn.below bw4 (by omega)))
      clear L_3
      have L_7 := Lib.hid (L_4.out.same (SameIn.below bw4 (by omega)))
      clear L_4
      have L_8 := Lib.hid (Nw3.out.same (SameIn.below bw4 (by omega)))
      clear Nw3
      have BL_9 := Lib.hid (BL_5.out.trans (bw4.mono (by omega)))
      clear BL_5 bw4
      go_wp2_with fail
      refine (sameInts_any _ _ _ _ _ _ (0) _ _ _ L_7.out L_8.out (fun _ _ => rfl)).mono ?_
      rintro e w5 ⟨rfl, qw5, rfl⟩
      have bw5 := below_drewN (Below.refl w_w4.heap.size w_w4) qw5
      obtain ⟨w_w5, ew⟩ : ∃ w', w' = w_w4.drewN qw5 := ⟨_, rfl⟩
      rw [← ew] at bw5 ⊢
      clear ew
      have sw_w5 : w_w4.heap.size ≤ w_w5.heap.size := bw5.size
      have L_10 := Lib.hid (L_6.out.same (SameIn.below bw5 (by omega)))
      clear L_6
      have L_11 := Lib.hid (L_7.out.same (SameIn.below bw5 (by omega)))
      clear L_7
      have L_12 := Lib.hid (L_8.out.same (SameIn.below bw5 (by omega)))
      clear L_8
      have BL_13 := Lib.hid (BL_9.out.trans (bw5.mono (by omega)))
      clear BL_9 bw5
      go_wp2
      go_ret
      exact ⟨rfl, BL_13.out⟩
    case pos =>
      have HV := Lib.hid hval
      have hZ : ∀ x, x < g.n * g.len 0 → 0 ≤ g.flat x ∧ g.flat x ≤ 99 := fun x hx => flat_okW hval hx
      have hn1 := hval.1.1
      obtain ⟨hl1, hl7⟩ := hval.2.1
      have h49 := mul_le_49 hval.1.2 hl7
      obtain ⟨fl, efl⟩ : ∃ fl, flN g.n (g.len 0) g.flat (g.n * g.len 0) = fl := ⟨_, rfl⟩
      obtain ⟨wt, ewt⟩ : ∃ wt : Nat → Nat → Nat, (fun i => wI g.n (g.len 0) g.flat i fl) = wt := ⟨_, rfl⟩
      have HFB0 : ∀ j, fl j ≤ 4900 := fun j => by rw [← efl]; have := flN_le g.n (g.len 0) g.flat (g.n * g.len 0) j; omega
      have HFB := Lib.hid HFB0
      have HIN := Lib.hid (fun (i : Nat) (hi : i < g.n * g.len 0) => show 1 + Sm (g.n * g.len 0) (wt i) = fl i by rw [← ewt, ← efl]; exact fl_in hZ hi)
      have HLEN := Lib.hid (show Sm (g.n * g.len 0) fl = Sm (g.n * g.len 0) (lenAt g.n (g.len 0) g.flat) by rw [← efl]; exact fl_len _ _ _ _ (Nat.le_refl _))
      have HWT := Lib.hid (fun (i : Nat) (k : Nat) (hk : k < g.n * g.len 0) => show (k ≠ i → (nxt g.n (g.len 0) g.flat ⟨k, hk⟩).1 = i → wt i k = fl k) ∧ (¬ (k ≠ i ∧ (nxt g.n (g.len 0) g.flat ⟨k, hk⟩).1 = i) → wt i k = 0) by
        rw [← ewt]
        exact ⟨fun a b => wI_yes ((nxt_to hk).2 ⟨a, b⟩), fun a => wI_no (fun t => a ((nxt_to hk).1 t))⟩)
      have HWB := Lib.hid (fun (i k : Nat) => show Sm k (wt i) ≤ 4900 * k by rw [← ewt]; exact Sm_wI_le fl 4900 HFB0 k)
      have HSB := Lib.hid (fun (k : Nat) => show Sm k fl ≤ 4900 * k from Nat.le_trans (Sm_le (g := fun _ => 4900) (fun i _ => HFB0 i)) (by induction k with
        | zero => exact Nat.le_refl _
        | succ k ih => show Sm k (fun _ => 4900) + 4900 ≤ _; omega))
      have HLB0 := fun (k : Nat) => show lenAt g.n (g.len 0) g.flat k ≤ 100 from lenAt_le g.n (g.len 0) g.flat k
      have HLB := Lib.hid HLB0
      have HLS := Lib.hid (fun (k : Nat) => show Sm k (lenAt g.n (g.len 0) g.flat) ≤ 100 * k from Nat.le_trans (Sm_le (g := fun _ => 100) (fun i _ => HLB0 i)) (by induction k with
        | zero => exact Nat.le_refl _
        | succ k ih => show Sm k (fun _ => 100) + 100 ≤ _; omega))
      have HZE := Lib.hid (show g.flZ = fun j => ((fl j : Nat) : Int) by funext j; unfold G.flZ; rw [efl])
      have HNA := Lib.hid (next_at2 g hval)
      have HRA := Lib.hid (run_at2 g hval)
      obtain ⟨ln, eln⟩ : ∃ ln, lenAt g.n (g.len 0) g.flat = ln := ⟨_, rfl⟩
      rw [eln] at HLEN HLB HLS HRA
      obtain ⟨N, eN⟩ : ∃ N, g.n * g.len 0 = N := ⟨_, rfl⟩
      have EN := Lib.hid eN
      have HW := Lib.hid (show g.flW = N by rw [G.flW_yes hval, eN])
      rw [eN] at h49 HLEN
      obtain ⟨C, eC⟩ : ∃ C, g.len 0 = C := ⟨_, rfl⟩
      have EC := Lib.hid eC
      rw [eC] at hl1 hl7
      clear hval efl ewt eln eN eC hZ HFB0 HLB0
      go_wp2_with fail
      refine (implWaterFlow_any _ 0 w1.heap.size g _ (R_g.out.mono (Nat.zero_le _) (by omega)) (Nat.le_refl _) true (by simp [HV.out])).mono ?_
      rintro e w2 ⟨v_o, rfl, _, hl, bw2⟩
      rw [HW.out, HZE.out] at hl
      obtain ⟨a_o, c_o, rfl⟩ := hl.shapeN
      have Nw2 := Lib.hid hl.rd
      clear hl
      have sw2 : w1.heap.size ≤ w2.heap.size := bw2.size
      have L_1 := Lib.hid (R_g.out.same (SameIn.below bw2 (by omega)))
      clear R_g
      have BL_2 := Lib.hid (BL.out.trans (bw2.mono (by omega)))
      clear BL bw2
      go_wp2_with fail
      refine (specWaterFlow_any _ 0 w2.heap.size g _ (L_1.out.mono (Nat.zero_le _) (by omega)) (Nat.le_refl _) true (by simp [HV.out])).mono ?_
      rintro e w3 ⟨v_p, rfl, _, hl, bw3⟩
      rw [HW.out, HZE.out] at hl
      obtain ⟨a_p, c_p, rfl⟩ := hl.shapeN
      have Nw3 := Lib.hid hl.rd
      clear hl
      have sw3 : w2.heap.size ≤ w3.heap.size := bw3.size
      have L_3 := Lib.hid (L_1.out.same (SameIn.below bw3 (by omega)))
      clear L_1
      have L_4 := Lib.hid (Nw2.out.same (SameIn.below bw3 (by omega)))
      clear Nw2
      have BL_5 := Lib.hid (BL_2.out.trans (bw3.mono (by omega)))
      clear BL_2 bw3
      go_wp2_with fail
      refine (sameInts_any _ _ _ _ _ _ (N) _ _ _ L_4.out Nw3.out (fun _ _ => rfl)).mono ?_
      rintro e w4 ⟨rfl, qw4, rfl⟩
      have bw4 := below_drewN (Below.refl w3.heap.size w3) qw4
      obtain ⟨w_w4, ew⟩ : ∃ w', w' = w3.drewN qw4 := ⟨_, rfl⟩
      rw [← ew] at bw4 ⊢
      clear ew
      have sw_w4 : w3.heap.size ≤ w_w4.heap.size := bw4.size
      have L_6 := Lib.hid (L_3.out.same (SameIn.below bw4 (by omega)))
      clear L_3
      have L_7 := Lib.hid (L_4.out.same (SameIn.below bw4 (by omega)))
      clear L_4
      have L_8 := Lib.hid (Nw3.out.same (SameIn.below bw4 (by omega)))
      clear Nw3
      have BL_9 := Lib.hid (BL_5.out.trans (bw4.mono (by omega)))
      clear BL_5 bw4
      obtain ⟨a1, c1, h1⟩ := L_6.out.headW hn1 C EC.out
      go_wp2
      clear h1
      go_loopw [9, 10, 11, 12, 13, 14] (fun x9 x10 _ _ _ _ wr => ∃ i : Nat, i ≤ N ∧ x10 = .int .i64 i ∧ x9 = .int .i64 (Sm i ln : Nat) ∧ Below w_w4.heap.size w_w4 wr) (fun _ x10 _ _ _ _ _ => N - (intOf x10).toNat)
      case atStart => exact ⟨0, Nat.zero_le _, rfl, rfl, Below.refl _ _⟩
      case round =>
        obtain ⟨i, hi, rfl, rfl, hb⟩ := hrel
        have HR := Lib.hid (L_6.out.same (SameIn.below hb (by omega)))
        have HO := Lib.hid (L_7.out.same (SameIn.below hb (by omega)))
        have HB := Lib.hid hb
        have hsi := hb.size
        have hls := HLS.out i
        clear hb
        by_cases hiN : i < N
        case pos =>
          have hiN' : (i : Int) < N := by omega
          have HII := Lib.hid (HIN.out i (by rw [EN.out]; exact hiN))
          have HWI := Lib.hid (HWT.out i)
          have HWBI := Lib.hid (HWB.out i)
          generalize wt i = wi at HII HWI HWBI
          generalize wr = wo at *
          go_wp2
          go_loopw [11, 12] (fun x11 x12 wr => ∃ k : Nat, k ≤ N ∧ x12 = .int .i64 k ∧ x11 = .int .i64 (1 + Sm k wi : Nat) ∧ Below wo.heap.size wo wr) (fun _ x12 _ => N - (intOf x12).toNat)
          case atStart => exact ⟨0, Nat.zero_le _, rfl, rfl, Below.refl _ _⟩
          case round =>
            obtain ⟨k, hk, rfl, rfl, hb⟩ := hrel
            have HR2 := Lib.hid (HR.out.same (SameIn.below hb (by omega)))
            have HO2 := Lib.hid (HO.out.same (SameIn.below hb (by omega)))
            have HB2 := Lib.hid hb
            have hsk := hb.size
            have hwb := HWBI.out k
            have HSK := Lib.hid (show Sm (k + 1) wi = Sm k wi + wi k from rfl)
            clear hb
            by_cases hkN : k < N
            case pos =>
              have hkN' : (k : Int) < N := by omega
              have hkg0 : k < g.n * g.len 0 := by rw [EN.out]; exact hkN
              obtain ⟨w1', w2'⟩ := HWI.out k hkg0
              have HW1 := Lib.hid w1'
              have HW2 := Lib.hid w2'
              clear w1' w2'
              obtain ⟨q, eq⟩ : ∃ q, Sm k wi = q := ⟨_, rfl⟩
              rw [eq] at hwb HSK ⊢
              clear eq
              by_cases hki : k = i
              case pos =>
                have hne : ((k : Int) != (i : Int)) = false := by simp [hki]
                have HZ0 := Lib.hid (show Sm (k + 1) wi = q by rw [HSK.out, HW2.out (fun h => h.1 hki)]; rfl)
                clear hki
                go_wp2_with fail
                go_quiet (fail)
                go_wp2
                go_roundw
                case rel => exact ⟨k + 1, by omega, by go_num, by rw [HZ0.out], below_drewN HB2.out _⟩
                case measure => simp [intOf]; omega
              case neg =>
                have hne : ((k : Int) != (i : Int)) = true := by rw [bne_iff_ne]; omega
                have HKI := Lib.hid hki
                clear hki
                obtain ⟨r, er⟩ : ∃ r, r = k / C := ⟨_, rfl⟩
                obtain ⟨c, ec⟩ : ∃ c, c = k % C := ⟨_, rfl⟩
                have t1 : (k : Int) / (C : Int) = (r : Int) := by rw [er]; exact (Int.natCast_ediv _ _).symm
                have t2 : (k : Int) % (C : Int) = (c : Int) := by rw [ec]; exact (Int.natCast_emod _ _).symm
                have hr49 : r ≤ k := by rw [er]; exact Nat.div_le_self _ _
                have hc7 : c < C := by rw [ec]; exact Nat.mod_lt _ (by omega)
                have hrn : r < g.n := by rw [er]; exact (Nat.div_lt_iff_lt_mul (by omega)).2 (by rw [← EC.out, EN.out]; exact hkN)
                have hkg : k < g.n * g.len 0 := by rw [EN.out]; exact hkN
                have hdec : k = r * g.len 0 + c := by rw [EC.out, er, ec, Nat.mul_comm]; exact (Nat.div_add_mod k C).symm
                have h3' : ¬ (C : Int) = 0 := by omega
                have h3'' : ((C : Int) == 0) = false := by rw [beq_eq_false_iff_ne]; omega
                have h4 : (k : Int) ≤ 48 := by omega
                have h5 : (r : Int) ≤ 48 := by omega
                have h6 : (c : Int) ≤ 7 := by omega
                have h7 : (0 : Int) < C := by omega
                have hq1 : IntKind.i64.wrap ((k : Int).tdiv (C : Int)) = (r : Int) := (IntWalk.i64_quo _ _ ⟨by omega, by omega, by omega⟩).trans t1
                have hq2 : (k : Int).tmod (C : Int) = (c : Int) := (IntWalk.rem_in _ _ (by omega)).trans t2
                have hq3 : IntKind.i64.wrap ((k : Int).tmod (C : Int)) = (c : Int) := by rw [hq2]; exact IntWalk.i64_in _ (by omega)
                have h3n : ¬ C = 0 := by omega
                have hqd : IntKind.i64.wrap ((k : Int) / (C : Int)) = (r : Int) := by rw [t1]; exact IntWalk.i64_in _ (by omega)
                obtain ⟨x, ex⟩ : ∃ x, nxt g.n (g.len 0) g.flat ⟨k, hkg⟩ = x := ⟨_, rfl⟩
                have HWN := Lib.hid (show g.wnV (r : Int) (c : Int) = (x.1 : Int) by rw [← ex]; exact HNA.out k r c hkg hrn (by rw [EC.out]; exact hc7) hdec)
                rw [ex] at HW1 HW2
                obtain ⟨xi, exi⟩ : ∃ xi, x.1 = xi := ⟨_, rfl⟩
                rw [exi] at HW1 HW2 HWN
                obtain ⟨bo, oo, rfl, co, _, ro1, ro2, _, ro4⟩ := HO2.out.at'' hkN ((fl k : Nat) : Int) rfl
                have HCO := Lib.hid co
                have bnd := World.block_lt_of_cell? _ _ co
                have hfk := HFB.out k
                clear t1 hrn hdec ex exi er ec co
                have s00 : wr.heap.size ≤ wr.heap.size := Nat.le_refl _
                by_cases hxi : xi = i
                case pos =>
                  have hxe : ((xi : Int) == (i : Int)) = true := by simp [hxi]
                  have HZ1 := Lib.hid (show Sm (k + 1) wi = q + fl k by rw [HSK.out, HW1.out HKI.out hxi])
                  clear hxi
                  generalize fl k = y at HCO HZ1 hfk ro1 ro2
                  have hw : IntKind.i64.wrap (((1 + q : Nat) : Int) + (y : Int)) = ((1 + (q + y) : Nat) : Int) := by rw [IntWalk.i64_in _ (by omega)]; omega
                  go_wp2_with fail
                  go_region_held3 (fun w' => wr.heap.size ≤ w'.heap.size) (first | with_reducible exact s00 | with_reducible exact s0 | go_keep | exact s0 | exact s00)
                    ((go_at_call 35; (refine (implWaterNext_any _ 0 wr.heap.size g r c wr.drew ((HR2.out.same (w' := wr.drew) (fun _ _ _ => rfl)).mono (Nat.zero_le _) (by omega)) (Nat.le_refl _)).mono ?_); rintro e w5 ⟨rfl, hb5⟩; rw [HWN.out]; have hbu := hb5.undrew; have s0 := hbu.size; have c5 := (hbu.cell (p := ⟨bo, oo + k, none⟩) bnd).trans HCO.out; have HB5 := Lib.hid hbu; clear hb5 hbu))
                  all_goals go_wp2
                  all_goals go_roundw
                  all_goals first
                    | exact ⟨k + 1, by omega, by go_num, by rw [HZ1.out]; exact congrArg (Value.int .i64) (by omega), HB2.out.trans (HB5.out.mono hsk)⟩
                    | (simp [intOf]; omega)
                case neg =>
                  have hxe : ((xi : Int) == (i : Int)) = false := by rw [beq_eq_false_iff_ne]; omega
                  have HZ1 := Lib.hid (show Sm (k + 1) wi = q by rw [HSK.out, HW2.out (fun h => hxi h.2)]; rfl)
                  clear hxi
                  go_wp2_with fail
                  go_region_held3 (fun w' => wr.heap.size ≤ w'.heap.size) (first | with_reducible exact s00 | with_reducible exact s0 | go_keep | exact s0 | exact s00)
                    ((go_at_call 35; (refine (implWaterNext_any _ 0 wr.heap.size g r c wr.drew ((HR2.out.same (w' := wr.drew) (fun _ _ _ => rfl)).mono (Nat.zero_le _) (by omega)) (Nat.le_refl _)).mono ?_); rintro e w5 ⟨rfl, hb5⟩; rw [HWN.out]; have hbu := hb5.undrew; have s0 := hbu.size; have HB5 := Lib.hid hbu; clear hb5 hbu))
                  all_goals go_wp2
                  all_goals go_roundw
                  all_goals first
                    | exact ⟨k + 1, by omega, by go_num, by rw [HZ1.out]; exact congrArg (Value.int .i64) (by omega), HB2.out.trans (HB5.out.mono hsk)⟩
                    | (simp [intOf]; omega)
            case neg =>
              have hkn : ¬ (k : Int) < N := by omega
              have ek : k = N := by omega
              have HS2 := Lib.hid (show 1 + Sm k wi = fl i by rw [ek, ← EN.out]; exact HII.out)
              rw [HS2.out]
              clear ek hwb HSK
              obtain ⟨r, er⟩ : ∃ r, r = i / C := ⟨_, rfl⟩
              obtain ⟨c, ec⟩ : ∃ c, c = i % C := ⟨_, rfl⟩
              have t1 : (i : Int) / (C : Int) = (r : Int) := by rw [er]; exact (Int.natCast_ediv _ _).symm
              have t2 : (i : Int) % (C : Int) = (c : Int) := by rw [ec]; exact (Int.natCast_emod _ _).symm
              have hr49 : r ≤ i := by rw [er]; exact Nat.div_le_self _ _
              have hc7 : c < C := by rw [ec]; exact Nat.mod_lt _ (by omega)
              have hrn : r < g.n := by rw [er]; exact (Nat.div_lt_iff_lt_mul (by omega)).2 (by rw [← EC.out, EN.out]; exact hiN)
              have hig : i < g.n * g.len 0 := by rw [EN.out]; exact hiN
              have hdec : i = r * g.len 0 + c := by rw [EC.out, er, ec, Nat.mul_comm]; exact (Nat.div_add_mod i C).symm
              have h3' : ¬ (C : Int) = 0 := by omega
              have h3'' : ((C : Int) == 0) = false := by rw [beq_eq_false_iff_ne]; omega
              have h4 : (i : Int) ≤ 48 := by omega
              have h5 : (r : Int) ≤ 48 := by omega
              have h6 : (c : Int) ≤ 7 := by omega
              have h7 : (0 : Int) < C := by omega
              have hq1 : IntKind.i64.wrap ((i : Int).tdiv (C : Int)) = (r : Int) := (IntWalk.i64_quo _ _ ⟨by omega, by omega, by omega⟩).trans t1
              have hq2 : (i : Int).tmod (C : Int) = (c : Int) := (IntWalk.rem_in _ _ (by omega)).trans t2
              have hq3 : IntKind.i64.wrap ((i : Int).tmod (C : Int)) = (c : Int) := by rw [hq2]; exact IntWalk.i64_in _ (by omega)
              have h3n : ¬ C = 0 := by omega
              have hqd : IntKind.i64.wrap ((i : Int) / (C : Int)) = (r : Int) := by rw [t1]; exact IntWalk.i64_in _ (by omega)
              have HRI := Lib.hid (HRA.out i r c hig hrn (by rw [EC.out]; exact hc7) hdec)
              obtain ⟨bo, oo, rfl, co, _, ro1, ro2, _, ro4⟩ := HO2.out.at'' hiN ((fl i : Nat) : Int) rfl
              have HCO := Lib.hid co
              have bnd := World.block_lt_of_cell? _ _ co
              have hfi := HFB.out i
              have hli := HLB.out i
              have HSI := Lib.hid (show Sm (i + 1) ln = Sm i ln + ln i from rfl)
              clear t1 hrn hdec er ec co
              generalize fl i = y at HCO hfi ro1 ro2 ⊢
              generalize Sm i ln = sl at hls HSI ⊢
              generalize ln i = lni at hli HSI HRI
              have hyy : ((y : Int) != y) = false := by simp
              have hw : IntKind.i64.wrap ((sl : Int) + (lni : Int)) = ((sl + lni : Nat) : Int) := by rw [IntWalk.i64_in _ (by omega)]; omega
              have s00 : wr.heap.size ≤ wr.heap.size := Nat.le_refl _
              go_wp2_with fail
              go_region_held3 (fun w' => wr.heap.size ≤ w'.heap.size) (first | with_reducible exact s00 | with_reducible exact s0 | go_keep | exact s0 | exact s00)
                ((go_at_call 46; (refine (HRI.out _ 0 wr.heap.size wr.drew ((HR2.out.same (w' := wr.drew) (fun _ _ _ => rfl)).mono (Nat.zero_le _) (by omega)) (Nat.le_refl _)).mono ?_); rintro e w5 ⟨⟨a5, c5, rfl⟩, hb5⟩; have hbu := hb5.undrew; have s0 := hbu.size; have k5 := (hbu.cell (p := ⟨bo, oo + i, none⟩) bnd).trans HCO.out; have HB5 := Lib.hid hbu; clear hb5 hbu))
              all_goals go_wp2
              all_goals go_roundw
              all_goals first
                | exact ⟨i + 1, by omega, by go_num, by rw [HSI.out]; exact congrArg (Value.int .i64) (by omega), HB.out.trans ((HB2.out.trans (HB5.out.mono hsk)).mono hsi)⟩
                | (simp [intOf]; omega)
        case neg =>
          have hin : ¬ (i : Int) < N := by omega
          have ei : i = N := by omega
          have HSN := Lib.hid (show Sm i ln = Sm N fl by rw [ei]; exact HLEN.out.symm)
          rw [HSN.out]
          have hss : ((Sm N fl : Int) == (Sm N fl : Int)) = true := by simp
          clear ei
          go_wp2_with fail
          refine (sumOf_any _ _ _ N fl _ HO.out h49 (fun j => HFB.out j) (fun k _ => HSB.out k)).mono ?_
          rintro e w9 ⟨rfl, rfl⟩
          go_wp2
          go_ret
          exact ⟨rfl, BL_9.out.trans (HB.out.mono (by omega))⟩
end Go.Proofs.Ytplfphpnpjjinaa

