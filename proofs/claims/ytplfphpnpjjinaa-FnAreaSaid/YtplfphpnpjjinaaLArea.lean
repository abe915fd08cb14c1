/- The law FnArea of the promises: its walk. -/
import Derived.Test.YtplfphpnpjjinaaPHelp
import Derived.Test.YtplfphpnpjjinaaRegI
import Derived.Test.YtplfphpnpjjinaaRegE
import Derived.Test.YtplfphpnpjjinaaLvI
import Derived.Test.YtplfphpnpjjinaaDrawH
import Derived.Test.YtplfphpnpjjinaaSumR
namespace Go.Proofs.Ytplfphpnpjjinaa
open Go.RowKit
set_option linter.unusedVariables false

theorem area_facts {g : G} {lv s : Int} (hok : g.LvOk lv) (h0 : 0 ≤ s) (h1 : s < rgN g.n (g.len 0) g.flat lv (g.n * g.len 0)) :
    ∃ (y n : Nat) (cn : Nat → Nat), g.arV lv s = (y : Int) ∧ 1 ≤ y ∧ g.rgV lv = (n : Int) ∧ s < n ∧ n ≤ 49 ∧ (∀ k, k < n → g.arV lv (k : Int) = (cn k : Int)) ∧ g.ldV lv = (Sm n cn : Int) ∧ Sm n cn ≤ 49 := by
  have h49 := mul_le_49 hok.1.1.2 hok.1.2.1.2
  refine ⟨_, _, fun k => cntZ (numZ g.n (g.len 0) g.flat lv) (k : Int) (g.n * g.len 0), G.arV_yes hok h0 h1, (area_iff (R := g.n) (C := g.len 0) h0).2 h1, G.rgV_yes hok, h1, ?_, ?_, ?_, ?_⟩
  · have := rgN_le g.n (g.len 0) g.flat lv (g.n * g.len 0); omega
  · intro k hk
    exact G.arV_yes hok (by omega) (by omega)
  · rw [G.ldV_yes hok, area_sum g.n (g.len 0) g.flat lv _ (g.n * g.len 0) (fun j hj hl => numZ_lt hl (Nat.lt_of_le_of_lt (cmZ_le _ _ _ _ _) hj))]
  · rw [area_sum g.n (g.len 0) g.flat lv _ (g.n * g.len 0) (fun j hj hl => numZ_lt hl (Nat.lt_of_le_of_lt (cmZ_le _ _ _ _ _) hj))]
    have := landN_le g.flat lv (g.n * g.len 0); omega

set_option maxHeartbeats 4000000 in
set_option maxRecDepth 100000 in
theorem law_FnArea (v : Value) (n : Nat) (w : World) (hv : RdB w.heap.size w v n) : Calls Try.prog 4 #[v] w (LawPost w) := by
  have HD := Lib.hid (draw_DrawLevelArea v n w.heap.size w hv (Nat.le_refl _))
  obtain ⟨ao, cap, cb, off, Z, rfl, hc1, hc2, _⟩ := hv
  by_cases hn : 1048576 < n
  · have hn' : (1048576 : Int) < n := by omega
    go_enter Try.func4, Try.ntmps4
    go_wp2
    go_ret
    exact ⟨rfl, Below.refl _ _⟩
  · have hn' : ¬ (1048576 : Int) < n := by omega
    go_enter Try.func4, Try.ntmps4
    go_wp2_with fail
    refine HD.out.mono ?_
    rintro e w1 ⟨vg, g, lv, s, rfl, _, hm, hgn, hgl, ⟨hk1, hk2⟩, ⟨hs1, hs2⟩, bw1⟩
    obtain ⟨bg, og, cg, rfl⟩ := hm.shape (by omega)
    have R_g := Lib.hid hm
    obtain ⟨hgn1, hgn5⟩ := hgn
    clear hm hgl HD
    have sw1 : w.heap.size ≤ w1.heap.size := bw1.size
    have BL := Lib.hid bw1
    clear bw1
    by_cases hok : g.LvOk lv ∧ 0 ≤ s ∧ s < rgN g.n (g.len 0) g.flat lv (g.n * g.len 0)
    case neg =>
      have HE := Lib.hid (G.arV_no hok)
      clear hok
      go_wp2_with fail
      refine (implLevelArea_any _ 0 w1.heap.size g lv s _ (R_g.out.mono (Nat.zero_le _) (by omega)) (Nat.le_refl _)).mono ?_
      rintro e w2 ⟨rfl, bw2⟩
      have sw2 : w1.heap.size ≤ w2.heap.size := bw2.size
      have L_1 := Lib.hid (R_g.out.same (SameIn.below bw2 (by omega)))
      clear R_g
      have BL_2 := Lib.hid (BL.out.trans (bw2.mono (by omega)))
      clear BL bw2
      rw [HE.out]
      go_wp2_with fail
      refine (specLevelArea_any _ 0 w2.heap.size g lv s _ (L_1.out.mono (Nat.zero_le _) (by omega)) (Nat.le_refl _)).mono ?_
      rintro e w3 ⟨rfl, bw3⟩
      have sw3 : w2.heap.size ≤ w3.heap.size := bw3.size
      have L_3 := Lib.hid (L_1.out.same (SameIn.below bw3 (by omega)))
      clear L_1
      have BL_4 := Lib.hid (BL_2.out.trans (bw3.mono (by omega)))
      clear BL_2 bw3
      rw [HE.out]
      go_wp2
      go_ret
      exact ⟨rfl, BL_4.out⟩
    case pos =>
      obtain ⟨y, n, cn, hy, hy1, hnn, hsn, hn49, har, hld, hsm⟩ := area_facts hok.1 hok.2.1 hok.2.2
      have HY := Lib.hid hy
      have HN := Lib.hid hnn
      have HAR := Lib.hid har
      have HLD := Lib.hid hld
      have HSM := Lib.hid (fun (k : Nat) (hk : k ≤ n) => show Sm k cn ≤ 49 from Nat.le_trans (Sm_more hk) hsm)
      clear hok hy hnn har hld
      go_wp2_with fail
      refine (implLevelArea_any _ 0 w1.heap.size g lv s _ (R_g.out.mono (Nat.zero_le _) (by omega)) (Nat.le_refl _)).mono ?_
      rintro e w2 ⟨rfl, bw2⟩
      have sw2 : w1.heap.size ≤ w2.heap.size := bw2.size
      have L_1 := Lib.hid (R_g.out.same (SameIn.below bw2 (by omega)))
      clear R_g
      have BL_2 := Lib.hid (BL.out.trans (bw2.mono (by omega)))
      clear BL bw2
      rw [HY.out]
      go_wp2_with fail
      refine (specLevelArea_any _ 0 w2.heap.size g lv s _ (L_1.out.mono (Nat.zero_le _) (by omega)) (Nat.le_refl _)).mono ?_
      rintro e w3 ⟨rfl, bw3⟩
      have sw3 : w2.heap.size ≤ w3.heap.size := bw3.size
      have L_3 := Lib.hid (L_1.out.same (SameIn.below bw3 (by omega)))
      clear L_1
      have BL_4 := Lib.hid (BL_2.out.trans (bw3.mono (by omega)))
      clear BL_2 bw3
      rw [HY.out]
      have hx1 : ((y : Int) != y) = false := by simp
      have hx2 : decide ((y : Int) < 0) = false := by simp <;> omega
      go_wp2_with fail
      refine (implLevelRegions_any _ 0 w3.heap.size g lv _ (L_3.out.mono (Nat.zero_le _) (by omega)) (Nat.le_refl _)).mono ?_
      rintro e w4 ⟨rfl, bw4⟩
      have sw4 : w3.heap.size ≤ w4.heap.size := bw4.size
      have L_5 := Lib.hid (L_3.out.same (SameIn.below bw4 (by omega)))
      clear L_3
      have BL_6 := Lib.hid (BL_4.out.trans (bw4.mono (by omega)))
      clear BL_4 bw4
      rw [HN.out]
      go_wp2
      go_loopw [8, 10] (fun a b wr => ∃ k : Nat, k ≤ n ∧ b = .int .i64 k ∧ a = .int .i64 (Sm k cn : Nat) ∧ Below w4.heap.size w4 wr) (fun _ b _ => n - (intOf b).toNat)
      case atStart => exact ⟨0, Nat.zero_le _, rfl, rfl, Below.refl _ _⟩
      case round =>
        obtain ⟨k, hk, rfl, rfl, hbk⟩ := hrel
        have HR := Lib.hid (L_5.out.same (SameIn.below hbk (by omega)))
        have HB := Lib.hid hbk
        have hsk := hbk.size
        clear hbk
        by_cases hlt : k < n
        case pos =>
          have hlt' : (k : Int) < n := by omega
          have HK := Lib.hid (HAR.out k hlt)
          have hq1 := HSM.out k hk
          have hq2 := HSM.out (k + 1) hlt
          have hq3 : Sm (k + 1) cn = Sm k cn + cn k := rfl
          go_wp2_with fail
          refine (implLevelArea_any _ 0 wr.heap.size g lv k _ (HR.out.mono (Nat.zero_le _) (by omega)) (Nat.le_refl _)).mono ?_
          rintro e w9 ⟨rfl, b9⟩
          have HB9 := Lib.hid (HB.out.trans (b9.mono hsk))
          clear b9
          rw [HK.out]
          have hw : IntKind.i64.wrap (((Sm k cn : Nat) : Int) + ((cn k : Nat) : Int)) = ((Sm (k + 1) cn : Nat) : Int) := by
            rw [IntWalk.i64_in _ (by omega)]; omega
          clear hq3
          go_wp2
          go_roundw
          case rel => exact ⟨k + 1, by omega, by go_num, rfl, HB9.out⟩
          case measure => simp [intOf]; omega
        case neg =>
          have hge : ¬ (k : Int) < n := by omega
          obtain rfl : k = n := by omega
          have hd1 : decide (1 ≤ (y : Int)) = true := by simp <;> omega
          have hd2 : decide (s < (k : Int)) = true := by simp <;> omega
          go_wp2_with fail
          refine (implLevelLand_any _ 0 wr.heap.size g lv _ (HR.out.mono (Nat.zero_le _) (by omega)) (Nat.le_refl _)).mono ?_
          rintro e w9 ⟨rfl, b9⟩
          have HB9 := Lib.hid (HB.out.trans (b9.mono hsk))
          clear b9
          rw [HLD.out]
          go_wp2
          go_ret
          exact ⟨rfl, BL_6.out.trans (HB9.out.mono (by omega))⟩
end Go.Proofs.Ytplfphpnpjjinaa

