/- The program's GridBelow. -/
import Derived.Test.YtdiehjigfmjjiaaImplK
namespace Go.Proofs.Ytdiehjigfmjjiaa
open Go.RowKit
set_option linter.unusedVariables false

theorem below_two (R R2 C C2 n1 gg1 cap1 n2 gg2 cap2 : Nat) (Z1 Z2 : Nat → Int) (w : World) (hCC : C = C2) (h : Rv w R C n1 gg1 cap1 Z1) (h' : Rv w R2 C2 n2 gg2 cap2 Z2) (hR : 1 ≤ R ∧ R ≤ 7) (hR2 : 1 ≤ R2 ∧ R2 ≤ 7) (hC : 1 ≤ C ∧ C ≤ 7) :
    Calls Try.prog 28 #[.agg #[.int .i64 R, .int .i64 C, .slice (some ⟨gg1, 0, none⟩) n1 cap1], .agg #[.int .i64 R2, .int .i64 C2, .slice (some ⟨gg2, 0, none⟩) n2 cap2]] w (MPost (R + R2) C (catZ n1 Z1 Z2) w) := by
  subst hCC
  exact below_any R R2 C n1 gg1 cap1 n2 gg2 cap2 Z1 Z2 w h h' hR hR2 hC

def BwPost (a b : G) (w : World) (e : Ending) (w' : World) : Prop := (BelowOk a b → GPost true (belowG a b) w e w') ∧ (¬ BelowOk a b → GPost false G0 w e w')

set_option maxHeartbeats 4000000 in
set_option maxRecDepth 20000 in
theorem implGridBelow_any (v u : Value) (lo hi : Nat) (a b : G) (w : World) (hv : RdM lo hi w v a) (hu : RdM lo hi w u b) (hh : hi ≤ w.heap.size) :
    Calls Try.prog 13 #[v, u] w (BwPost a b w) := by
  by_cases ha : a.Valid
  case neg =>
    have HC := Lib.hid (reliefOf_no v lo hi a w hv hh ha)
    have HNO := Lib.hid (show ¬ BelowOk a b from fun h => ha h.1)
    by_cases hb : b.Valid
    case neg =>
      have HD := Lib.hid (fun (W : World) (hB : Below w.heap.size w W) => reliefOf_no u lo hi b W (hu.same (SameIn.below hB hh)) (Nat.le_trans hh hB.size) hb)
      clear hv hu ha hb
      go_enter Try.func13, Try.ntmps13
      go_wp2_with fail
      refine HC.out.mono ?_
      rintro e w1 ⟨rfl, hb1⟩
      have HB1 := Lib.hid (hb1.alloc hb1.size (.cells #[.int .i64 0, .int .i64 0, .slice none 0 0] 39))
      clear hb1
      go_wp2_with fail
      refine (HD.out _ HB1.out).mono ?_
      rintro e w2 ⟨rfl, hb2⟩
      have HB2 := Lib.hid ((HB1.out.trans (hb2.mono HB1.out.size)).alloc (HB1.out.trans (hb2.mono HB1.out.size)).size (.cells #[.int .i64 0, .int .i64 0, .slice none 0 0] 39))
      clear hb2
      go_wp2
      go_ret2
      exact ⟨fun h => absurd h HNO.out, fun _ => ⟨_, rfl, ⟨_, _, _, rfl⟩, OwM.none _ _ _, HB2.out⟩⟩
    case pos =>
      have HD := Lib.hid (fun (W : World) (hB : Below w.heap.size w W) => reliefOf_yes u lo hi b W (hu.same (SameIn.below hB hh)) (Nat.le_trans hh hB.size) hb)
      clear hv hu ha hb
      go_enter Try.func13, Try.ntmps13
      go_wp2_with fail
      refine HC.out.mono ?_
      rintro e w1 ⟨rfl, hb1⟩
      have HB1 := Lib.hid (hb1.alloc hb1.size (.cells #[.int .i64 0, .int .i64 0, .slice none 0 0] 39))
      clear hb1
      go_wp2_with fail
      refine (HD.out _ HB1.out).mono ?_
      intro e w2 hq
      obtain ⟨n2, gg2, cap2, rfl, hrv2, hb2⟩ := hq.rv
      have HB2 := Lib.hid ((HB1.out.trans (hb2.mono HB1.out.size)).alloc (HB1.out.trans (hb2.mono HB1.out.size)).size (.cells #[.int .i64 b.n, .int .i64 (b.len 0), .slice (some ⟨gg2, 0, none⟩) n2 cap2] 39))
      clear hq hrv2 hb2
      go_wp2
      go_ret2
      exact ⟨fun h => absurd h HNO.out, fun _ => ⟨_, rfl, ⟨_, _, _, rfl⟩, OwM.none _ _ _, HB2.out⟩⟩
  case pos =>
    have HC := Lib.hid (reliefOf_yes v lo hi a w hv hh ha)
    by_cases hb : b.Valid
    case neg =>
      have HD := Lib.hid (fun (W : World) (hB : Below w.heap.size w W) => reliefOf_no u lo hi b W (hu.same (SameIn.below hB hh)) (Nat.le_trans hh hB.size) hb)
      have HNO := Lib.hid (show ¬ BelowOk a b from fun h => hb h.2.1)
      clear hv hu ha hb
      go_enter Try.func13, Try.ntmps13
      go_wp2_with fail
      refine HC.out.mono ?_
      intro e w1 hq
      obtain ⟨n1, gg1, cap1, rfl, hrv1, hb1⟩ := hq.rv
      have HB1 := Lib.hid (hb1.alloc hb1.size (.cells #[.int .i64 a.n, .int .i64 (a.len 0), .slice (some ⟨gg1, 0, none⟩) n1 cap1] 39))
      clear hq hrv1 hb1
      go_wp2_with fail
      refine (HD.out _ HB1.out).mono ?_
      rintro e w2 ⟨rfl, hb2⟩
      have HB2 := Lib.hid ((HB1.out.trans (hb2.mono HB1.out.size)).alloc (HB1.out.trans (hb2.mono HB1.out.size)).size (.cells #[.int .i64 0, .int .i64 0, .slice none 0 0] 39))
      clear hb2
      go_wp2
      go_ret2
      exact ⟨fun h => absurd h HNO.out, fun _ => ⟨_, rfl, ⟨_, _, _, rfl⟩, OwM.none _ _ _, HB2.out⟩⟩
    case pos =>
      have HD := Lib.hid (fun (W : World) (hB : Below w.heap.size w W) => reliefOf_yes u lo hi b W (hu.same (SameIn.below hB hh)) (Nat.le_trans hh hB.size) hb)
      have HA := Lib.hid ha
      have HBV := Lib.hid hb
      clear hv hu ha hb
      by_cases hn : a.len 0 = b.len 0
      case neg =>
        have HNO := Lib.hid (show ¬ BelowOk a b from fun h => hn ((below_valid HA.out HBV.out).1 h.2.2).1)
        have hx : ((a.len 0 : Int) != b.len 0) = true := by rw [bne_iff_ne]; omega
        clear hn
        go_enter Try.func13, Try.ntmps13
        go_wp2_with fail
        refine HC.out.mono ?_
        intro e w1 hq
        obtain ⟨n1, gg1, cap1, rfl, hrv1, hb1⟩ := hq.rv
        have HL1 := Lib.hid (heap_alloc_new w1 (.cells #[.int .i64 a.n, .int .i64 (a.len 0), .slice (some ⟨gg1, 0, none⟩) n1 cap1] 39))
        have HB1 := Lib.hid (hb1.alloc hb1.size (.cells #[.int .i64 a.n, .int .i64 (a.len 0), .slice (some ⟨gg1, 0, none⟩) n1 cap1] 39))
        clear hq hrv1 hb1
        go_wp2_with fail
        refine (HD.out _ HB1.out).mono ?_
        intro e w2 hq
        obtain ⟨n2, gg2, cap2, rfl, hrv2, hb2⟩ := hq.rv
        have hL := (hb2.block w1.heap.size (by simp)).trans HL1.out
        have hlt : w1.heap.size < w2.heap.size := lt_of_block hL
        obtain ⟨k0, k1, k2, _, _, _⟩ := cells3 ((Below.heap_alloc w2 (.cells #[.int .i64 b.n, .int .i64 (b.len 0), .slice (some ⟨gg2, 0, none⟩) n2 cap2] 39) w1.heap.size hlt).trans hL)
        have HB2 := Lib.hid ((HB1.out.trans (hb2.mono HB1.out.size)).alloc (HB1.out.trans (hb2.mono HB1.out.size)).size (.cells #[.int .i64 b.n, .int .i64 (b.len 0), .slice (some ⟨gg2, 0, none⟩) n2 cap2] 39))
        clear hq hrv2 hb2 hL
        go_wp2
        go_ret2
        exact ⟨fun h => absurd h HNO.out, fun _ => ⟨_, rfl, ⟨_, _, _, rfl⟩, OwM.none _ _ _, HB2.out⟩⟩
      case pos =>
        have HN := Lib.hid hn
        have hx : ((a.len 0 : Int) != b.len 0) = false := by rw [hn]; simp
        clear hn
        go_enter Try.func13, Try.ntmps13
        go_wp2_with fail
        refine HC.out.mono ?_
        intro e w1 hq
        obtain ⟨n1, gg1, cap1, rfl, hrv1, hb1⟩ := hq.rv
        have HL1 := Lib.hid (heap_alloc_new w1 (.cells #[.int .i64 a.n, .int .i64 (a.len 0), .slice (some ⟨gg1, 0, none⟩) n1 cap1] 39))
        have HB1 := Lib.hid (hb1.alloc hb1.size (.cells #[.int .i64 a.n, .int .i64 (a.len 0), .slice (some ⟨gg1, 0, none⟩) n1 cap1] 39))
        have HRV1 := Lib.hid (hrv1.keep ((Below.refl w1.heap.size w1).alloc (Nat.le_refl _) (.cells #[.int .i64 a.n, .int .i64 (a.len 0), .slice (some ⟨gg1, 0, none⟩) n1 cap1] 39)) (Nat.le_refl _))
        clear hq hrv1 hb1
        go_wp2_with fail
        refine (HD.out _ HB1.out).mono ?_
        intro e w2 hq
        obtain ⟨n2, gg2, cap2, rfl, hrv2, hb2⟩ := hq.rv
        have hL := (hb2.block w1.heap.size (by simp)).trans HL1.out
        have hlt : w1.heap.size < w2.heap.size := lt_of_block hL
        obtain ⟨k0, k1, k2, _, _, _⟩ := cells3 ((Below.heap_alloc w2 (.cells #[.int .i64 b.n, .int .i64 (b.len 0), .slice (some ⟨gg2, 0, none⟩) n2 cap2] 39) w1.heap.size hlt).trans hL)
        have HB2 := Lib.hid ((HB1.out.trans (hb2.mono HB1.out.size)).alloc (HB1.out.trans (hb2.mono HB1.out.size)).size (.cells #[.int .i64 b.n, .int .i64 (b.len 0), .slice (some ⟨gg2, 0, none⟩) n2 cap2] 39))
        have hba := ((Below.refl w2.heap.size w2).alloc (Nat.le_refl _) (.cells #[.int .i64 b.n, .int .i64 (b.len 0), .slice (some ⟨gg2, 0, none⟩) n2 cap2] 39))
        have hrv1b := (HRV1.out.keep hb2 (Nat.le_refl _)).keep hba (Nat.le_refl _)
        have hrv2b := hrv2.keep hba (Nat.le_refl _)
        have HM := Lib.hid (below_two a.n b.n (a.len 0) (b.len 0) n1 gg1 cap1 n2 gg2 cap2 a.flat b.flat _ HN.out hrv1b hrv2b HA.out.1 HBV.out.1 HA.out.2.1)
        have HN1 := Lib.hid hrv1b.n_eq
        clear hq hrv2 hb2 hL hba hrv1b hrv2b
        go_wp2_with fail
        refine HM.out.mono ?_
        rintro e w3 ⟨n3, gg3, cap3, rfl, hrv3, hb3⟩
        have HB3 := Lib.hid (HB2.out.trans (hb3.mono HB2.out.size))
        have HRV := Lib.hid hrv3
        have hn1 := HN1.out
        have hz : ∀ r, r < a.n + b.n → ∀ c, c < a.len 0 → catZ n1 a.flat b.flat (r * a.len 0 + c) = (belowG a b).z r c ∧ (belowG a b).len r = a.len 0 := fun r hr c hc => by
          simp only [belowG, catZ]
          by_cases h3 : r < a.n
          · have hlt : r * a.len 0 + c < n1 := by rw [hn1]; exact cell_lt rfl h3 hc
            rw [if_pos hlt, if_pos h3, if_pos h3, a.flat_at r c hc]
            exact ⟨rfl, (HA.out.2.2 r h3).1⟩
          · have hge : ¬ (r * a.len 0 + c < n1) := by
              rw [hn1]
              have := Nat.mul_le_mul_right (a.len 0) (show a.n ≤ r by omega)
              omega
            have e : r * a.len 0 + c - n1 = (r - a.n) * b.len 0 + c := by
              rw [hn1, ← HN.out, Nat.mul_sub_right_distrib]
              have := Nat.mul_le_mul_right (a.len 0) (show a.n ≤ r by omega)
              omega
            rw [if_neg hge, if_neg h3, if_neg h3, e, b.flat_at (r - a.n) c (by rw [← HN.out]; exact hc), HN.out]
            exact ⟨rfl, (HBV.out.2.2 (r - a.n) (by omega)).1⟩
        have HZ := Lib.hid hz
        clear hrv3 hb3 hz hn1
        by_cases hval : a.n + b.n ≤ 7
        · have hbv := (below_valid HA.out HBV.out).2 ⟨HN.out, hval⟩
          have HOK := Lib.hid (show BelowOk a b from ⟨HA.out, HBV.out, hbv⟩)
          have HG := Lib.hid (grid_yes (a.n + b.n) (a.len 0) n3 gg3 cap3 _ w3 HRV.out (relOk_of HRV.out.n_eq (by have := HA.out.1; omega) HA.out.2.1 (fun r hr c hc => by
            rw [(HZ.out r hr c hc).1]
            exact (hbv.2.2 r hr).2 c (by rw [(HZ.out r hr c hc).2]; exact hc))))
          clear hval hbv
          go_wp2_with fail
          refine HG.out.mono ?_
          rintro e w4 ⟨v4, rfl, ⟨aa, l, c, rfl⟩, ho, hb4⟩
          have HP : Hid (GPost true (belowG a b) w (.returned (.tuple #[.slice aa l c, .bool true])) w4) := GPost.up ⟨_, rfl, ⟨_, _, _, rfl⟩, ho, hb4⟩ HB3.out ⟨rfl, fun r hr => ⟨(HZ.out r hr 0 (by have := HA.out.2.1.1; omega)).2.symm, fun c hc => (HZ.out r hr c hc).1⟩⟩
          clear ho hb4
          go_wp2
          go_ret2
          exact ⟨fun _ => HP.out, fun h => absurd HOK.out h⟩
        · have HOK := Lib.hid (show ¬ BelowOk a b from fun h => hval ((below_valid HA.out HBV.out).1 h.2.2).2)
          have HG := Lib.hid (grid_no (a.n + b.n) (a.len 0) n3 gg3 cap3 _ w3 HRV.out (fun hok => hval hok.1.2) (by
            rw [HRV.out.n_eq]
            have h1 := HA.out.1.2; have h2 := HA.out.2.1.2; have h3 := HBV.out.1.2
            have := Nat.mul_le_mul (show a.n + b.n ≤ 14 by omega) h2
            omega) (by have := HA.out.1; have := HBV.out.1; omega) (by have := HA.out.2.1; omega))
          clear hval
          go_wp2_with fail
          refine HG.out.mono ?_
          rintro e w4 ⟨v4, rfl, ⟨aa, l, c, rfl⟩, ho, hb4⟩
          have HP : Hid (GPost false G0 w (.returned (.tuple #[.slice aa l c, .bool false])) w4) := GPost.up ⟨_, rfl, ⟨_, _, _, rfl⟩, ho, hb4⟩ HB3.out (G.Eqv.refl _)
          clear ho hb4
          go_wp2
          go_ret2
          exact ⟨fun h => absurd h HOK.out, fun _ => HP.out⟩

end Go.Proofs.Ytdiehjigfmjjiaa
