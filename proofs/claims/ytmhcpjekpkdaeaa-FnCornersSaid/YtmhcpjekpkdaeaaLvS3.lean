/- Corners and the sum in the model, by contract. -/
import Derived.Test.YtmhcpjekpkdaeaaLvS2
namespace Go.Proofs.Ytmhcpjekpkdaeaa
open Go.RowKit
set_option linter.unusedVariables false

set_option maxHeartbeats 4000000 in
set_option maxRecDepth 100000 in
theorem specLevelCorners_any (v : Value) (lo hi : Nat) (g : G) (lv : Int) (w : World) (hv : RdM lo hi w v g) (hh : hi ≤ w.heap.size) :
    Calls Try.prog 35 #[v, .int .i64 lv] w (IntPost (g.cnV lv) w) := by
  have HC := Lib.hid (l3Ok_any v lo hi g lv w hv)
  by_cases h : g.LvOk lv
  case neg =>
    have HB := Lib.hid (G.lvB_no h)
    have HA := Lib.hid (G.cnV_no h)
    clear hv h
    go_enter Try.func35, Try.ntmps35
    go_wp2_with fail
    refine HC.out.mono ?_
    rintro e w1 ⟨rfl, n1, rfl⟩
    rw [HB.out]
    go_wp2
    go_ret
    exact ⟨ret_int HA.out.symm, below_drewN (Below.refl _ _) _⟩
  case pos =>
    have HB := Lib.hid (G.lvB_yes h)
    have HA := Lib.hid (G.cnV_yes h)
    have HV := Lib.hid hv
    have HH := Lib.hid h.1
    have hn7 := h.1.1
    have hl7 := h.1.2.1
    obtain ⟨b0, off0, cap0, rfl⟩ := hv.shapeW h.1.1.1
    obtain ⟨C, eC⟩ : ∃ C, g.len 0 = C := ⟨_, rfl⟩
    have EC := Lib.hid eC
    rw [eC] at hl7
    obtain ⟨ah, ch, hd0⟩ := hv.headW h.1.1.1 C eC
    obtain ⟨R, eR⟩ : ∃ R, g.n = R + 1 := ⟨g.n - 1, by omega⟩
    have ER := Lib.hid eR
    have hn0 : 0 < g.n := by omega
    have hn0' : (0 : Int) < g.n := by omega
    clear hv h eC eR
    go_enter Try.func35, Try.ntmps35
    go_wp2_with fail
    refine HC.out.mono ?_
    rintro e w1 ⟨rfl, n1, rfl⟩
    rw [HB.out]
    go_wp2
    go_loopw [5, 6] (fun o k wr => ∃ r n : Nat, r ≤ R ∧ k = .int .i64 ((r : Int) + 1) ∧ o = .int .i64 (cornN C g.flat lv r) ∧ wr = w.drewN n) (fun _ k _ => g.n - (intOf k).toNat)
    case atStart => exact ⟨0, n1, Nat.zero_le _, rfl, rfl, rfl⟩
    case round =>
      obtain ⟨r, n2, hr, rfl, rfl, rfl⟩ := hrel
      have hle := cornN_le C g.flat lv r
      have hrC : r * C ≤ 49 := mul_le_49 (by have := ER.out; omega) hl7.2
      by_cases hlt : r < R
      · have hlt' : (r : Int) + 1 < g.n := by have := ER.out; omega
        have hlt2 : (r : Int) < g.n := by omega
        have hr1 : r + 1 < g.n := by omega
        have hlr : g.len r = C := by rw [← EC.out]; exact (HH.out.2.2 r (by omega)).1
        have hlr1 : g.len (r + 1) = C := by rw [← EC.out]; exact (HH.out.2.2 (r + 1) hr1).1
        have HLR := Lib.hid hlr
        have HLR1 := Lib.hid hlr1
        have HCS := Lib.hid (show cornN C g.flat lv (r + 1) = cornN C g.flat lv r + crRow C g.flat lv r (C - 1) from rfl)
        obtain ⟨m, em⟩ : ∃ m, cornN C g.flat lv r = m := ⟨_, rfl⟩
        rw [em] at hle HCS ⊢
        clear em hlr hlr1
        go_wp2
        go_loopw [5, 7] (fun o k wr => ∃ c n : Nat, c ≤ C - 1 ∧ k = .int .i64 ((c : Int) + 1) ∧ o = .int .i64 ((m : Int) + crRow C g.flat lv r c) ∧ wr = w.drewN n) (fun _ k _ => C - (intOf k).toNat)
        case atStart => exact ⟨0, n2, Nat.zero_le _, rfl, by simp [crRow], rfl⟩
        case round =>
          obtain ⟨c, n3, hc, rfl, rfl, rfl⟩ := hrel
          have hcl := crRow_le C g.flat lv r c
          by_cases hcc : c < C - 1
          · have hc1 : (c : Int) + 1 < C := by omega
            have hc2 : (c : Int) < C := by omega
            obtain ⟨_, _, _, b1, o1, q1, e1, p1, p2, _, _⟩ := HV.out.cellAt (r := r) (c := c) (by omega) (by rw [HLR.out]; omega)
            simp only [Value.slice.injEq, Option.some.injEq, Addr.mk.injEq, and_true, true_and] at e1
            obtain ⟨⟨rfl, rfl⟩, rfl⟩ := e1
            obtain ⟨_, _, _, b2, o2, q2, e2, p3, p4, _, _⟩ := HV.out.cellAt (r := r) (c := c + 1) (by omega) (by rw [HLR.out]; omega)
            simp only [Value.slice.injEq, Option.some.injEq, Addr.mk.injEq, and_true, true_and] at e2
            obtain ⟨⟨rfl, rfl⟩, rfl⟩ := e2
            obtain ⟨_, _, _, b3, o3, q3, e3, p5, p6, _, _⟩ := HV.out.cellAt (r := r + 1) (c := c) hr1 (by rw [HLR1.out]; omega)
            simp only [Value.slice.injEq, Option.some.injEq, Addr.mk.injEq, and_true, true_and] at e3
            obtain ⟨⟨rfl, rfl⟩, rfl⟩ := e3
            obtain ⟨_, _, _, b4, o4, q4, e4, p7, p8, _, _⟩ := HV.out.cellAt (r := r + 1) (c := c + 1) hr1 (by rw [HLR1.out]; omega)
            simp only [Value.slice.injEq, Option.some.injEq, Addr.mk.injEq, and_true, true_and] at e4
            obtain ⟨⟨rfl, rfl⟩, rfl⟩ := e4
            rw [p1] at p3
            simp only [Option.some.injEq, Value.slice.injEq, Addr.mk.injEq, and_true, true_and] at p3
            obtain ⟨⟨rfl, rfl⟩, rfl⟩ := p3
            rw [p5] at p7
            simp only [Option.some.injEq, Value.slice.injEq, Addr.mk.injEq, and_true, true_and] at p7
            obtain ⟨⟨rfl, rfl⟩, rfl⟩ := p7
            rw [HLR.out] at p1
            rw [HLR1.out] at p5
            have z1 := g.flat_at r c (by rw [EC.out]; omega)
            have z2 := g.flat_at r (c + 1) (by rw [EC.out]; omega)
            have z3 := g.flat_at (r + 1) c (by rw [EC.out]; omega)
            have z4 := g.flat_at (r + 1) (c + 1) (by rw [EC.out]; omega)
            rw [EC.out] at z1 z2 z3 z4
            have HY := Lib.hid (fun (h : CrOk C g.flat lv r c) => crRow_yes h)
            have HN := Lib.hid (fun (h : ¬ CrOk C g.flat lv r c) => crRow_no h)
            have HQ := Lib.hid (show CrOk C g.flat lv r c ↔ lv ≤ g.z r c ∧ lv ≤ g.z r (c + 1) ∧ lv ≤ g.z (r + 1) c ∧ lv ≤ g.z (r + 1) (c + 1) by unfold CrOk; rw [z1, z2, z3, z4])
            generalize g.z r c = y1 at p2 HQ
            generalize g.z r (c + 1) = y2 at p4 HQ
            generalize g.z (r + 1) c = y3 at p6 HQ
            generalize g.z (r + 1) (c + 1) = y4 at p8 HQ
            generalize crRow C g.flat lv r c = q at hcl HY HN ⊢
            clear z1 z2 z3 z4
            have k1 : (r : Int) + 1 - 1 = r := by omega
            have k2 : (c : Int) + 1 - 1 = c := by omega
            have t1 : ((r : Int) + 1).toNat = r + 1 := by omega
            have t2 : ((c : Int) + 1).toNat = c + 1 := by omega
            by_cases hz : lv ≤ y1 ∧ lv ≤ y2 ∧ lv ≤ y3 ∧ lv ≤ y4
            · have HT := Lib.hid (HY.out (HQ.out.2 hz))
              have hdm : decide (lv ≤ min (min y4 y2) (min y3 y1)) = true := by simp; omega
              clear HY HN HQ
              go_wp2
              go_quiet (fail)
              go_wp2
              go_roundw
              case rel => exact ⟨c + 1, _, by omega, by go_num, by rw [HT.out]; go_num, rfl⟩
              case measure => simp [intOf]; omega
            · have HT := Lib.hid (HN.out (fun h => hz (HQ.out.1 h)))
              have hdm : decide (lv ≤ min (min y4 y2) (min y3 y1)) = false := by simp; omega
              clear HY HN HQ
              go_wp2
              go_quiet (fail)
              go_wp2
              go_roundw
              case rel => exact ⟨c + 1, _, by omega, by go_num, by rw [HT.out], rfl⟩
              case measure => simp [intOf]; omega
          · have ec : c = C - 1 := by omega
            have hc1 : ¬ (c : Int) + 1 < C := by omega
            have HT := Lib.hid (show (m : Int) + crRow C g.flat lv r c = ((cornN C g.flat lv (r + 1) : Nat) : Int) by rw [HCS.out, ec]; omega)
            rw [HT.out]
            clear ec
            go_wp2
            go_roundw
            case rel => exact ⟨r + 1, _, by omega, by go_num, rfl, rfl⟩
            case measure => simp [intOf]; omega
      · have er : r = R := by omega
        have hge : ¬ (r : Int) + 1 < g.n := by have := ER.out; omega
        have HA2 := Lib.hid (show ((cornN C g.flat lv r : Nat) : Int) = g.cnV lv by rw [HA.out, er, EC.out, ER.out]; rfl)
        clear er
        rw [HA2.out]
        go_wp2
        go_ret
        exact ⟨rfl, below_drewN (Below.refl _ _) _⟩

end Go.Proofs.Ytmhcpjekpkdaeaa
