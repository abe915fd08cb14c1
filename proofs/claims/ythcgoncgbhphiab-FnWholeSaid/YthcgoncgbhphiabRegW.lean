/- LevelWhole, in the model and in the program. -/
import Derived.Test.YthcgoncgbhphiabRegS
namespace Go.Proofs.Ythcgoncgbhphiab
open Go.RowKit
set_option linter.unusedVariables false

def WhIs (g : G) (x : Int) : Prop := (g.Valid ∧ ∃ n : Nat, x = n ∧ n ≤ 99 ∧ (∀ k : Nat, k ≤ n → g.rgV k = 1) ∧ (n = 99 ∨ g.rgV ((n : Int) + 1) ≠ 1)) ∨ (¬ g.Valid ∧ x = -1)
theorem rgV_zero {g : G} (h : g.Valid) : g.rgV 0 = 1 := by
  rw [G.rgV_yes ⟨h, by omega, by omega⟩]
  have hp : 0 < g.n * g.len 0 := Nat.mul_pos h.1.1 h.2.1.1
  obtain ⟨m, hm⟩ : ∃ m, g.n * g.len 0 = m + 1 := ⟨g.n * g.len 0 - 1, by omega⟩
  have := rgN_whole (R := g.n) (C := g.len 0) (Z := g.flat) (lv := 0) h.2.1.1 (fun x hx => (flat_okW h hx).1) m (by omega)
  rw [hm, this]; rfl
theorem whIs_ex (g : G) : ∃ x, WhIs g x := by
  by_cases h : g.Valid
  · obtain ⟨x, h1, h2, h3⟩ := up_to (fun k => g.rgV k = 1) (rgV_zero h) 99
    exact ⟨x, Or.inl ⟨h, x, rfl, h1, h2, h3.imp id (fun h => by simpa using h)⟩⟩
  · exact ⟨-1, Or.inr ⟨h, rfl⟩⟩

set_option maxHeartbeats 2000000 in
set_option maxRecDepth 100000 in
theorem specLevelWhole_any (v : Value) (lo hi : Nat) (g : G) (w : World) (hv : RdM lo hi w v g) (hh : hi ≤ w.heap.size) (x : Int) (hx : WhIs g x) :
    Calls Try.prog 24 #[v] w (IntPost x w) := by
  have HC := Lib.hid (specValid_any v lo hi g w hv)
  rcases hx with ⟨h, n, rfl, hn, h1, h2⟩ | ⟨h, rfl⟩
  · have HB := Lib.hid (G.vB_yes h)
    have HV := Lib.hid hv
    have HR := Lib.hid h1
    have HE := Lib.hid h2
    clear hv h h1 h2
    go_enter Try.func24, Try.ntmps24
    go_wp2_with fail
    refine HC.out.mono ?_
    rintro e w1 ⟨rfl, n1, rfl⟩
    rw [HB.out]
    go_wp2
    go_loopw [3] (fun l wr => ∃ k : Nat, k ≤ n ∧ l = .int .i64 k ∧ Below w.heap.size w wr) (fun l _ => 99 - (intOf l).toNat)
    case atStart => exact ⟨0, Nat.zero_le _, rfl, below_drewN (Below.refl _ _) _⟩
    case round =>
      obtain ⟨k, hk, rfl, hb⟩ := hrel
      have HBB := Lib.hid hb
      have HL := Lib.hid (specLevelRegions_any v lo hi g ((k : Int) + 1) wr (HV.out.same (SameIn.below hb hh)) (Nat.le_trans hh hb.size))
      clear hb
      by_cases hlt : k < n
      · have h99 : (k : Int) < 99 := by omega
        have HQ := Lib.hid (show g.rgV ((k : Int) + 1) = 1 from HR.out (k + 1) hlt)
        rw [HQ.out] at HL
        go_wp2_with fail
        refine HL.out.mono ?_
        rintro e w2 ⟨rfl, hb2⟩
        have HB2 := Lib.hid (HBB.out.trans (hb2.mono HBB.out.size))
        clear hb2
        go_wp2
        go_roundw
        case rel => exact ⟨k + 1, by omega, by go_num, HB2.out⟩
        case measure => simp [intOf]; omega
      · obtain rfl : k = n := by omega
        rcases HE.out with e99 | hne
        · have h99 : ¬ (k : Int) < 99 := by omega
          go_wp2
          go_ret
          exact ⟨rfl, HBB.out⟩
        · by_cases h99 : (k : Int) < 99
          · obtain ⟨q, eq⟩ : ∃ q, g.rgV ((k : Int) + 1) = q := ⟨_, rfl⟩
            rw [eq] at HL hne
            have hq : (q == 1) = false := by rw [beq_eq_false_iff_ne]; exact hne
            clear eq hne
            go_wp2_with fail
            refine HL.out.mono ?_
            rintro e w2 ⟨rfl, hb2⟩
            have HB2 := Lib.hid (HBB.out.trans (hb2.mono HBB.out.size))
            clear hb2
            go_wp2
            go_ret
            exact ⟨rfl, HB2.out⟩
          · clear hne
            go_wp2
            go_ret
            exact ⟨rfl, HBB.out⟩
  · have HB := Lib.hid (G.vB_no h)
    clear hv h
    go_enter Try.func24, Try.ntmps24
    go_wp2_with fail
    refine HC.out.mono ?_
    rintro e w1 ⟨rfl, n1, rfl⟩
    rw [HB.out]
    go_wp2
    go_ret
    exact ⟨rfl, below_drewN (Below.refl _ _) _⟩

set_option maxHeartbeats 2000000 in
set_option maxRecDepth 100000 in
theorem implLevelWhole_any (v : Value) (lo hi : Nat) (g : G) (w : World) (hv : RdM lo hi w v g) (hh : hi ≤ w.heap.size) (x : Int) (hx : WhIs g x) :
    Calls Try.prog 25 #[v] w (IntPost x w) := by
  rcases hx with ⟨h, n, rfl, hn, h1, h2⟩ | ⟨h, rfl⟩
  · have HV := Lib.hid hv
    have HH := Lib.hid h
    have HR := Lib.hid h1
    have HE := Lib.hid h2
    have h71 := h.1.2
    have h72 := h.2.1.2
    clear hv h h1 h2
    go_enter Try.func25, Try.ntmps25
    go_wp2
    go_loopw [3, 7] (fun wh l wr => ∃ k : Nat, (k ≤ n + 1 ∧ k ≤ 100) ∧ l = .int .i64 k ∧ wh = .int .i64 ((k : Int) - 1) ∧ Below w.heap.size w wr) (fun _ l _ => 100 - (intOf l).toNat)
    case atStart => exact ⟨0, by omega, rfl, rfl, Below.refl _ _⟩
    case round =>
      obtain ⟨k, ⟨hk, hk2⟩, rfl, rfl, hb⟩ := hrel
      have HBB := Lib.hid hb
      by_cases h100 : k < 100
      · have h100' : (k : Int) < 100 := by omega
        have HL := Lib.hid (show g.LvOk (k : Int) from ⟨HH.out, by omega, by omega⟩)
        have HC := Lib.hid (layerOf_yes v lo hi g (k : Int) wr (HV.out.same (SameIn.below hb hh)) (Nat.le_trans hh hb.size) HL.out)
        have HQ := Lib.hid (G.rgV_yes HL.out)
        clear hb
        go_wp2_with fail
        refine HC.out.mono ?_
        rintro e w1 ⟨m, gg, cap, rfl, hrv, hb1⟩
        have HB1 := Lib.hid (HBB.out.trans ((hb1.alloc hb1.size (.cells #[.int .i64 g.n, .int .i64 (g.len 0), .slice (some ⟨gg, 0, none⟩) m cap, .int .i64 k] 52)).mono HBB.out.size))
        have HLL := Lib.hid (regionCount_any g.n (g.len 0) gg cap m h71 h72 g.flat k _ (hrv.keep ((Below.refl w1.heap.size w1).alloc (Nat.le_refl _) (.cells #[.int .i64 g.n, .int .i64 (g.len 0), .slice (some ⟨gg, 0, none⟩) m cap, .int .i64 k] 52)) (Nat.le_refl _)))
        rw [← HQ.out] at HLL
        clear hrv hb1
        by_cases hkn : k ≤ n
        · have HQ1 := Lib.hid (HR.out k hkn)
          rw [HQ1.out] at HLL
          go_wp2_with fail
          refine HLL.out.mono ?_
          rintro e w3 ⟨rfl, hb3⟩
          have HB3 := Lib.hid (HB1.out.trans (hb3.mono HB1.out.size))
          clear hb3
          go_wp2
          go_roundw
          case rel => exact ⟨k + 1, by omega, by go_num, by go_num, HB3.out⟩
          case measure => simp [intOf]; omega
        · have ek : k = n + 1 := by omega
          have hne : g.rgV (k : Int) ≠ 1 := by
            rcases HE.out with e | e
            · omega
            · rw [ek]; simpa using e
          obtain ⟨q, eq⟩ : ∃ q, g.rgV (k : Int) = q := ⟨_, rfl⟩
          rw [eq] at HLL hne
          have hq : (q != 1) = true := by simp [hne]
          have hfin := Lib.hid (show (k : Int) - 1 = n by omega)
          clear eq hne ek
          go_wp2_with fail
          refine HLL.out.mono ?_
          rintro e w3 ⟨rfl, hb3⟩
          have HB3 := Lib.hid (HB1.out.trans (hb3.mono HB1.out.size))
          clear hb3
          go_wp2
          go_ret
          exact ⟨ret_int hfin.out, HB3.out⟩
      · have hge : ¬ (k : Int) < 100 := by omega
        have hfin := Lib.hid (show (k : Int) - 1 = n by omega)
        clear hb
        go_wp2
        go_ret
        exact ⟨ret_int hfin.out, HBB.out⟩
  · have HC := Lib.hid (layerOf_no v lo hi g 0 w hv hh (fun k => h k.1))
    clear hv h
    go_enter Try.func25, Try.ntmps25
    go_wp2
    go_loopw [3, 7] (fun wh l wr => l = .int .i64 0 ∧ wh = .int .i64 (-1) ∧ wr = w) (fun _ l _ => 100 - (intOf l).toNat)
    case atStart => exact ⟨rfl, rfl, rfl⟩
    case round =>
      obtain ⟨rfl, rfl, rfl⟩ := hrel
      go_wp2_with fail
      refine HC.out.mono ?_
      rintro e w1 ⟨rfl, hb1⟩
      have HB1 := Lib.hid (hb1.alloc hb1.size (.cells #[.int .i64 0, .int .i64 0, .slice none 0 0, .int .i64 0] 52))
      clear hb1
      go_wp2
      go_ret
      exact ⟨rfl, HB1.out⟩

end Go.Proofs.Ythcgoncgbhphiab
