/- Regions in the program: LevelNumbers, LevelArea. -/
import Derived.Test.YtplfphpnpjjinabRegS
namespace Go.Proofs.Ytplfphpnpjjinab
open Go.RowKit
set_option linter.unusedVariables false

set_option maxHeartbeats 2000000 in
set_option maxRecDepth 100000 in
theorem implLevelArea_any (v : Value) (lo hi : Nat) (g : G) (lv s : Int) (w : World) (hv : RdM lo hi w v g) (hh : hi ≤ w.heap.size) :
    Calls Try.prog 40 #[v, .int .i64 lv, .int .i64 s] w (IntPost (g.arV lv s) w) := by
  by_cases h : g.LvOk lv
  case neg =>
    have HC := Lib.hid (layerOf_no v lo hi g lv w hv hh h)
    have HA := Lib.hid (G.arV_no (g := g) (lv := lv) (s := s) (fun k => h k.1))
    clear hv h
    go_enter Try.func40, Try.ntmps40
    go_wp2_with fail
    refine HC.out.mono ?_
    rintro e w1 ⟨rfl, hb1⟩
    have HB1 := Lib.hid (hb1.alloc hb1.size (.cells #[.int .i64 0, .int .i64 0, .slice none 0 0, .int .i64 0] 60))
    clear hb1
    go_wp2
    go_ret
    exact ⟨ret_int HA.out.symm, HB1.out⟩
  case pos =>
    have HC := Lib.hid (layerOf_yes v lo hi g lv w hv hh h)
    have HH := Lib.hid h
    have HY := Lib.hid (fun h1 h2 => G.arV_yes (g := g) (s := s) HH.out h1 h2)
    have HNO := Lib.hid (fun k => G.arV_no (g := g) (lv := lv) (s := s) k)
    have h71 := h.1.1.2
    have h72 := h.1.2.1.2
    have h49 := mul_le_49 h71 h72
    have hrl := rgN_le g.n (g.len 0) g.flat lv (g.n * g.len 0)
    clear hv h
    go_enter Try.func40, Try.ntmps40
    go_wp2_with fail
    refine HC.out.mono ?_
    rintro e w1 ⟨n, gg, cap, rfl, hrv, hb1⟩
    rw [← hrv.n_eq] at HY HNO h49 hrl
    have HB1 := Lib.hid (hb1.alloc hb1.size (.cells #[.int .i64 g.n, .int .i64 (g.len 0), .slice (some ⟨gg, 0, none⟩) n cap, .int .i64 lv] 60))
    have HL := Lib.hid (numI_nm g.n (g.len 0) gg cap n h71 h72 g.flat lv _ (hrv.keep ((Below.refl w1.heap.size w1).alloc (Nat.le_refl _) (.cells #[.int .i64 g.n, .int .i64 (g.len 0), .slice (some ⟨gg, 0, none⟩) n cap, .int .i64 lv] 60)) (Nat.le_refl _)))
    obtain ⟨rg, erg⟩ : ∃ rg, rgN g.n (g.len 0) g.flat lv n = rg := ⟨_, rfl⟩
    have ERG := Lib.hid erg
    rw [erg] at HY HNO hrl
    clear hrv hb1 erg
    go_wp2_with fail
    refine HL.out.mono ?_
    rintro e w3 ⟨q, rfl, ⟨a, c, rfl⟩, ho, hb3⟩
    rw [ERG.out]
    have HB3 := Lib.hid (HB1.out.trans (hb3.mono HB1.out.size))
    obtain ⟨ao, cp, b, off, e1, i2, i3, i4, i5, i6⟩ := ho.rd
    simp only [Value.slice.injEq] at e1
    obtain ⟨rfl, _, rfl⟩ := e1
    have H5 := Lib.hid i5
    have H6 := Lib.hid i6
    clear hb3 ho HL i4 i5 i6
    by_cases hs : s < 0
    · have HA := Lib.hid (HNO.out (fun k => by have := k.2.1; omega))
      go_wp2
      go_ret
      exact ⟨ret_int HA.out.symm, HB3.out⟩
    · by_cases hz : s < rg
      · have HA := Lib.hid (HY.out (by omega) hz)
        have hz' : ¬ (rg : Int) ≤ s := by omega
        go_wp2
        go_loop [11, 36] (fun o i => ∃ k : Nat, k ≤ n ∧ i = .int .i64 k ∧ o = .int .i64 (cntZ (numZ g.n (g.len 0) g.flat lv) s k)) (fun _ i => n - (intOf i).toNat)
        case atStart => exact ⟨0, Nat.zero_le _, rfl, rfl⟩
        case round =>
          obtain ⟨k, hk, rfl, rfl⟩ := hrel
          have hle := cntZ_le (numZ g.n (g.len 0) g.flat lv) s k
          by_cases hlt : k < n
          · have hlt' : (k : Int) < n := by omega
            obtain ⟨rfl, _, _⟩ := H5.out (by omega)
            have c1 := H6.out k hlt
            by_cases hzz : numZ g.n (g.len 0) g.flat lv k = s
            · have HT := Lib.hid (cntZ_yes hzz)
              rw [hzz] at c1
              have hx : (s == s) = true := by simp
              generalize cntZ (numZ g.n (g.len 0) g.flat lv) s k = q at hle HT ⊢
              go_wp2
              go_round
              case rel => exact ⟨k + 1, by omega, by go_num, by rw [HT.out]; go_num⟩
              case measure => simp [intOf]; omega
            · have HT := Lib.hid (cntZ_no hzz)
              obtain ⟨zz, ezz⟩ : ∃ zz, numZ g.n (g.len 0) g.flat lv k = zz := ⟨_, rfl⟩
              rw [ezz] at c1 hzz
              have hx : (zz == s) = false := by rw [beq_eq_false_iff_ne]; exact hzz
              generalize cntZ (numZ g.n (g.len 0) g.flat lv) s k = q at hle HT ⊢
              clear ezz
              go_wp2
              go_round
              case rel => exact ⟨k + 1, by omega, by go_num, by rw [HT.out]⟩
              case measure => simp [intOf]; omega
          · have ek : k = n := by omega
            have HA2 := Lib.hid (show ((cntZ (numZ g.n (g.len 0) g.flat lv) s k : Nat) : Int) = g.arV lv s by rw [HA.out, ek])
            rw [HA2.out]
            have hge : ¬ (k : Int) < n := by omega
            go_wp2
            go_ret
            exact ⟨rfl, HB3.out⟩
      · have HA := Lib.hid (HNO.out (fun k => by omega))
        have hz' : (rg : Int) ≤ s := by omega
        go_wp2
        go_ret
        exact ⟨ret_int HA.out.symm, HB3.out⟩

end Go.Proofs.Ytplfphpnpjjinab
