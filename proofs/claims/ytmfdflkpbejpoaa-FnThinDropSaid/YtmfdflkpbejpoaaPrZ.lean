/- Climbs, in the model and in the program. -/
import Derived.Test.YtmfdflkpbejpoaaPrS
import Derived.Test.YtmfdflkpbejpoaaPrI
namespace Go.Proofs.Ytmfdflkpbejpoaa
open Go.RowKit
set_option linter.unusedVariables false

open Classical in
noncomputable def clU (n : Nat) (z : Nat → Int) : Int := if PrOk n z then upV z (n - 1) else 0
open Classical in
noncomputable def clD (n : Nat) (z : Nat → Int) : Int := if PrOk n z then dnV z (n - 1) else 0
theorem clU_yes {n : Nat} {z : Nat → Int} (h : PrOk n z) : clU n z = upV z (n - 1) := by unfold clU; rw [if_pos h]
theorem clU_no {n : Nat} {z : Nat → Int} (h : ¬ PrOk n z) : clU n z = 0 := by unfold clU; rw [if_neg h]
theorem clD_yes {n : Nat} {z : Nat → Int} (h : PrOk n z) : clD n z = dnV z (n - 1) := by unfold clD; rw [if_pos h]
theorem clD_no {n : Nat} {z : Nat → Int} (h : ¬ PrOk n z) : clD n z = 0 := by unfold clD; rw [if_neg h]
theorem upV_rng {n : Nat} {z : Nat → Int} (hz : ∀ i, i < n → 0 ≤ z i ∧ z i ≤ 99) : ∀ k, k < n → 0 ≤ upV z k ∧ upV z k ≤ 99 * k := by
  intro k
  induction k with
  | zero => intro _; simp [upV]
  | succ k ih =>
    intro hk
    have h0 := ih (by omega)
    have h1 := hz k (by omega)
    have h2 := hz (k + 1) hk
    simp only [upV]
    omega
theorem dnV_rng {n : Nat} {z : Nat → Int} (hz : ∀ i, i < n → 0 ≤ z i ∧ z i ≤ 99) : ∀ k, k < n → 0 ≤ dnV z k ∧ dnV z k ≤ 99 * k := by
  intro k
  induction k with
  | zero => intro _; simp [dnV]
  | succ k ih =>
    intro hk
    have h0 := ih (by omega)
    have h1 := hz k (by omega)
    have h2 := hz (k + 1) hk
    simp only [dnV]
    omega

set_option maxHeartbeats 4000000 in
set_option maxRecDepth 20000 in
theorem implProfileClimb_any (v : Value) (lo hi n : Nat) (Z : Nat → Int) (w : World) (hv : RdI lo hi w v n Z) (hh : hi ≤ w.heap.size) :
    Calls Try.prog 41 #[v] w (TriPost (clU n Z) (clD n Z) (prB n Z) w) := by
  by_cases hok : PrOk n Z
  · have HP := Lib.hid (prB_yes hok)
    have HU := Lib.hid (clU_yes hok)
    have HDN := Lib.hid (clD_yes hok)
    have HZ := Lib.hid hok.2
    have HUR := Lib.hid (upV_rng hok.2)
    have HDR := Lib.hid (dnV_rng hok.2)
    obtain ⟨hn1, hn20⟩ := hok.1
    have HV := Lib.hid (profileOf_yes v lo hi n Z w hv hok)
    obtain ⟨b, off, cap, rfl, hcap, _, hbh, hc⟩ := hv.open (by omega)
    have HCC := Lib.hid hc
    clear hv hok hc
    go_enter Try.func41, Try.ntmps41
    go_wp2_with fail
    refine HV.out.mono ?_
    rintro e w1 ⟨rfl, rfl⟩
    go_wp2
    go_loopw [7, 8, 9] (fun u d c wr => ∃ (k m : Nat), k + 1 ≤ n ∧ c = .int .i64 ((k : Int) + 1) ∧ u = .int .i64 (upV Z k) ∧ d = .int .i64 (dnV Z k) ∧ wr = w.drewN m) (fun _ _ c _ => n - (intOf c).toNat)
    case atStart => exact ⟨0, 0, hn1, by simp, rfl, rfl, rfl⟩
    case round =>
      obtain ⟨k, m, hk, rfl, rfl, rfl, rfl⟩ := hrel
      obtain ⟨hu1, hu2⟩ := HUR.out k (by omega)
      obtain ⟨hd1, hd2⟩ := HDR.out k (by omega)
      have HU1 := Lib.hid (show upV Z (k + 1) = upV Z k + max 0 (Z (k + 1) - Z k) from rfl)
      have HD1 := Lib.hid (show dnV Z (k + 1) = dnV Z k + max 0 (Z k - Z (k + 1)) from rfl)
      by_cases hlt : k + 1 < n
      · have hlt' : (k : Int) + 1 < n := by omega
        have hlt2 : (k : Int) < n := by omega
        have c1 := HCC.out k (by omega)
        have c2 := HCC.out (k + 1) hlt
        obtain ⟨z1, z2⟩ := HZ.out k (by omega)
        obtain ⟨z3, z4⟩ := HZ.out (k + 1) hlt
        obtain ⟨x, ex⟩ : ∃ x, Z k = x := ⟨_, rfl⟩
        obtain ⟨y, ey⟩ : ∃ x, Z (k + 1) = x := ⟨_, rfl⟩
        obtain ⟨U, eU⟩ : ∃ x, upV Z k = x := ⟨_, rfl⟩
        obtain ⟨D, eD⟩ : ∃ x, dnV Z k = x := ⟨_, rfl⟩
        rw [ex] at c1 z1 z2
        rw [ey] at c2 z3 z4
        rw [ex, ey, eU] at HU1
        rw [ex, ey, eD] at HD1
        rw [eU] at hu1 hu2 ⊢
        rw [eD] at hd1 hd2 ⊢
        clear ex ey eU eD
        obtain ⟨A, eA⟩ : ∃ A, max 0 (y - x) = A := ⟨_, rfl⟩
        obtain ⟨B, eB⟩ : ∃ A, max 0 (x - y) = A := ⟨_, rfl⟩
        have hA : 0 ≤ A ∧ A ≤ 99 := by omega
        have hB : 0 ≤ B ∧ B ≤ 99 := by omega
        rw [eA] at HU1
        rw [eB] at HD1
        obtain ⟨hA1, hA2⟩ := hA
        obtain ⟨hB1, hB2⟩ := hB
        go_wp2
        go_quiet (fail)
        go_wp2
        go_quiet (fail)
        go_wp2
        go_roundw
        case rel => exact ⟨k + 1, _, by omega, by go_num, by rw [HU1.out], by rw [HD1.out], rfl⟩
        case measure => simp [intOf]; omega
      · have HE := Lib.hid (show n - 1 = k by omega)
        rw [HE.out] at HU HDN
        have hlt' : ¬ (k : Int) + 1 < n := by omega
        go_wp2
        go_ret3
        exact ⟨by rw [HU.out, HDN.out, HP.out]; rfl, below_drewN (Below.refl _ _) _⟩
  · have HP := Lib.hid (prB_no hok)
    have HU := Lib.hid (clU_no hok)
    have HDN := Lib.hid (clD_no hok)
    have HV := Lib.hid (profileOf_no v lo hi n Z w hv hok)
    obtain ⟨va, vc, rfl⟩ := hv.shape
    clear hv hok
    go_enter Try.func41, Try.ntmps41
    go_wp2_with fail
    refine HV.out.mono ?_
    rintro e w1 ⟨rfl, rfl⟩
    go_wp2
    go_ret3
    exact ⟨by rw [HU.out, HDN.out, HP.out]; rfl, Below.refl _ _⟩

end Go.Proofs.Ytmfdflkpbejpoaa
