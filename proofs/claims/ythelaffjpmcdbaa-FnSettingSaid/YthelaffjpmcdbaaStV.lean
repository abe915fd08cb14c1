/- The greatest sums of the model: l8Best, SettingMost; the program's SettingMost. -/
import Derived.Test.YthelaffjpmcdbaaStE
import Derived.Test.YthelaffjpmcdbaaStB
import Derived.Lib.MinMax
namespace Go.Proofs.Ythelaffjpmcdbaa
open Go.RowKit
set_option linter.unusedVariables false

set_option maxRecDepth 20000 in
set_option maxHeartbeats 16000000 in
theorem l8Best_any (n : Nat) (Z : Nat → Int) (wb : Bool) (hok : LsOk n Z) : ∀ (f i : Nat) (v : Value) (lo hi : Nat) (vm : Value) (lo2 hi2 : Nat) (M : Nat → Int) (w : World), i + f = n → RdT lo hi w v n Z → hi ≤ w.heap.size → RdI lo2 hi2 w vm 100 M → hi2 ≤ w.heap.size → MpOk M →
    Calls Try.prog 70 #[v, vm, .int .i64 i, .bool wb] w (IntPost (bst Z wb f i M) w) := by
  have hn6 := hok.1
  intro f
  induction f with
  | zero =>
    intro i v lo hi vm lo2 hi2 M w hif hv hh hvm hh2 hM
    obtain ⟨av, cv, rfl⟩ := hv.shape
    obtain ⟨am, cm, rfl⟩ := hvm.shape
    have e : i = n := by omega
    subst e
    have he : ((i : Int) == i) = true := by simp
    clear hv hvm hM
    go_enter Try.func70, Try.ntmps70
    go_wp2
    go_ret
    exact ⟨rfl, Below.refl _ _⟩
  | succ f ih =>
    intro i v lo hi vm lo2 hi2 M w hif hv hh hvm hh2 hM
    have HIH := Lib.hid ih
    have HV := Lib.hid hv
    have HVM := Lib.hid hvm
    have HMO := Lib.hid hM
    have HZ := Lib.hid (hok.2 i (by omega))
    have hg := (hok.2 i (by omega)).1.2.2.2
    obtain ⟨b, off, cap, rfl, h2, h3, hb1, hb2, h6⟩ := hv.open (by omega)
    obtain ⟨am, cm, rfl⟩ := hvm.shape
    have H6 := Lib.hid h6
    have he : ((i : Int) == n) = false := by simp; omega
    have hlt : (i : Int) < n := by omega
    have HC1 := Lib.hid (fun M => bst_range (b := wb) hok f (i + 1) M (by omega))
    obtain ⟨c, ec⟩ : ∃ c, bst Z wb f (i + 1) M = c := ⟨_, rfl⟩
    obtain ⟨o, eo⟩ : ∃ o, ow Z wb i = o := ⟨_, rfl⟩
    have HEO := Lib.hid eo
    have ho : 0 ≤ o ∧ o ≤ 9 := by rw [← eo]; unfold ow; split <;> omega
    have hc := HC1.out M
    have HCL := Lib.hid (fun s => bs1_range (Z := Z) (k := i) (M := M) (r := bst Z wb f (i + 1)) ho hc HC1.out s)
    have HD := Lib.hid (show bst Z wb (f + 1) i M = bs1 Z i M o c (bst Z wb f (i + 1)) 4 from by rw [← eo, ← ec]; rfl)
    rw [ec] at hc HCL
    have HA := Lib.hid (ih (i + 1) _ lo hi _ lo2 hi2 M w (by omega) hv hh hvm hh2 hM)
    rw [ec] at HA
    have hi1 : ((i + 1 : Nat) : Int) = (i : Int) + 1 := by omega
    rw [hi1] at HA
    clear ih hv hvm hM h6 ec eo
    go_enter Try.func70, Try.ntmps70
    go_wp2_with fail
    refine HA.out.mono ?_
    rintro e w1 ⟨rfl, hb3⟩
    have HB1 := Lib.hid hb3
    clear hb3 HA
    go_wp2
    go_loopw [9, 10] (fun u s wr => ∃ k : Nat, k ≤ 4 ∧ s = .int .i64 k ∧ u = .int .i64 (bs1 Z i M o c (bst Z wb f (i + 1)) k) ∧ Below w.heap.size w wr) (fun _ s _ => 4 - (intOf s).toNat)
    case atStart => exact ⟨0, by omega, rfl, rfl, HB1.out⟩
    case round =>
      obtain ⟨k, hk, rfl, rfl, hbel⟩ := hrel
      have HBL := Lib.hid hbel
      obtain ⟨c0, c1, c2, c3⟩ := four_of (w := wr) (fun j hj => (hbel.cell (p := ⟨b, off + j, none⟩) (by show b < _; omega)).trans (H6.out j hj)) (show i < n by omega)
      have hbz := hbel.size
      obtain ⟨t, et⟩ : ∃ t, bs1 Z i M o c (bst Z wb f (i + 1)) k = t := ⟨_, rfl⟩
      have ht := HCL.out k
      rw [et] at ht
      have HT := Lib.hid et
      rw [et]
      clear et
      by_cases hk4 : k < 4
      · have hk4' : (k : Int) < 4 := by omega
        have HSE := Lib.hid (l8Set_any _ lo2 hi2 Z M i k wr (HVM.out.same (SameIn.below hbel hh2)) (by omega) HMO.out (by omega) HZ.out ⟨by omega, by omega⟩)
        clear hbel
        by_cases hf : Fit Z M i k
        · have HS := Lib.hid (HSE.out.mono (fun _ _ h => h.1 hf))
          have HN := Lib.hid (bs1_yes (o := o) (c := c) (r := bst Z wb f (i + 1)) hf)
          rw [HT.out] at HN
          have HMO2 := Lib.hid (stp_ok (Z := Z) (s := k) HMO.out (show i < 6 by omega))
          clear HSE hf
          go_wp2_with fail
          refine HS.out.mono ?_
          rintro e w2 ⟨vn, rfl, ⟨na, nl, nc, rfl⟩, hrd2, hb2⟩
          have HB2 := Lib.hid (HBL.out.trans (hb2.mono HBL.out.size))
          have hsz2 := HB2.out.size
          have d3 : w2.cell? ⟨b, off + i * 4 + 3, none⟩ = some (.int .i64 (Z (i * 4 + 3))) := (hb2.cell (p := ⟨b, off + i * 4 + 3, none⟩) (by show b < _; omega)).trans c3
          have HA := Lib.hid (HIH.out (i + 1) _ lo hi _ _ _ (stp Z M i k) w2 (by omega) (HV.out.same (SameIn.below HB2.out hh)) (by omega) hrd2 (Nat.le_refl _) HMO2.out)
          rw [hi1] at HA
          have hcs := HC1.out (stp Z M i k)
          obtain ⟨y, ey⟩ : ∃ y, bst Z wb f (i + 1) (stp Z M i k) = y := ⟨_, rfl⟩
          rw [ey] at HA hcs HN
          clear hb2 hrd2 ey c0 c1 c2 c3
          cases wb with
          | true =>
            have HO := Lib.hid (show Z (i * 4 + 3) = o from by rw [← HEO.out]; rfl)
            rw [HO.out] at d3
            go_wp2_with fail
            refine HA.out.mono ?_
            rintro e w3 ⟨rfl, hb3⟩
            have HB3 := Lib.hid (HB2.out.trans (hb3.mono HB2.out.size))
            clear hb3
            go_wp2
            go_roundw
            case rel => exact ⟨k + 1, by omega, by go_num, by rw [HN.out], HB3.out⟩
            case measure => simp [intOf]; omega
          | false =>
            have HO := Lib.hid (show (1 : Int) = o from by rw [← HEO.out]; rfl)
            go_wp2_with fail
            refine HA.out.mono ?_
            rintro e w3 ⟨rfl, hb3⟩
            have HB3 := Lib.hid (HB2.out.trans (hb3.mono HB2.out.size))
            clear hb3
            go_wp2
            go_roundw
            case rel => exact ⟨k + 1, by omega, by go_num, by rw [HN.out, ← HO.out], HB3.out⟩
            case measure => simp [intOf]; omega
        · have HS := Lib.hid (HSE.out.mono (fun _ _ h => h.2 hf))
          have HN := Lib.hid (bs1_no (o := o) (c := c) (r := bst Z wb f (i + 1)) hf)
          rw [HT.out] at HN
          clear HSE hf
          go_wp2_with fail
          refine HS.out.mono ?_
          rintro e w2 ⟨vn, rfl, ⟨na, nl, nc, rfl⟩, hb2⟩
          have HB2 := Lib.hid (HBL.out.trans (hb2.mono HBL.out.size))
          clear hb2 c0 c1 c2 c3
          go_wp2
          go_roundw
          case rel => exact ⟨k + 1, by omega, by go_num, by rw [HN.out], HB2.out⟩
          case measure => simp [intOf]; omega
      · obtain rfl : k = 4 := by omega
        clear hbel
        go_wp2
        go_ret
        exact ⟨by rw [HD.out, HT.out]; rfl, HBL.out⟩

/-- the most labels, or -1 -/
noncomputable def soV (n : Nat) (Z : Nat → Int) : Int := if lsB n Z = true then bst Z false n 0 (mpK Z n) else -1

set_option maxHeartbeats 4000000 in
theorem specSettingMost_any (v : Value) (lo hi n : Nat) (Z : Nat → Int) (w : World) (hv : RdT lo hi w v n Z) (hh : hi ≤ w.heap.size) (hn : n ≤ 1048576) :
    Calls Try.prog 44 #[v] w (IntPost (soV n Z) w) := by
  have HLV := Lib.hid (specLabelsValid_any v lo hi n Z w hv hh hn)
  obtain ⟨av, cv, rfl⟩ := hv.shape
  have HV := Lib.hid hv
  unfold soV
  by_cases hok : LsOk n Z
  case neg =>
    rw [lsB_no hok] at HLV
    rw [lsB_no hok]
    clear hok hv
    go_enter Try.func44, Try.ntmps44
    go_wp2_with fail
    refine HLV.out.mono ?_
    rintro e w1 ⟨rfl, hb1⟩
    have HB1 := Lib.hid hb1
    clear hb1
    go_wp2
    go_ret
    exact ⟨rfl, HB1.out⟩
  rw [lsB_yes hok] at HLV
  rw [lsB_yes hok]
  have HOK := Lib.hid hok
  clear hok hv
  go_enter Try.func44, Try.ntmps44
  go_wp2_with fail
  refine HLV.out.mono ?_
  rintro e w1 ⟨rfl, hb1⟩
  have HB1 := Lib.hid hb1
  have hs1 := hb1.size
  have HM := Lib.hid (l8Map_any _ lo hi n Z w1 (HV.out.same (SameIn.below hb1 hh)) (by omega) HOK.out)
  clear hb1
  go_wp2_with fail
  refine HM.out.mono ?_
  rintro e w2 ⟨vm, rfl, ⟨ma, ml, mc, rfl⟩, hrd, hb2⟩
  have HB2 := Lib.hid (HB1.out.trans (hb2.mono HB1.out.size))
  have hs2 := HB2.out.size
  have HA := Lib.hid (l8Best_any n Z false HOK.out n 0 _ lo hi _ _ _ (mpK Z n) w2 (by omega) (HV.out.same (SameIn.below HB2.out hh)) (by omega) hrd (Nat.le_refl _) (mpK_ok Z n))
  clear hrd hb2
  go_wp2_with fail
  refine HA.out.mono ?_
  rintro e w3 ⟨rfl, hb3⟩
  have HB3 := Lib.hid (HB2.out.trans (hb3.mono HB2.out.size))
  clear hb3
  go_wp2
  go_ret
  exact ⟨rfl, HB3.out⟩

end Go.Proofs.Ythelaffjpmcdbaa
