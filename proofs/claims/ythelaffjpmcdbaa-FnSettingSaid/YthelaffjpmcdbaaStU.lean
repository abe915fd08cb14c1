/- Settings of the model: SettingWeight, SettingMany. -/
import Derived.Test.YthelaffjpmcdbaaStT
namespace Go.Proofs.Ythelaffjpmcdbaa
open Go.RowKit
set_option linter.unusedVariables false

/-- the weight of a setting, or -1 -/
noncomputable def swV (n : Nat) (Z : Nat → Int) (m : Nat) (sd : Nat → Int) : Int := if svB n Z m sd = true then wtK Z sd n else -1
theorem swV_yes {n m : Nat} {Z sd : Nat → Int} (h : StOk n Z m sd) : swV n Z m sd = wtK Z sd n := by unfold swV; rw [svB_yes h]; rfl
theorem swV_no {n m : Nat} {Z sd : Nat → Int} (h : ¬ StOk n Z m sd) : swV n Z m sd = -1 := by unfold swV; rw [svB_no h]; rfl

set_option maxRecDepth 20000 in
set_option maxHeartbeats 16000000 in
theorem specSettingWeight_any (v : Value) (lo hi n : Nat) (Z : Nat → Int) (v2 : Value) (lo2 hi2 m : Nat) (sd : Nat → Int) (w : World) (hv : RdT lo hi w v n Z) (hh : hi ≤ w.heap.size) (hn : n ≤ 1048576) (hv2 : RdI lo2 hi2 w v2 m sd) (hh2 : hi2 ≤ w.heap.size) (hm : m ≤ 1048576) :
    Calls Try.prog 23 #[v, v2] w (IntPost (swV n Z m sd) w) := by
  have HSV := Lib.hid (specSettingValid_any v lo hi n Z v2 lo2 hi2 m sd w hv hh hn hv2 hh2 hm)
  obtain ⟨av, cv, rfl⟩ := hv.shape
  obtain ⟨bv, dv, rfl⟩ := hv2.shape
  by_cases hok : StOk n Z m sd
  case neg =>
    rw [svB_no hok] at HSV
    rw [swV_no hok]
    clear hok hv hv2
    go_enter Try.func23, Try.ntmps23
    go_wp2_with fail
    refine HSV.out.mono ?_
    rintro e w1 ⟨rfl, hb1⟩
    have HB1 := Lib.hid hb1
    clear hb1
    go_wp2
    go_ret
    exact ⟨rfl, HB1.out⟩
  rw [svB_yes hok] at HSV
  rw [swV_yes hok]
  have hmn := hok.2.1
  subst hmn
  have hLs := hok.1
  have hn6 := hLs.1
  obtain ⟨M, hM⟩ := hok.2.2
  have HRG := Lib.hid (alK_range m M hM)
  have HWR := Lib.hid (wtK_range (sd := sd) hLs)
  have HGZ := Lib.hid (fun i hi => (hLs.2 i hi).1.2.2.2)
  obtain ⟨ao, cap, b, off, he, h2, h3, h4, h5, h6⟩ := hv
  obtain ⟨ao2, cap2, b2, off2, he2, g2, g3, g4, g5, g6⟩ := hv2
  simp only [Value.slice.injEq] at he he2
  obtain ⟨rfl, _, rfl⟩ := he
  obtain ⟨rfl, _, rfl⟩ := he2
  have H6 := Lib.hid h6
  have G6 := Lib.hid g6
  clear h6 g6 h4 g4 hok hLs hM
  go_enter Try.func23, Try.ntmps23
  go_wp2_with fail
  refine HSV.out.mono ?_
  rintro e w1 ⟨rfl, hb1⟩
  have HB1 := Lib.hid hb1
  clear hb1
  go_wp2
  go_loopw [5, 6] (fun u c wr => ∃ i : Nat, i ≤ m ∧ c = .int .i64 i ∧ u = .int .i64 (wtK Z sd i) ∧ wr = w1) (fun _ c _ => m - (intOf c).toNat)
  case atStart => exact ⟨0, Nat.zero_le _, rfl, rfl, rfl⟩
  case round =>
    obtain ⟨i, hle, rfl, rfl, rfl⟩ := hrel
    by_cases hlt : i < m
    · obtain ⟨rfl, _, _⟩ := h5 (by omega)
      obtain ⟨rfl, _, _⟩ := g5 (by omega)
      have hlt' : (i : Int) < m := by omega
      have c3 : wr.cell? ⟨b, off + i * 4 + 3, none⟩ = _ := (HB1.out.cell (p := ⟨b, off + i * 4 + 3, none⟩) (by show b < _; omega)).trans (H6.out (i * 4 + 3) (by omega))
      have d1 : wr.cell? ⟨b2, off2 + i, none⟩ = _ := (HB1.out.cell (p := ⟨b2, off2 + i, none⟩) (by show b2 < _; omega)).trans (G6.out i hlt)
      have hr := HRG.out i hlt
      have hw := HWR.out i (by omega)
      have hg := HGZ.out i hlt
      obtain ⟨s, es⟩ : ∃ s, sd i = s := ⟨_, rfl⟩
      obtain ⟨y, ey⟩ : ∃ y, Z (i * 4 + 3) = y := ⟨_, rfl⟩
      obtain ⟨t, et⟩ : ∃ t, wtK Z sd i = t := ⟨_, rfl⟩
      have HE := Lib.hid (show wtK Z sd (i + 1) = if s = -1 then t else t + y by rw [← es, ← et, ← ey]; rfl)
      rw [es] at d1 hr
      rw [ey] at c3 hg
      rw [et] at hw
      rw [et]
      clear h5 g5 es ey et
      by_cases hs : s = -1
      · rw [if_pos hs] at HE
        subst hs
        go_wp2
        go_roundw
        case rel => exact ⟨i + 1, by omega, by go_num, by rw [HE.out], trivial⟩
        case measure => simp [intOf]; omega
      · rw [if_neg hs] at HE
        have hs0 : 0 ≤ s := by omega
        clear hs
        go_wp2
        go_roundw
        case rel => exact ⟨i + 1, by omega, by go_num, by rw [HE.out], trivial⟩
        case measure => simp [intOf]; omega
    · obtain rfl : m = i := by omega
      clear h5 g5
      go_wp2
      go_ret
      exact ⟨rfl, HB1.out⟩

set_option maxRecDepth 20000 in
set_option maxHeartbeats 16000000 in
theorem l8Many_any (n : Nat) (Z : Nat → Int) (hok : LsOk n Z) : ∀ (f i : Nat) (v : Value) (lo hi : Nat) (vm : Value) (lo2 hi2 : Nat) (M : Nat → Int) (w : World), i + f = n → RdT lo hi w v n Z → hi ≤ w.heap.size → RdI lo2 hi2 w vm 100 M → hi2 ≤ w.heap.size → MpOk M →
    Calls Try.prog 61 #[v, vm, .int .i64 i] w (IntPost (ct Z f i M) w) := by
  have hn6 := hok.1
  intro f
  induction f with
  | zero =>
    intro i v lo hi vm lo2 hi2 M w hif hv hh hvm hh2 hM
    obtain ⟨av, cv, rfl⟩ := hv.shape
    obtain ⟨am, cm, rfl⟩ := hvm.shape
    have e : i = n := by omega
    subst e
    have he : ((i : Int) == i) = true := by simp
    clear hv hvm hM
    go_enter Try.func61, Try.ntmps61
    go_wp2
    go_ret
    exact ⟨rfl, Below.refl _ _⟩
  | succ f ih =>
    intro i v lo hi vm lo2 hi2 M w hif hv hh hvm hh2 hM
    have HIH := Lib.hid ih
    have HV := Lib.hid hv
    have HVM := Lib.hid hvm
    have HMO := Lib.hid hM
    have HZ := Lib.hid (hok.2 i (by omega))
    obtain ⟨b, off, cap, rfl, h2, h3, hb1, hb2, h6⟩ := hv.open (by omega)
    obtain ⟨am, cm, rfl⟩ := hvm.shape
    have H6 := Lib.hid h6
    have he : ((i : Int) == n) = false := by simp; omega
    have hlt : (i : Int) < n := by omega
    have HC1 := Lib.hid (fun M => ct_small Z f (i + 1) M (by omega))
    have HD := Lib.hid (show ct Z (f + 1) i M = ct Z f (i + 1) M + ct1 Z i M (ct Z f (i + 1)) 4 from rfl)
    have HCL := Lib.hid (show ∀ s, ct1 Z i M (ct Z f (i + 1)) s ≤ s * 15625 from ct1_le Z i M _ 15625 (fun M => ct_small Z f (i + 1) M (by omega)))
    obtain ⟨c, ec⟩ : ∃ c, ct Z f (i + 1) M = c := ⟨_, rfl⟩
    have hc := HC1.out M
    rw [ec] at hc HD
    have HA := Lib.hid (ih (i + 1) _ lo hi _ lo2 hi2 M w (by omega) hv hh hvm hh2 hM)
    rw [ec] at HA
    have hi1 : ((i + 1 : Nat) : Int) = (i : Int) + 1 := by omega
    rw [hi1] at HA
    clear ih hv hvm hM h6 ec
    go_enter Try.func61, Try.ntmps61
    go_wp2_with fail
    refine HA.out.mono ?_
    rintro e w1 ⟨rfl, hb3⟩
    have HB1 := Lib.hid hb3
    clear hb3 HA
    go_wp2
    go_loopw [7, 8] (fun u s wr => ∃ k : Nat, k ≤ 4 ∧ s = .int .i64 k ∧ u = .int .i64 ((c : Int) + ct1 Z i M (ct Z f (i + 1)) k) ∧ Below w.heap.size w wr) (fun _ s _ => 4 - (intOf s).toNat)
    case atStart => exact ⟨0, by omega, rfl, by simp [ct1], HB1.out⟩
    case round =>
      obtain ⟨k, hk, rfl, rfl, hbel⟩ := hrel
      have HBL := Lib.hid hbel
      obtain ⟨c0, c1, c2, c3⟩ := four_of (w := wr) (fun j hj => (hbel.cell (p := ⟨b, off + j, none⟩) (by show b < _; omega)).trans (H6.out j hj)) (show i < n by omega)
      have hbz := hbel.size
      obtain ⟨t, et⟩ : ∃ t, ct1 Z i M (ct Z f (i + 1)) k = t := ⟨_, rfl⟩
      have ht := HCL.out k
      rw [et] at ht
      have HT := Lib.hid et
      rw [et]
      clear et
      by_cases hk4 : k < 4
      · have hk4' : (k : Int) < 4 := by omega
        have HSE := Lib.hid (l8Set_any _ lo2 hi2 Z M i k wr (HVM.out.same (SameIn.below hbel hh2)) (by omega) HMO.out (by omega) HZ.out ⟨by omega, by omega⟩)
        clear hbel
        by_cases hf : Fit Z M i k
        · have HS := Lib.hid (HSE.out.mono (fun _ _ h => h.1 hf))
          have HN := Lib.hid (show ct1 Z i M (ct Z f (i + 1)) (k + 1) = t + ct Z f (i + 1) (stp Z M i k) by
            show _ + (if ftB Z M i k = true then _ else _) = _; rw [HT.out, if_pos (ftB_yes hf)])
          have HMO2 := Lib.hid (stp_ok (Z := Z) (s := k) HMO.out (show i < 6 by omega))
          clear HSE hf
          go_wp2_with fail
          refine HS.out.mono ?_
          rintro e w2 ⟨vn, rfl, ⟨na, nl, nc, rfl⟩, hrd2, hb2⟩
          have HB2 := Lib.hid (HBL.out.trans (hb2.mono HBL.out.size))
          have hsz2 := HB2.out.size
          have HA := Lib.hid (HIH.out (i + 1) _ lo hi _ _ _ (stp Z M i k) w2 (by omega) (HV.out.same (SameIn.below HB2.out hh)) (by omega) hrd2 (Nat.le_refl _) HMO2.out)
          rw [hi1] at HA
          have hcs := HC1.out (stp Z M i k)
          obtain ⟨y, ey⟩ : ∃ y, ct Z f (i + 1) (stp Z M i k) = y := ⟨_, rfl⟩
          rw [ey] at HA hcs HN
          clear hb2 hrd2 ey c0 c1 c2 c3
          go_wp2_with fail
          refine HA.out.mono ?_
          rintro e w3 ⟨rfl, hb3⟩
          have HB3 := Lib.hid (HB2.out.trans (hb3.mono HB2.out.size))
          clear hb3
          go_wp2
          go_roundw
          case rel => exact ⟨k + 1, by omega, by go_num, by rw [HN.out]; go_num, HB3.out⟩
          case measure => simp [intOf]; omega
        · have HS := Lib.hid (HSE.out.mono (fun _ _ h => h.2 hf))
          have HN := Lib.hid (show ct1 Z i M (ct Z f (i + 1)) (k + 1) = t by
            show _ + (if ftB Z M i k = true then _ else _) = _; rw [HT.out, if_neg (by rw [ftB_no hf]; simp)]; rfl)
          clear HSE hf
          go_wp2_with fail
          refine HS.out.mono ?_
          rintro e w2 ⟨vn, rfl, ⟨na, nl, nc, rfl⟩, hb2⟩
          have HB2 := Lib.hid (HBL.out.trans (hb2.mono HBL.out.size))
          clear hb2 c0 c1 c2 c3
          go_wp2
          go_roundw
          case rel => exact ⟨k + 1, by omega, by go_num, by rw [HN.out], HB2.out⟩
          case measure => simp [intOf]; omega
      · obtain rfl : k = 4 := by omega
        clear hbel
        go_wp2
        go_ret
        exact ⟨by rw [HD.out, ← HT.out]; go_num, HBL.out⟩

/-- how many settings, or -1 -/
noncomputable def smV (n : Nat) (Z : Nat → Int) : Int := if lsB n Z = true then (ct Z n 0 (mpK Z n) : Int) else -1

set_option maxHeartbeats 4000000 in
theorem specSettingMany_any (v : Value) (lo hi n : Nat) (Z : Nat → Int) (w : World) (hv : RdT lo hi w v n Z) (hh : hi ≤ w.heap.size) (hn : n ≤ 1048576) :
    Calls Try.prog 27 #[v] w (IntPost (smV n Z) w) := by
  have HLV := Lib.hid (specLabelsValid_any v lo hi n Z w hv hh hn)
  obtain ⟨av, cv, rfl⟩ := hv.shape
  have HV := Lib.hid hv
  unfold smV
  by_cases hok : LsOk n Z
  case neg =>
    rw [lsB_no hok] at HLV
    rw [lsB_no hok]
    clear hok hv
    go_enter Try.func27, Try.ntmps27
    go_wp2_with fail
    refine HLV.out.mono ?_
    rintro e w1 ⟨rfl, hb1⟩
    have HB1 := Lib.hid hb1
    clear hb1
    go_wp2
    go_ret
    exact ⟨rfl, HB1.out⟩
  rw [lsB_yes hok] at HLV
  rw [lsB_yes hok]
  have HOK := Lib.hid hok
  clear hok hv
  go_enter Try.func27, Try.ntmps27
  go_wp2_with fail
  refine HLV.out.mono ?_
  rintro e w1 ⟨rfl, hb1⟩
  have HB1 := Lib.hid hb1
  have hs1 := hb1.size
  have HM := Lib.hid (l8Map_any _ lo hi n Z w1 (HV.out.same (SameIn.below hb1 hh)) (by omega) HOK.out)
  clear hb1
  go_wp2_with fail
  refine HM.out.mono ?_
  rintro e w2 ⟨vm, rfl, ⟨ma, ml, mc, rfl⟩, hrd, hb2⟩
  have HB2 := Lib.hid (HB1.out.trans (hb2.mono HB1.out.size))
  have hs2 := HB2.out.size
  have HA := Lib.hid (l8Many_any n Z HOK.out n 0 _ lo hi _ _ _ (mpK Z n) w2 (by omega) (HV.out.same (SameIn.below HB2.out hh)) (by omega) hrd (Nat.le_refl _) (mpK_ok Z n))
  clear hrd hb2
  go_wp2_with fail
  refine HA.out.mono ?_
  rintro e w3 ⟨rfl, hb3⟩
  have HB3 := Lib.hid (HB2.out.trans (hb3.mono HB2.out.size))
  clear hb3
  go_wp2
  go_ret
  exact ⟨rfl, HB3.out⟩

end Go.Proofs.Ythelaffjpmcdbaa
