/- Settings of the program: settingWith, weight, count; SettingValid, SettingWeight. -/
import Derived.Test.YthelaffjpmcdbaaStJ
import Derived.Test.YthelaffjpmcdbaaStN
import Derived.Test.YthelaffjpmcdbaaStU
namespace Go.Proofs.Ythelaffjpmcdbaa
open Go.RowKit
set_option linter.unusedVariables false

def prS (sd : Nat → Int) (k : Nat) (i : Nat) : Int := if i < k then sd i else -1
theorem St.lists {B S n hi : Nat} {Z : Nat → Int} {lv sv : Value} {sd M : Nat → Int} {w : World} (h : St B S n hi Z lv sv sd M w) : ∃ (a : Option Addr) (c : Nat), lv = .slice a n c := h.list.shape

/-- a setting made, or none -/
def SwPost (n hi : Nat) (Z : Nat → Int) (lv : Value) (m : Nat) (sd : Nat → Int) (w : World) (e : Ending) (w' : World) : Prop :=
  (StOk n Z m sd → ∃ B S sv M, e = .returned (.tuple #[.pointer (some ⟨B, 0, none⟩), .bool true]) ∧ alK Z n sd n = some M ∧ St B S n hi Z lv sv sd M w' ∧ w.heap.size ≤ B ∧ w.heap.size ≤ S ∧ Below w.heap.size w w') ∧
  (¬ StOk n Z m sd → e = .returned (.tuple #[.pointer none, .bool false]) ∧ Below w.heap.size w w')

set_option maxRecDepth 20000 in
set_option maxHeartbeats 16000000 in
theorem settingWith_any (v : Value) (hi n : Nat) (Z : Nat → Int) (v2 : Value) (lo2 hi2 m : Nat) (sd : Nat → Int) (w : World) (hv : RdT 0 hi w v n Z) (hh : hi ≤ w.heap.size) (hn : n ≤ 1048576) (hv2 : RdI lo2 hi2 w v2 m sd) (hh2 : hi2 ≤ w.heap.size) (hm : m ≤ 1048576) :
    Calls Try.prog 51 #[v, v2] w (SwPost n hi Z v m sd w) := by
  by_cases hok : LsOk n Z
  case neg =>
    have HN := Lib.hid (newSetting_no v 0 hi n Z w hv hh (by omega) hok)
    have HF := Lib.hid (show ¬ StOk n Z m sd from fun h => hok h.1)
    obtain ⟨av, cv, rfl⟩ := hv.shape
    obtain ⟨bv, dv, rfl⟩ := hv2.shape
    clear hok hv hv2
    go_enter Try.func51, Try.ntmps51
    go_wp2_with fail
    refine HN.out.mono ?_
    rintro e w1 ⟨rfl, hb1⟩
    have HB1 := Lib.hid hb1
    clear hb1
    go_wp2
    go_ret2
    exact ⟨fun h => absurd h HF.out, fun _ => ⟨rfl, HB1.out⟩⟩
  have HN := Lib.hid (newSetting_yes v hi n Z w hv hh hok)
  have HZ := Lib.hid hok.2
  have HOK := Lib.hid hok
  have hn6 := hok.1
  obtain ⟨av, cv, rfl⟩ := hv.shape
  obtain ⟨bv, dv, rfl⟩ := hv2.shape
  have HV2 := Lib.hid hv2
  by_cases hmn : m = n
  case neg =>
    have HF := Lib.hid (show ¬ StOk n Z m sd from fun h => hmn h.2.1)
    have hne : ((m : Int) != n) = true := by rw [bne_iff_ne]; omega
    clear hok hv hv2 hmn
    go_enter Try.func51, Try.ntmps51
    go_wp2_with fail
    refine HN.out.mono ?_
    rintro e w1 ⟨B, S, sv, rfl, _, _, _, hb1, _⟩
    have HB1 := Lib.hid hb1
    clear hb1
    go_wp2
    go_ret2
    exact ⟨fun h => absurd h HF.out, fun _ => ⟨rfl, HB1.out⟩⟩
  subst hmn
  have hne : ((m : Int) != m) = false := by simp
  have hsr := hv2.range
  have HSR := Lib.hid hsr
  clear hok hv hv2 hsr
  go_enter Try.func51, Try.ntmps51
  go_wp2_with fail
  refine HN.out.mono ?_
  rintro e w1 ⟨B, S, sv, rfl, hst, hB, hS, hb1, _⟩
  have HB1 := Lib.hid hb1
  have HST1 := Lib.hid hst
  clear hb1 hst
  go_wp2
  go_loopw [26] (fun c wr => ∃ (k : Nat) (M : Nat → Int), k ≤ m ∧ c = .int .i64 k ∧ alK Z m sd k = some M ∧ St B S m hi Z (.slice av m cv) sv (prS sd k) M wr ∧ Below w.heap.size w wr) (fun c _ => m - (intOf c).toNat)
  case atStart => exact ⟨0, _, Nat.zero_le _, rfl, rfl, HST1.out, HB1.out⟩
  case round =>
    obtain ⟨k, M, hk, rfl, hal, hst, hbel⟩ := hrel
    have HAL := Lib.hid hal
    have HST := Lib.hid hst
    have HBL := Lib.hid hbel
    clear hal hst
    by_cases hlt : k < m
    · have hlt' : (k : Int) < m := by omega
      obtain ⟨sb, soff, scap, he, _, hsl, hsh, hsc⟩ := HV2.out.open (by omega)
      simp only [Value.slice.injEq] at he
      obtain ⟨rfl, _, rfl⟩ := he
      have d1 : wr.cell? ⟨sb, soff + k, none⟩ = _ := (hbel.cell (p := ⟨sb, soff + k, none⟩) (by show sb < _; omega)).trans (hsc k hlt)
      have hr := HSR.out k hlt
      obtain ⟨s, es⟩ : ∃ s, sd k = s := ⟨_, rfl⟩
      have HES := Lib.hid es
      have HNX := Lib.hid (show (∀ i, i < m → upS (prS sd k) k s i = prS sd (k + 1) i) ∧ (s = -1 → ∀ i, i < m → prS sd k i = prS sd (k + 1) i) from ⟨fun i hi => by
        unfold upS prS
        by_cases e : i = k
        · subst e; rw [if_pos rfl, if_pos (by omega), es]
        · rw [if_neg e]
          by_cases e2 : i < k
          · rw [if_pos e2, if_pos (by omega)]
          · rw [if_neg e2, if_neg (by omega)], fun hs i hi => by
        unfold prS
        by_cases e : i = k
        · subst e; rw [if_neg (by omega), if_pos (by omega), es, hs]
        · by_cases e2 : i < k
          · rw [if_pos e2, if_pos (by omega)]
          · rw [if_neg e2, if_neg (by omega)]⟩)
      rw [es] at d1 hr
      clear hsc es hbel
      by_cases hs : s = -1
      · have HA := Lib.hid (alK_out HAL.out (HES.out.trans hs))
        have HS2 := Lib.hid (HST.out.congr (fun _ _ => rfl) (HNX.out.2 hs))
        subst hs
        go_wp2
        go_roundw
        case rel => exact ⟨k + 1, M, by omega, by go_num, HA.out, HS2.out, HBL.out⟩
        case measure => simp [intOf]; omega
      · have hne1 : (s != -1) = true := by simpa using hs
        have HNS := Lib.hid (show ¬ sd k = -1 by rw [HES.out]; exact hs)
        have HSE := Lib.hid (set_any B S m hi Z _ sv (prS sd k) M wr HST.out (alK_ok k M (by omega) HAL.out) k s hlt (by omega) (HZ.out k hlt) hr)
        by_cases hf : Fit Z M k s
        · have HA := Lib.hid (alK_yes HAL.out HNS.out (by rw [HES.out]; exact hf))
          rw [HES.out] at HA
          have HS := Lib.hid (HSE.out.mono (fun _ _ h => h.1 hf))
          clear HSE hf hs
          go_wp2_with fail
          refine HS.out.mono ?_
          rintro e w2 ⟨rfl, hs2, ho2⟩
          have HS2 := Lib.hid (hs2.congr (fun _ _ => rfl) HNX.out.1)
          have HB2 := Lib.hid (HBL.out.trans (ho2.below hB hS HBL.out.size))
          clear hs2 ho2
          go_wp2
          go_roundw
          case rel => exact ⟨k + 1, _, by omega, by go_num, HA.out, HS2.out, HB2.out⟩
          case measure => simp [intOf]; omega
        · have HA := Lib.hid (alK_none_le (alK_no HAL.out HNS.out (by rw [HES.out]; exact hf)) m (by omega))
          have HS := Lib.hid (HSE.out.mono (fun _ _ h => h.2 hf))
          have HF := Lib.hid (show ¬ StOk m Z m sd from fun h => by obtain ⟨M', hM'⟩ := h.2.2; rw [HA.out] at hM'; cases hM')
          clear HSE hf hs
          go_wp2_with fail
          refine HS.out.mono ?_
          rintro e w2 ⟨rfl, _, ho2⟩
          have HB2 := Lib.hid (HBL.out.trans (ho2.below hB hS HBL.out.size))
          clear ho2
          go_wp2
          go_ret2
          exact ⟨fun h => absurd h HF.out, fun _ => ⟨rfl, HB2.out⟩⟩
    · obtain rfl : m = k := by omega
      have HY := Lib.hid (show StOk m Z m sd from ⟨HOK.out, rfl, M, HAL.out⟩)
      have HS2 := Lib.hid (HST.out.congr (sd' := sd) (fun _ _ => rfl) (fun i hi => if_pos hi))
      clear hbel
      go_wp2
      go_ret2
      exact ⟨fun _ => ⟨B, S, sv, M, rfl, HAL.out, HS2.out, hB, hS, HBL.out⟩, fun h => absurd HY.out h⟩

/-- whether: SettingValid of the program -/
theorem implSettingValid_any (v : Value) (hi n : Nat) (Z : Nat → Int) (v2 : Value) (lo2 hi2 m : Nat) (sd : Nat → Int) (w : World) (hv : RdT 0 hi w v n Z) (hh : hi ≤ w.heap.size) (hn : n ≤ 1048576) (hv2 : RdI lo2 hi2 w v2 m sd) (hh2 : hi2 ≤ w.heap.size) (hm : m ≤ 1048576) :
    Calls Try.prog 18 #[v, v2] w (BlPost (svB n Z m sd) w) := by
  have HW := Lib.hid (settingWith_any v hi n Z v2 lo2 hi2 m sd w hv hh hn hv2 hh2 hm)
  by_cases hok : StOk n Z m sd
  · rw [svB_yes hok]
    have HW2 := Lib.hid (HW.out.mono (fun _ _ h => h.1 hok))
    clear HW hok hv hv2
    go_enter Try.func18, Try.ntmps18
    go_wp2_with fail
    refine HW2.out.mono ?_
    rintro e w1 ⟨B, S, sv, M, rfl, _, _, _, _, hb1⟩
    have HB1 := Lib.hid hb1
    clear hb1
    go_wp2
    go_ret
    exact ⟨rfl, HB1.out⟩
  · rw [svB_no hok]
    have HW2 := Lib.hid (HW.out.mono (fun _ _ h => h.2 hok))
    clear HW hok hv hv2
    go_enter Try.func18, Try.ntmps18
    go_wp2_with fail
    refine HW2.out.mono ?_
    rintro e w1 ⟨rfl, hb1⟩
    have HB1 := Lib.hid hb1
    clear hb1
    go_wp2
    go_ret
    exact ⟨rfl, HB1.out⟩

set_option maxRecDepth 20000 in
set_option maxHeartbeats 8000000 in
theorem weight_any (B S n hi : Nat) (Z : Nat → Int) (lv sv : Value) (sd M : Nat → Int) (w : World) (hst : St B S n hi Z lv sv sd M w) (hok : LsOk n Z) :
    Calls Try.prog 52 #[.pointer (some ⟨B, 0, none⟩)] w (IntPost (wtK Z sd n) w) := by
  obtain ⟨la, lc, rfl⟩ := hst.lists
  have HST := Lib.hid hst
  have hn6 := hok.1
  have HWR := Lib.hid (wtK_range (sd := sd) hok)
  have HGZ := Lib.hid (fun i hi => (hok.2 i hi).1.2.2.2)
  have cl := hst.list_cell
  clear hst hok
  go_enter Try.func52, Try.ntmps52
  go_wp2
  go_loopw [3, 11] (fun u c wr => ∃ i : Nat, i ≤ n ∧ c = .int .i64 i ∧ u = .int .i64 (wtK Z sd i) ∧ Below w.heap.size w wr) (fun _ c _ => n - (intOf c).toNat)
  case atStart => exact ⟨0, Nat.zero_le _, rfl, rfl, Below.refl _ _⟩
  case round =>
    obtain ⟨i, hle, rfl, rfl, hbel⟩ := hrel
    have HBL := Lib.hid hbel
    by_cases hlt : i < n
    · have hlt' : (i : Int) < n := by omega
      have hs := HST.out.below hbel
      obtain ⟨b, off, cap, he, _, _, _, _, h6⟩ := hs.list.open (by omega)
      simp only [Value.slice.injEq] at he
      obtain ⟨rfl, _, rfl⟩ := he
      obtain ⟨c0, c1, c2, c3⟩ := four_of h6 hlt
      obtain ⟨scap, rfl, hsc, hsd, hsf⟩ := hs.side_open (by omega)
      obtain ⟨X, eX⟩ : ∃ X, Z (i * 4) = X := ⟨_, rfl⟩
      obtain ⟨Y, eY⟩ : ∃ Y, Z (i * 4 + 1) = Y := ⟨_, rfl⟩
      obtain ⟨A, eA⟩ : ∃ A, Z (i * 4 + 2) = A := ⟨_, rfl⟩
      obtain ⟨G, eG⟩ : ∃ G, Z (i * 4 + 3) = G := ⟨_, rfl⟩
      rw [eX] at c0
      rw [eY] at c1
      rw [eA] at c2
      rw [eG] at c3
      have hsl : S < wr.heap.size := World.block_lt_of_cell? _ _ (hsd i hlt)
      have hbl := hs.lt
      have d0 : (wr.alloc (.cells #[.int .i64 X, .int .i64 Y, .int .i64 A, .int .i64 G] 28)).cell? ⟨B, 1, none⟩ = _ := (((Below.refl _ wr).alloc (Nat.le_refl _) _).cell (p := ⟨B, 1, none⟩) hbl).trans hs.sides_cell
      have d1 : (wr.alloc (.cells #[.int .i64 X, .int .i64 Y, .int .i64 A, .int .i64 G] 28)).cell? ⟨S, i, none⟩ = _ := (((Below.refl _ wr).alloc (Nat.le_refl _) _).cell (p := ⟨S, i, none⟩) hsl).trans (hsd i hlt)
      have HB2 := Lib.hid (hbel.alloc hbel.size (.cells #[.int .i64 X, .int .i64 Y, .int .i64 A, .int .i64 G] 28))
      have hw := HWR.out i (by omega)
      have hg := HGZ.out i hlt
      obtain ⟨s, es⟩ : ∃ s, sd i = s := ⟨_, rfl⟩
      obtain ⟨t, et⟩ : ∃ t, wtK Z sd i = t := ⟨_, rfl⟩
      have HE := Lib.hid (show wtK Z sd (i + 1) = if s = -1 then t else t + G by rw [← es, ← et, ← eG]; rfl)
      rw [es] at d1
      rw [eG] at hg
      rw [et] at hw
      rw [et]
      clear hs h6 hsd hsf es et eX eY eA eG hbel cl
      by_cases hs : s = -1
      · rw [if_pos hs] at HE
        subst hs
        go_wp2
        go_roundw
        case rel => exact ⟨i + 1, by omega, by go_num, by rw [HE.out], HB2.out⟩
        case measure => simp [intOf]; omega
      · rw [if_neg hs] at HE
        have hne1 : (s != -1) = true := by simpa using hs
        clear hs
        go_wp2
        go_roundw
        case rel => exact ⟨i + 1, by omega, by go_num, by rw [HE.out], HB2.out⟩
        case measure => simp [intOf]; omega
    · obtain rfl : n = i := by omega
      clear hbel
      go_wp2
      go_ret
      exact ⟨rfl, HBL.out⟩

theorem implSettingWeight_any (v : Value) (hi n : Nat) (Z : Nat → Int) (v2 : Value) (lo2 hi2 m : Nat) (sd : Nat → Int) (w : World) (hv : RdT 0 hi w v n Z) (hh : hi ≤ w.heap.size) (hn : n ≤ 1048576) (hv2 : RdI lo2 hi2 w v2 m sd) (hh2 : hi2 ≤ w.heap.size) (hm : m ≤ 1048576) :
    Calls Try.prog 16 #[v, v2] w (IntPost (swV n Z m sd) w) := by
  have HW := Lib.hid (settingWith_any v hi n Z v2 lo2 hi2 m sd w hv hh hn hv2 hh2 hm)
  by_cases hok : StOk n Z m sd
  · rw [swV_yes hok]
    have HW2 := Lib.hid (HW.out.mono (fun _ _ h => h.1 hok))
    have HOK := Lib.hid hok.1
    clear HW hok hv hv2
    go_enter Try.func16, Try.ntmps16
    go_wp2_with fail
    refine HW2.out.mono ?_
    rintro e w1 ⟨B, S, sv, M, rfl, _, hst, _, _, hb1⟩
    have HB1 := Lib.hid hb1
    have HWT := Lib.hid (weight_any B S n hi Z v sv sd M w1 hst HOK.out)
    clear hb1 hst
    go_wp2_with fail
    refine HWT.out.mono ?_
    rintro e w2 ⟨rfl, hb2⟩
    have HB2 := Lib.hid (HB1.out.trans (hb2.mono HB1.out.size))
    clear hb2
    go_wp2
    go_ret
    exact ⟨rfl, HB2.out⟩
  · rw [swV_no hok]
    have HW2 := Lib.hid (HW.out.mono (fun _ _ h => h.2 hok))
    clear HW hok hv hv2
    go_enter Try.func16, Try.ntmps16
    go_wp2_with fail
    refine HW2.out.mono ?_
    rintro e w1 ⟨rfl, hb1⟩
    have HB1 := Lib.hid hb1
    clear hb1
    go_wp2
    go_ret
    exact ⟨rfl, HB1.out⟩

end Go.Proofs.Ythelaffjpmcdbaa
