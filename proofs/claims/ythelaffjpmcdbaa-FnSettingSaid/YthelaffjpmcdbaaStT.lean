/- Settings of the model: SettingValid, SettingWeight, SettingMany. -/
import Derived.Test.YthelaffjpmcdbaaStS
import Derived.BigQuiet
namespace Go.Proofs.Ythelaffjpmcdbaa
open Go.RowKit
set_option linter.unusedVariables false

/-- the map with the first i labels at their sides, if that can be -/
noncomputable def alK (Z : Nat → Int) (n : Nat) (sd : Nat → Int) : Nat → Option (Nat → Int)
  | 0 => some (mpK Z n)
  | i + 1 => match alK Z n sd i with
    | none => none
    | some M => if sd i = -1 then some M else if ftB Z M i (sd i) = true then some (stp Z M i (sd i)) else none
theorem alK_none {Z : Nat → Int} {n : Nat} {sd : Nat → Int} {i : Nat} (h : alK Z n sd i = none) : alK Z n sd (i + 1) = none := by simp [alK, h]
theorem alK_out {Z : Nat → Int} {n : Nat} {sd : Nat → Int} {i : Nat} {M : Nat → Int} (h : alK Z n sd i = some M) (hs : sd i = -1) : alK Z n sd (i + 1) = some M := by simp [alK, h, hs]
theorem alK_yes {Z : Nat → Int} {n : Nat} {sd : Nat → Int} {i : Nat} {M : Nat → Int} (h : alK Z n sd i = some M) (hs : ¬ sd i = -1) (hf : Fit Z M i (sd i)) : alK Z n sd (i + 1) = some (stp Z M i (sd i)) := by simp [alK, h, hs, ftB_yes hf]
theorem alK_no {Z : Nat → Int} {n : Nat} {sd : Nat → Int} {i : Nat} {M : Nat → Int} (h : alK Z n sd i = some M) (hs : ¬ sd i = -1) (hf : ¬ Fit Z M i (sd i)) : alK Z n sd (i + 1) = none := by simp [alK, h, hs, ftB_no hf]
theorem alK_none_le {Z : Nat → Int} {n : Nat} {sd : Nat → Int} {i : Nat} (h : alK Z n sd i = none) : ∀ j, i ≤ j → alK Z n sd j = none := by
  intro j hj
  induction j with
  | zero => obtain rfl : i = 0 := by omega
            exact h
  | succ j ih =>
    by_cases e : i ≤ j
    · exact alK_none (ih e)
    · obtain rfl : i = j + 1 := by omega
      exact h
theorem alK_range {Z : Nat → Int} {n : Nat} {sd : Nat → Int} : ∀ i M, alK Z n sd i = some M → ∀ j, j < i → -1 ≤ sd j ∧ sd j ≤ 3 := by
  intro i
  induction i with
  | zero => intro M _ j hj; omega
  | succ i ih =>
    intro M h j hj
    cases hi : alK Z n sd i with
    | none => rw [alK_none hi] at h; cases h
    | some M' =>
      by_cases e : j < i
      · exact ih M' hi j e
      · obtain rfl : j = i := by omega
        by_cases hs : sd j = -1
        · omega
        · by_cases hf : Fit Z M' j (sd j)
          · have := hf.1; omega
          · rw [alK_no hi hs hf] at h; cases h
theorem alK_ok {Z : Nat → Int} {n : Nat} {sd : Nat → Int} : ∀ i M, i ≤ 6 → alK Z n sd i = some M → MpOk M := by
  intro i
  induction i with
  | zero => intro M _ h; simp only [alK, Option.some.injEq] at h; subst h; exact mpK_ok Z n
  | succ i ih =>
    intro M h6 h
    cases hi : alK Z n sd i with
    | none => rw [alK_none hi] at h; cases h
    | some M' =>
      have hM := ih M' (by omega) hi
      by_cases hs : sd i = -1
      · rw [alK_out hi hs] at h; simp only [Option.some.injEq] at h; subst h; exact hM
      · by_cases hf : Fit Z M' i (sd i)
        · rw [alK_yes hi hs hf] at h; simp only [Option.some.injEq] at h; subst h; exact stp_ok hM (by omega)
        · rw [alK_no hi hs hf] at h; cases h

/-- a setting -/
def StOk (n : Nat) (Z : Nat → Int) (m : Nat) (sd : Nat → Int) : Prop := LsOk n Z ∧ m = n ∧ ∃ M, alK Z n sd n = some M
noncomputable def svB (n : Nat) (Z : Nat → Int) (m : Nat) (sd : Nat → Int) : Bool := @decide (StOk n Z m sd) (Classical.propDecidable _)
theorem svB_yes {n m : Nat} {Z sd : Nat → Int} (h : StOk n Z m sd) : svB n Z m sd = true := by simp [svB, h]
theorem svB_no {n m : Nat} {Z sd : Nat → Int} (h : ¬ StOk n Z m sd) : svB n Z m sd = false := by simp [svB, h]
/-- the weight of the first i labels that are set -/
def wtK (Z sd : Nat → Int) : Nat → Int
  | 0 => 0
  | i + 1 => if sd i = -1 then wtK Z sd i else wtK Z sd i + Z (i * 4 + 3)
theorem wtK_range {n : Nat} {Z sd : Nat → Int} (h : LsOk n Z) : ∀ i, i ≤ n → 0 ≤ wtK Z sd i ∧ wtK Z sd i ≤ 9 * i := by
  intro i
  induction i with
  | zero => intro _; simp [wtK]
  | succ i ih =>
    intro hi
    have h1 := ih (by omega)
    have h2 := (h.2 i (by omega)).1.2.2.2
    simp only [wtK]
    split <;> omega
/-- the map of a setting, or none -/
def AlPost (o : Option (Nat → Int)) (w : World) (e : Ending) (w' : World) : Prop :=
  (∀ M, o = some M → LsPost true 100 M w e w') ∧ (o = none → NoPost w e w')

set_option maxRecDepth 20000 in
set_option maxHeartbeats 16000000 in
theorem l8All_any (v : Value) (lo hi n : Nat) (Z : Nat → Int) (v2 : Value) (lo2 hi2 : Nat) (sd : Nat → Int) (w : World) (hv : RdT lo hi w v n Z) (hh : hi ≤ w.heap.size) (hok : LsOk n Z) (hv2 : RdI lo2 hi2 w v2 n sd) (hh2 : hi2 ≤ w.heap.size) (hr : ∀ i, i < n → -1 ≤ sd i ∧ sd i ≤ 3) :
    Calls Try.prog 54 #[v, v2] w (AlPost (alK Z n sd n) w) := by
  have HMP := Lib.hid (l8Map_any v lo hi n Z w hv hh hok)
  have HSE := Lib.hid l8Set_any
  have hn6 := hok.1
  obtain ⟨ao, cap, b, off, rfl, h2, h3, h4, h5, h6⟩ := hv
  obtain ⟨ao2, cap2, b2, off2, rfl, g2, g3, g4, g5, g6⟩ := hv2
  have H6 := Lib.hid h6
  have G6 := Lib.hid g6
  have HZ := Lib.hid hok.2
  have HR := Lib.hid hr
  clear h6 g6 h4 g4 hr hok
  go_enter Try.func54, Try.ntmps54
  go_wp2_with fail
  refine HMP.out.mono ?_
  rintro e w1 ⟨vm, rfl, ⟨ma, ml, mc, rfl⟩, hrd, hb⟩
  have HB1 := Lib.hid hb
  have HRD := Lib.hid hrd
  clear hb hrd
  go_wp2
  go_loopw [6, 7] (fun u c wr => ∃ (i : Nat) (M : Nat → Int), i ≤ n ∧ c = .int .i64 i ∧ alK Z n sd i = some M ∧ (∃ a l c', u = .slice a l c') ∧ RdI w.heap.size wr.heap.size wr u 100 M ∧ Below w.heap.size w wr)
    (fun _ c _ => n - (intOf c).toNat)
  case atStart => exact ⟨0, mpK Z n, Nat.zero_le _, rfl, rfl, ⟨_, _, _, rfl⟩, HRD.out, HB1.out⟩
  case round =>
    obtain ⟨i, M, hi, rfl, hal, ⟨ua, ul, uc, rfl⟩, hrd, hbel⟩ := hrel
    have HAL := Lib.hid hal
    have HRM := Lib.hid hrd
    have HBL := Lib.hid hbel
    have HMO := Lib.hid (alK_ok i M (by omega) hal)
    clear hal hrd
    by_cases hlt : i < n
    · obtain ⟨rfl, _, _⟩ := h5 (by omega)
      obtain ⟨rfl, _, _⟩ := g5 (by omega)
      have hlt' : (i : Int) < n := by omega
      obtain ⟨c0, c1, c2, c3⟩ := four_of (w := wr) (fun j hj => (hbel.cell (p := ⟨b, off + j, none⟩) (by show b < _; omega)).trans (H6.out j hj)) hlt
      have d1 : wr.cell? ⟨b2, off2 + i, none⟩ = _ := (hbel.cell (p := ⟨b2, off2 + i, none⟩) (by show b2 < _; omega)).trans (G6.out i hlt)
      obtain ⟨s, es⟩ : ∃ s, sd i = s := ⟨_, rfl⟩
      have hsr := HR.out i hlt
      rw [es] at d1 hsr
      have HES := Lib.hid es
      clear h5 g5 hbel es
      by_cases hs : s = -1
      · subst hs
        have HA := Lib.hid (alK_out HAL.out HES.out)
        go_wp2
        go_roundw
        case rel => exact ⟨i + 1, M, by omega, by go_num, HA.out, ⟨_, _, _, rfl⟩, HRM.out, HBL.out⟩
        case measure => simp [intOf]; omega
      · have hs0 : 0 ≤ s ∧ s ≤ 3 := by omega
        have hne : (s == -1) = false := by simpa using hs
        have HWR := Lib.hid (show IntKind.i64.wrap ((i : Int) + 1) = (i : Int) + 1 by rw [IntKind.wrap_i64]; omega)
        have HNS := Lib.hid (show ¬ sd i = -1 by rw [HES.out]; exact hs)
        have hbl := HBL.out.size
        have HRM2 := Lib.hid (show RdI w.heap.size wr.drew.heap.size wr.drew (.slice ua ul uc) 100 M from HRM.out.same (fun _ _ _ => rfl))
        by_cases hf : Fit Z M i s
        · have HS := Lib.hid (show ∀ W : World, RdI w.heap.size W.heap.size W (.slice ua ul uc) 100 M → Calls Try.prog 69 #[.slice ua ul uc, .agg #[.int .i64 (Z (i * 4)), .int .i64 (Z (i * 4 + 1)), .int .i64 (Z (i * 4 + 2)), .int .i64 (Z (i * 4 + 3))], .int .i64 s, .int .i64 (IntKind.i64.wrap ((i : Int) + 1))] W (LsPost true 100 (stp Z M i s) W) from
            fun W hW => by rw [HWR.out]; exact (HSE.out _ w.heap.size W.heap.size Z M i s W hW (Nat.le_refl _) HMO.out (by omega) (HZ.out i hlt) hs0).mono (fun _ _ hq => hq.1 hf))
          have HA := Lib.hid (alK_yes HAL.out HNS.out (by rw [HES.out]; exact hf))
          rw [HES.out] at HA
          clear hs hf
          go_wp2_with fail
          go_region_with ((go_at_call 69; (with_reducible refine (HS.out _ HRM2.out).mono ?_); rintro e w2 ⟨v2', rfl, ⟨qa, ql, qc, rfl⟩, hrd2, hb2⟩; have HRD2 := Lib.hid (show RdI w.heap.size w2.heap.size w2 _ _ _ from hrd2.mono hbl (Nat.le_refl _)); have X1 := Lib.hid (HBL.out.trans (Below.mono (show Below wr.heap.size wr w2 from hb2.undrew) HBL.out.size)); clear hrd2 hb2))
          all_goals go_wp2
          all_goals go_roundw
          all_goals first | exact ⟨i + 1, stp Z M i s, by omega, by go_num, HA.out, ⟨_, _, _, rfl⟩, HRD2.out, X1.out⟩ | (simp [intOf]; omega)
        · have HS := Lib.hid (show ∀ W : World, RdI w.heap.size W.heap.size W (.slice ua ul uc) 100 M → Calls Try.prog 69 #[.slice ua ul uc, .agg #[.int .i64 (Z (i * 4)), .int .i64 (Z (i * 4 + 1)), .int .i64 (Z (i * 4 + 2)), .int .i64 (Z (i * 4 + 3))], .int .i64 s, .int .i64 (IntKind.i64.wrap ((i : Int) + 1))] W (NoPost W) from
            fun W hW => by rw [HWR.out]; exact (HSE.out _ w.heap.size W.heap.size Z M i s W hW (Nat.le_refl _) HMO.out (by omega) (HZ.out i hlt) hs0).mono (fun _ _ hq => hq.2 hf))
          have HA := Lib.hid (alK_none_le (alK_no HAL.out HNS.out (by rw [HES.out]; exact hf)) n (by omega))
          clear hs hf
          go_wp2_with fail
          go_region_with ((go_at_call 69; (with_reducible refine (HS.out _ HRM2.out).mono ?_); rintro e w2 ⟨v2', rfl, ⟨qa, ql, qc, rfl⟩, hb2⟩; have X1 := Lib.hid (HBL.out.trans (Below.mono (show Below wr.heap.size wr w2 from hb2.undrew) HBL.out.size)); clear hb2))
          all_goals go_wp2
          all_goals go_ret2
          all_goals exact ⟨fun M' hM' => (by rw [HA.out] at hM'; cases hM'), fun _ => ⟨_, rfl, ⟨_, _, _, rfl⟩, X1.out.alloc X1.out.size _⟩⟩
    · obtain rfl : i = n := by omega
      have HE := Lib.hid HRM
      clear h5 g5 hbel
      go_wp2
      go_ret2
      exact ⟨fun M' hM' => by
        rw [HAL.out] at hM'
        simp only [Option.some.injEq] at hM'
        subst hM'
        exact ⟨_, rfl, ⟨_, _, _, rfl⟩, HRM.out, HBL.out⟩, fun h => by rw [HAL.out] at h; cases h⟩


set_option maxRecDepth 20000 in
set_option maxHeartbeats 16000000 in
theorem specSettingValid_any (v : Value) (lo hi n : Nat) (Z : Nat → Int) (v2 : Value) (lo2 hi2 m : Nat) (sd : Nat → Int) (w : World) (hv : RdT lo hi w v n Z) (hh : hi ≤ w.heap.size) (hn : n ≤ 1048576) (hv2 : RdI lo2 hi2 w v2 m sd) (hh2 : hi2 ≤ w.heap.size) (hm : m ≤ 1048576) :
    Calls Try.prog 19 #[v, v2] w (BlPost (svB n Z m sd) w) := by
  have HLV := Lib.hid (specLabelsValid_any v lo hi n Z w hv hh hn)
  obtain ⟨av, cv, rfl⟩ := hv.shape
  obtain ⟨bv, dv, rfl⟩ := hv2.shape
  by_cases hok : LsOk n Z
  case neg =>
    rw [lsB_no hok] at HLV
    rw [svB_no (fun h => hok h.1)]
    clear hok hv hv2
    go_enter Try.func19, Try.ntmps19
    go_wp2_with fail
    refine HLV.out.mono ?_
    rintro e w1 ⟨rfl, hb1⟩
    have HB1 := Lib.hid hb1
    clear hb1
    go_wp2
    go_ret
    exact ⟨rfl, HB1.out⟩
  rw [lsB_yes hok] at HLV
  by_cases hmn : m = n
  case neg =>
    rw [svB_no (fun h => hmn h.2.1)]
    have hne : ((m : Int) != n) = true := by rw [bne_iff_ne]; omega
    clear hok hv hv2 hmn
    go_enter Try.func19, Try.ntmps19
    go_wp2_with fail
    refine HLV.out.mono ?_
    rintro e w1 ⟨rfl, hb1⟩
    have HB1 := Lib.hid hb1
    clear hb1
    go_wp2
    go_ret
    exact ⟨rfl, HB1.out⟩
  subst hmn
  have hne : ((m : Int) != m) = false := by simp
  have HV := Lib.hid hv
  have HV2 := Lib.hid hv2
  obtain ⟨ao2, cap2, b2, off2, he, g2, g3, g4, g5, g6⟩ := hv2
  simp only [Value.slice.injEq] at he
  obtain ⟨rfl, _, rfl⟩ := he
  have G6 := Lib.hid g6
  have HOK := Lib.hid hok
  have hn6 := hok.1
  clear g6 g4 hok hv
  go_enter Try.func19, Try.ntmps19
  go_wp2_with fail
  refine HLV.out.mono ?_
  rintro e w1 ⟨rfl, hb1⟩
  have HB1 := Lib.hid hb1
  clear hb1
  go_wp2
  go_loopw [5] (fun c wr => ∃ i : Nat, i ≤ m ∧ c = .int .i64 i ∧ wr = w1 ∧ ∀ j, j < i → -1 ≤ sd j ∧ sd j ≤ 3) (fun c _ => m - (intOf c).toNat)
  case atStart => exact ⟨0, Nat.zero_le _, rfl, rfl, fun j hj => by omega⟩
  case round =>
    obtain ⟨i, hle, rfl, rfl, hd⟩ := hrel
    have HD := Lib.hid hd
    clear hd
    by_cases hlt : i < m
    · obtain ⟨rfl, _, _⟩ := g5 (by omega)
      have hlt' : (i : Int) < m := by omega
      have d1 : wr.cell? ⟨b2, off2 + i, none⟩ = _ := (HB1.out.cell (p := ⟨b2, off2 + i, none⟩) (by show b2 < _; omega)).trans (G6.out i hlt)
      obtain ⟨s, es⟩ : ∃ s, sd i = s := ⟨_, rfl⟩
      have HES := Lib.hid es
      rw [es] at d1
      clear g5 es
      by_cases hs : -1 ≤ s ∧ s ≤ 3
      · have HS := Lib.hid hs
        clear hs
        go_wp2_with fail
        refine (l6In_yes _ _ _ _ HS.out.1 HS.out.2).mono ?_
        rintro e w2 ⟨rfl, rfl⟩
        go_wp2
        go_roundw
        case rel => exact ⟨i + 1, by omega, by go_num, trivial, fun j hj => by
          rcases Nat.lt_or_ge j i with h | h
          · exact HD.out j h
          · obtain rfl : j = i := by omega
            rw [HES.out]
            exact HS.out⟩
        case measure => simp [intOf]; omega
      · have HS := Lib.hid (show s < -1 ∨ 3 < s by omega)
        have HN := Lib.hid (show ¬ StOk m Z m sd from fun h => by
          obtain ⟨M, hM⟩ := h.2.2
          have := alK_range m M hM i hlt
          rw [HES.out] at this
          exact hs this)
        clear hs
        go_wp2_with fail
        refine (l6In_no _ _ _ _ HS.out).mono ?_
        rintro e w2 ⟨rfl, rfl⟩
        go_wp2
        go_ret
        exact ⟨by rw [svB_no HN.out]; rfl, HB1.out⟩
    · obtain rfl : m = i := by omega
      clear g5
      have hb1 := HB1.out
      have HA := Lib.hid (l8All_any _ lo hi m Z _ lo2 hi2 sd wr (HV.out.same (SameIn.below hb1 hh)) (by have := hb1.size; omega) HOK.out (HV2.out.same (SameIn.below hb1 hh2)) (by have := hb1.size; omega) HD.out)
      clear hb1
      cases hal : alK Z m sd m with
      | none =>
        have HN := Lib.hid (show ¬ StOk m Z m sd from fun h => by obtain ⟨M, hM⟩ := h.2.2; rw [hal] at hM; cases hM)
        have HA2 := Lib.hid (HA.out.mono (fun _ _ h => h.2 hal))
        clear hal HA
        go_wp2_with fail
        refine HA2.out.mono ?_
        rintro e w2 ⟨vq, rfl, ⟨qa, ql, qc, rfl⟩, hb2⟩
        have HB2 := Lib.hid (HB1.out.trans (hb2.mono HB1.out.size))
        clear hb2
        go_wp2
        go_ret
        exact ⟨by rw [svB_no HN.out]; rfl, HB2.out⟩
      | some M =>
        have HN := Lib.hid (show StOk m Z m sd from ⟨HOK.out, rfl, M, hal⟩)
        have HA2 := Lib.hid (HA.out.mono (fun _ _ h => h.1 M hal))
        clear hal HA
        go_wp2_with fail
        refine HA2.out.mono ?_
        rintro e w2 ⟨vq, rfl, ⟨qa, ql, qc, rfl⟩, _, hb2⟩
        have HB2 := Lib.hid (HB1.out.trans (hb2.mono HB1.out.size))
        clear hb2
        go_wp2
        go_ret
        exact ⟨by rw [svB_yes HN.out]; rfl, HB2.out⟩

end Go.Proofs.Ythelaffjpmcdbaa
