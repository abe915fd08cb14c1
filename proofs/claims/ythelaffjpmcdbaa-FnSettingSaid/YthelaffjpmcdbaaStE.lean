/- Settings of the program: each, by contract over its callback; SettingMany. -/
import Derived.Test.YthelaffjpmcdbaaStL
import Derived.Test.YthelaffjpmcdbaaStK
namespace Go.Proofs.Ythelaffjpmcdbaa
open Go.RowKit
set_option linter.unusedVariables false

def EachPost (B S n hi : Nat) (Z : Nat → Int) (lv sv : Value) (sd M : Nat → Int) (J : List (Nat → Int) → World → Prop) (done : List (Nat → Int)) (e : Ending) (w' : World) : Prop :=
  e = .returned (.tuple #[]) ∧ St B S n hi Z lv sv sd M w' ∧ J done w'

theorem en1_mono (Z : Nat → Int) (k : Nat) (sd M : Nat → Int) (r : (Nat → Int) → (Nat → Int) → List (Nat → Int)) (s : Nat) : ∀ t, s ≤ t → (en1 Z k sd M r s).length ≤ (en1 Z k sd M r t).length := by
  intro t
  induction t with
  | zero => intro h; obtain rfl : s = 0 := by omega
            exact Nat.le_refl _
  | succ t ih =>
    intro h
    by_cases e : s = t + 1
    · subst e; exact Nat.le_refl _
    · have := ih (by omega)
      simp only [en1, List.length_append]
      omega

set_option maxRecDepth 20000 in
set_option maxHeartbeats 16000000 in
theorem each_any (B S n hi : Nat) (Z : Nat → Int) (lv sv : Value) (hok : LsOk n Z) (g : Nat) (caps : Array Value) (J : List (Nat → Int) → World → Prop) (T : Nat)
    (hJ : ∀ done W W', J done W → Oth B S W W' → J done W')
    (hcf : ∀ (args : Array Value) (W : World), Sem.run Try.prog (callFunc g args) W = .ok (.enter g args) W)
    (hf : ∀ (done : List (Nat → Int)) (sd M : Nat → Int) (W : World), done.length + 1 ≤ T → St B S n hi Z lv sv sd M W → J done W → Calls Try.prog g (#[.pointer (some ⟨B, 0, none⟩)] ++ caps) W (fun e w' => EachPost B S n hi Z lv sv sd M J (done ++ [sd]) e w')) :
    ∀ (f k : Nat) (sd M : Nat → Int) (done : List (Nat → Int)) (w : World), k + f = n → St B S n hi Z lv sv sd M w → MpOk M → (∀ i, k ≤ i → i < n → sd i = -1) → J done w → done.length + (en Z f k sd M).length ≤ T →
      Calls Try.prog 57 #[.pointer (some ⟨B, 0, none⟩), .int .i64 k, .func (.func g) #[] caps] w (fun e w' => EachPost B S n hi Z lv sv sd M J (done ++ en Z f k sd M) e w') := by
  have hn6 := hok.1
  have HZ := Lib.hid hok.2
  have HJ := Lib.hid hJ
  have HF := Lib.hid hf
  clear hok hJ hf
  intro f
  induction f with
  | zero =>
    intro k sd M done w hkf hst hM hsd hj hT
    obtain ⟨la, lc, rfl⟩ := hst.lists
    have cl := hst.list_cell
    have e : k = n := by omega
    subst e
    have he : ((k : Int) == k) = true := by simp
    have HC := Lib.hid (HF.out done sd M w hT hst hj)
    clear hst hM hsd hj
    go_enter Try.func57, Try.ntmps57
    go_wp2_with fail
    refine HC.out.mono ?_
    rintro e w1 ⟨rfl, hs1, hj1⟩
    have HS1 := Lib.hid hs1
    have HJ1 := Lib.hid hj1
    clear hs1 hj1
    go_wp2
    first | go_end0 | refine bodyPost_ret (results_none rfl _ _ _) rfl ?_
    exact ⟨rfl, HS1.out, HJ1.out⟩
  | succ f ih =>
    intro k sd M done w hkf hst hM hsd hj hT
    obtain ⟨la, lc, rfl⟩ := hst.lists
    have cl := hst.list_cell
    have HST := Lib.hid hst
    have HMO := Lib.hid hM
    have HSD := Lib.hid hsd
    have HIH := Lib.hid ih
    have HJD := Lib.hid hj
    have HT := Lib.hid (show done.length + ((en1 Z k sd M (en Z f (k + 1)) 4).length + (en Z f (k + 1) sd M).length) ≤ T by have h := hT; simp only [en, List.length_append] at h; exact h)
    clear hT
    have he : ((k : Int) == n) = false := by simp; omega
    have hk1 : ((k + 1 : Nat) : Int) = (k : Int) + 1 := by omega
    clear hst hM hsd hj ih
    go_enter Try.func57, Try.ntmps57
    go_wp2
    go_loopw [17] (fun c wr => ∃ s : Nat, s ≤ 4 ∧ c = .int .i64 s ∧ St B S n hi Z (.slice la n lc) sv sd M wr ∧ J (done ++ en1 Z k sd M (en Z f (k + 1)) s) wr) (fun c _ => 4 - (intOf c).toNat)
    case atStart => exact ⟨0, by omega, rfl, HST.out, by rw [show en1 Z k sd M (en Z f (k + 1)) 0 = [] from rfl, List.append_nil]; exact HJD.out⟩
    case round =>
      obtain ⟨s, hs, rfl, hst, hj⟩ := hrel
      have HS := Lib.hid hst
      have HJ0 := Lib.hid hj
      clear hst hj
      by_cases hs4 : s < 4
      · have hs4' : (s : Int) < 4 := by omega
        have HSE := Lib.hid (set_any B S n hi Z _ sv sd M wr HS.out HMO.out k s (by omega) (by omega) (HZ.out k (by omega)) (by omega))
        by_cases hft : Fit Z M k s
        · have HSY := Lib.hid (HSE.out.mono (fun _ _ h => h.1 hft))
          have HN := Lib.hid (show en1 Z k sd M (en Z f (k + 1)) (s + 1) = en1 Z k sd M (en Z f (k + 1)) s ++ en Z f (k + 1) (upS sd k s) (stp Z M k s) from by
            show _ ++ (if ftB Z M k s = true then _ else _) = _; rw [if_pos (ftB_yes hft)])
          have HFT := Lib.hid hft
          clear HSE hft
          go_wp2_with fail
          refine HSY.out.mono ?_
          rintro e w2 ⟨rfl, hs2, ho2⟩
          have HR := Lib.hid (HIH.out (k + 1) (upS sd k s) (stp Z M k s) _ w2 (by omega) hs2 (stp_ok HMO.out (by omega)) (fun i h1 h2 => by unfold upS; rw [if_neg (by omega)]; exact HSD.out i (by omega) h2) (HJ.out _ _ _ HJ0.out ho2) (by
            have h1 := HT.out
            have h2 := en1_mono Z k sd M (en Z f (k + 1)) (s + 1) 4 (by omega)
            rw [HN.out, List.length_append] at h2
            rw [List.length_append]
            omega))
          rw [hk1] at HR
          clear hs2 ho2 HSY
          go_wp2_with fail
          refine HR.out.mono ?_
          rintro e w3 ⟨rfl, hs3, hj3⟩
          have HJ3 := Lib.hid hj3
          have eup : upS sd k s k = s := if_pos rfl
          have HL := Lib.hid (leave_any B S n hi Z _ sv (upS sd k s) (stp Z M k s) w3 hs3 k (by omega) (by omega) (HZ.out k (by omega)) (by rw [eup]; omega) (by rw [eup]; exact HFT.out.2.1))
          rw [eup] at HL
          clear hs3 hj3 HR
          go_wp2_with fail
          refine HL.out.mono ?_
          rintro e w4 ⟨rfl, hs4, ho4⟩
          have HS4 := Lib.hid (hs4.congr (M' := M) (sd' := sd) (fun j _ => by
            unfold mkM stp
            by_cases e : atA Z k s ≤ j ∧ j < atA Z k s + wdN Z k
            · rw [if_pos e]
              have := HFT.out.2.2 (j - atA Z k s) (by omega)
              rw [show atA Z k s + (j - atA Z k s) = j by omega] at this
              exact this.symm
            · rw [if_neg e, if_neg e]) (fun i hi => by
            unfold upS
            by_cases e : i = k
            · subst e; rw [if_pos rfl]; exact (HSD.out i (Nat.le_refl _) hi).symm
            · rw [if_neg e, if_neg e]))
          have HJ4 := Lib.hid (HJ.out _ _ _ HJ3.out ho4)
          rw [List.append_assoc, ← HN.out] at HJ4
          clear hs4 ho4 HL
          go_wp2
          go_roundw
          case rel => exact ⟨s + 1, by omega, by go_num, HS4.out, HJ4.out⟩
          case measure => simp [intOf]; omega
        · have HSN := Lib.hid (HSE.out.mono (fun _ _ h => h.2 hft))
          have HN := Lib.hid (show en1 Z k sd M (en Z f (k + 1)) (s + 1) = en1 Z k sd M (en Z f (k + 1)) s from by
            show _ ++ (if ftB Z M k s = true then _ else _) = _; rw [if_neg (by rw [ftB_no hft]; simp), List.append_nil])
          clear HSE hft
          go_wp2_with fail
          refine HSN.out.mono ?_
          rintro e w2 ⟨rfl, hs2, ho2⟩
          have HS2 := Lib.hid hs2
          have HJ2 := Lib.hid (HJ.out _ _ _ HJ0.out ho2)
          rw [← HN.out] at HJ2
          clear hs2 ho2
          go_wp2
          go_roundw
          case rel => exact ⟨s + 1, by omega, by go_num, HS2.out, HJ2.out⟩
          case measure => simp [intOf]; omega
      · obtain rfl : s = 4 := by omega
        have HR := Lib.hid (HIH.out (k + 1) sd M _ wr (by omega) HS.out HMO.out (fun i h1 h2 => HSD.out i (by omega) h2) HJ0.out (by have := HT.out; rw [List.length_append]; omega))
        rw [hk1] at HR
        go_wp2_with fail
        refine HR.out.mono ?_
        rintro e w3 ⟨rfl, hs3, hj3⟩
        have HS3 := Lib.hid hs3
        have HJ3 := Lib.hid hj3
        rw [List.append_assoc] at HJ3
        clear hs3 hj3
        go_wp2
        first | go_end0 | refine bodyPost_ret (results_none rfl _ _ _) rfl ?_
        exact ⟨rfl, HS3.out, HJ3.out⟩

theorem callFunc_many : ∀ (args : Array Value) (W : World), Sem.run Try.prog (callFunc 60 args) W = .ok (.enter 60 args) W := fun _ _ => by kernel_rfl

/-- a counter in a box of its own -/
def Cn (C : Nat) (w0 : World) (B S : Nat) (done : List (Nat → Int)) (w : World) : Prop :=
  w.heap[C]? = some (.cells #[.int .i64 (done.length : Int)] 3 (0, 0)) ∧ C ≠ B ∧ C ≠ S ∧ Below w0.heap.size w0 w ∧ w0.heap.size ≤ B ∧ w0.heap.size ≤ S ∧ w0.heap.size ≤ C
set_option maxHeartbeats 4000000 in
theorem many1_any (C B : Nat) (x : Int) (w : World) (h : w.heap[C]? = some (.cells #[.int .i64 x] 3 (0, 0))) (h0 : 0 ≤ x) (h1 : x ≤ 1000000) :
    Calls Try.prog 60 #[.pointer (some ⟨B, 0, none⟩), .pointer (some ⟨C, 0, none⟩)] w (fun e w' => e = .returned (.tuple #[]) ∧ w' = w.setCell ⟨C, 0, none⟩ (.int .i64 (x + 1))) := by
  have c0 : w.cell? ⟨C, 0, none⟩ = some (.int .i64 x) := by simp [World.cell?, h]
  have f0 : w.frozen? ⟨C, 0, none⟩ = false := by simp [World.frozen?, h]
  clear h
  go_enter Try.func60, Try.ntmps60
  go_wp2
  first | go_end0 | refine bodyPost_ret (results_none rfl _ _ _) rfl ?_
  exact ⟨rfl, rfl⟩

theorem Cn.oth {C : Nat} {w0 : World} {B S : Nat} {done : List (Nat → Int)} {W W' : World} (h : Cn C w0 B S done W) (ho : Oth B S W W') : Cn C w0 B S done W' := by
  obtain ⟨h1, h2, h3, h4, h5, h6, h7⟩ := h
  exact ⟨(ho.block C (lt_of_block h1) h2 h3).trans h1, h2, h3, h4.trans (ho.below h5 h6 h4.size), h5, h6, h7⟩

set_option maxRecDepth 20000 in
set_option maxHeartbeats 8000000 in
theorem implSettingMany_any (v : Value) (hi n : Nat) (Z : Nat → Int) (w : World) (hv : RdT 0 hi w v n Z) (hh : hi ≤ w.heap.size) (hn : n ≤ 1048576) :
    Calls Try.prog 26 #[v] w (IntPost (smV n Z) w) := by
  unfold smV
  by_cases hok : LsOk n Z
  case neg =>
    have HN := Lib.hid (newSetting_no v 0 hi n Z w hv hh (by omega) hok)
    rw [lsB_no hok]
    clear hok hv
    go_enter Try.func26, Try.ntmps26
    go_wp2_with fail
    refine HN.out.mono ?_
    rintro e w1 ⟨rfl, hb1⟩
    have HB1 := Lib.hid hb1
    clear hb1
    go_wp2
    go_ret
    exact ⟨rfl, HB1.out⟩
  have HN := Lib.hid (newSetting_yes v hi n Z w hv hh hok)
  rw [lsB_yes hok]
  have HOK := Lib.hid hok
  have hn6 := hok.1
  clear hok hv
  go_enter Try.func26, Try.ntmps26
  go_wp2_with fail
  refine HN.out.mono ?_
  rintro e w1 ⟨B, S, sv, rfl, hst, hB, hS, hb1, hSq⟩
  have hSne : S ≠ w1.heap.size := by omega
  clear hSq
  have hbA := (Below.refl w1.heap.size w1).alloc (Nat.le_refl _) (.cells #[.int .i64 0] 3)
  have HST := Lib.hid (hst.below hbA)
  have hBl := hst.lt
  have hs1 := hb1.size
  have HB1 := Lib.hid (hb1.alloc hb1.size (.cells #[.int .i64 0] 3))
  have hC0 := heap_alloc_new w1 (.cells #[.int .i64 0] 3)
  have HE := Lib.hid (each_any B S n hi Z v sv HOK.out 60 #[.pointer (some ⟨w1.heap.size, 0, none⟩)] (Cn w1.heap.size w B S) 15625 (fun done W W' h ho => h.oth ho) callFunc_many
    (fun done sd M W hT hst' hj => (many1_any w1.heap.size B done.length W hj.1 (by omega) (by omega)).mono (fun e W' hq => by
      obtain ⟨he, hW'⟩ := hq
      subst hW'
      obtain ⟨j1, j2, j3, j4, j5, j6, j7⟩ := hj
      refine ⟨he, hst'.same (fun k _ k2 => Below.heap_setCell _ _ _ _ (by have := hst'.hiB; have := hst'.hiS; show k ≠ w1.heap.size; omega)) (Below.heap_setCell _ _ _ _ (fun h => j3 h.symm)) (Below.heap_setCell _ _ _ _ (fun h => j2 h.symm)), ?_, j2, j3, j4.setCell j7 _, j5, j6, j7⟩
      have h := heap_setCell_same W w1.heap.size 0 _ _ (.int .i64 ((done.length : Int) + 1)) j1
      rw [h]
      simp))
    n 0 (fun _ => -1) (mpK Z n) [] _ (by omega) HST.out (mpK_ok Z n) (fun _ _ _ => rfl) ⟨hC0, by omega, fun h => hSne h.symm, HB1.out, hB, hS, hs1⟩ (by rw [en_len]; have := ct_small Z n 0 (mpK Z n) hn6; simp only [List.length_nil]; omega))
  rw [List.nil_append] at HE
  clear hb1 hst hbA
  go_wp2_with fail
  refine HE.out.mono ?_
  rintro e w2 ⟨rfl, hst2, hc2⟩
  have d0 : w2.cell? ⟨w1.heap.size, 0, none⟩ = some (.int .i64 ((en Z n 0 (fun _ => -1) (mpK Z n)).length : Int)) := by simp [World.cell?, hc2.1]
  rw [en_len] at d0
  have HB2 := Lib.hid hc2.2.2.2.1
  clear hst2 hc2
  go_wp2
  go_ret
  exact ⟨rfl, HB2.out⟩

end Go.Proofs.Ythelaffjpmcdbaa
