/- SettingMost of the program. -/
import Derived.Test.YthelaffjpmcdbaaStV
namespace Go.Proofs.Ythelaffjpmcdbaa
open Go.RowKit
set_option linter.unusedVariables false

set_option maxRecDepth 20000 in
set_option maxHeartbeats 8000000 in
theorem count_any (B S n hi : Nat) (Z : Nat → Int) (lv sv : Value) (sd M : Nat → Int) (w : World) (hst : St B S n hi Z lv sv sd M w) (hn6 : n ≤ 6) :
    Calls Try.prog 66 #[.pointer (some ⟨B, 0, none⟩)] w (fun e w' => e = .returned (.int .i64 (cnK sd n)) ∧ w = w') := by
  have cl := hst.sides_cell
  have HST := Lib.hid hst
  obtain ⟨sa, sc, rfl⟩ := hst.sides.rd.shape
  clear hst
  go_enter Try.func66, Try.ntmps66
  go_wp2
  go_loop [3, 11] (fun u c => ∃ i : Nat, i ≤ n ∧ c = .int .i64 i ∧ u = .int .i64 (cnK sd i)) (fun _ c => n - (intOf c).toNat)
  case atStart => exact ⟨0, Nat.zero_le _, rfl, rfl⟩
  case round =>
    obtain ⟨i, hle, rfl, rfl⟩ := hrel
    by_cases hlt : i < n
    · have hlt' : (i : Int) < n := by omega
      obtain ⟨scap, he, hsc, hsd, hsf⟩ := HST.out.side_open (by omega)
      simp only [Value.slice.injEq] at he
      obtain ⟨rfl, _, rfl⟩ := he
      have d1 := hsd i hlt
      have hw := cnK_range sd i
      obtain ⟨s, es⟩ : ∃ s, sd i = s := ⟨_, rfl⟩
      obtain ⟨t, et⟩ : ∃ t, cnK sd i = t := ⟨_, rfl⟩
      have HE := Lib.hid (show cnK sd (i + 1) = if s = -1 then t else t + 1 by rw [← es, ← et]; rfl)
      rw [es] at d1
      rw [et] at hw
      rw [et]
      clear hsd hsf es et
      by_cases hs : s = -1
      · rw [if_pos hs] at HE
        subst hs
        go_wp2
        go_round
        case rel => exact ⟨i + 1, by omega, by go_num, by rw [HE.out]⟩
        case measure => simp [intOf]; omega
      · rw [if_neg hs] at HE
        have hne1 : (s != -1) = true := by simpa using hs
        clear hs
        go_wp2
        go_round
        case rel => exact ⟨i + 1, by omega, by go_num, by rw [HE.out]⟩
        case measure => simp [intOf]; omega
    · obtain rfl : n = i := by omega
      go_wp2
      go_ret
      exact ⟨rfl, rfl⟩

theorem callFunc_most : ∀ (args : Array Value) (W : World), Sem.run Try.prog (callFunc 65 args) W = .ok (.enter 65 args) W := fun _ _ => by kernel_rfl

set_option maxRecDepth 20000 in
set_option maxHeartbeats 8000000 in
theorem most1_any (C B S n hi : Nat) (Z : Nat → Int) (lv sv : Value) (sd M : Nat → Int) (x : Int) (w : World) (hst : St B S n hi Z lv sv sd M w) (hn6 : n ≤ 6) (h : w.heap[C]? = some (.cells #[.int .i64 x] 3 (0, 0))) :
    Calls Try.prog 65 #[.pointer (some ⟨B, 0, none⟩), .pointer (some ⟨C, 0, none⟩)] w (fun e w' => e = .returned (.tuple #[]) ∧ w' = (w.setCell ⟨C, 0, none⟩ (.int .i64 (max x (cnK sd n)))).drew) := by
  have c0 : w.cell? ⟨C, 0, none⟩ = some (.int .i64 x) := by simp [World.cell?, h]
  have f0 : w.frozen? ⟨C, 0, none⟩ = false := by simp [World.frozen?, h]
  have HC := Lib.hid (show Calls Try.prog 66 #[.pointer (some ⟨B, 0, none⟩)] w.drew (fun e w' => e = .returned (.int .i64 (cnK sd n)) ∧ w.drew = w') from count_any B S n hi Z lv sv sd M w.drew hst.drew hn6)
  obtain ⟨y, ey⟩ : ∃ y, cnK sd n = y := ⟨_, rfl⟩
  rw [ey] at HC ⊢
  clear h hst ey
  go_enter Try.func65, Try.ntmps65
  go_wp2_with fail
  go_region_with ((go_at_call 66; (with_reducible refine HC.out.mono ?_); rintro e w1 ⟨rfl, rfl⟩))
  all_goals go_wp2
  all_goals (first | go_end0 | refine bodyPost_ret (results_none rfl _ _ _) rfl ?_)
  all_goals exact ⟨rfl, rfl⟩

/-- the greatest number so far, in a box of its own -/
def Cm (C n : Nat) (w0 : World) (B S : Nat) (done : List (Nat → Int)) (w : World) : Prop :=
  w.heap[C]? = some (.cells #[.int .i64 (mxF (fun sd => cnK sd n) 0 done)] 3 (0, 0)) ∧ C ≠ B ∧ C ≠ S ∧ Below w0.heap.size w0 w ∧ w0.heap.size ≤ B ∧ w0.heap.size ≤ S ∧ w0.heap.size ≤ C
theorem Cm.oth {C n : Nat} {w0 : World} {B S : Nat} {done : List (Nat → Int)} {W W' : World} (h : Cm C n w0 B S done W) (ho : Oth B S W W') : Cm C n w0 B S done W' := by
  obtain ⟨h1, h2, h3, h4, h5, h6, h7⟩ := h
  exact ⟨(ho.block C (lt_of_block h1) h2 h3).trans h1, h2, h3, h4.trans (ho.below h5 h6 h4.size), h5, h6, h7⟩

set_option maxRecDepth 20000 in
set_option maxHeartbeats 8000000 in
theorem implSettingMost_any (v : Value) (hi n : Nat) (Z : Nat → Int) (w : World) (hv : RdT 0 hi w v n Z) (hh : hi ≤ w.heap.size) (hn : n ≤ 1048576) :
    Calls Try.prog 32 #[v] w (IntPost (soV n Z) w) := by
  unfold soV
  by_cases hok : LsOk n Z
  case neg =>
    have HN := Lib.hid (newSetting_no v 0 hi n Z w hv hh (by omega) hok)
    rw [lsB_no hok]
    clear hok hv
    go_enter Try.func32, Try.ntmps32
    go_wp2_with fail
    refine HN.out.mono ?_
    rintro e w1 ⟨rfl, hb1⟩
    have HB1 := Lib.hid hb1
    clear hb1
    go_wp2
    go_ret
    exact ⟨rfl, HB1.out⟩
  have HN := Lib.hid (newSetting_yes v hi n Z w hv hh hok)
  rw [lsB_yes hok]
  have HOK := Lib.hid hok
  have hn6 := hok.1
  clear hok hv
  go_enter Try.func32, Try.ntmps32
  go_wp2_with fail
  refine HN.out.mono ?_
  rintro e w1 ⟨B, S, sv, rfl, hst, hB, hS, hb1, hSq⟩
  have hSne : S ≠ w1.heap.size := by omega
  clear hSq
  have hbA := (Below.refl w1.heap.size w1).alloc (Nat.le_refl _) (.cells #[.int .i64 0] 3)
  have HST := Lib.hid (hst.below hbA)
  have hBl := hst.lt
  have hs1 := hb1.size
  have HB1 := Lib.hid (hb1.alloc hb1.size (.cells #[.int .i64 0] 3))
  have hC0 := heap_alloc_new w1 (.cells #[.int .i64 0] 3)
  have HE := Lib.hid (each_any B S n hi Z v sv HOK.out 65 #[.pointer (some ⟨w1.heap.size, 0, none⟩)] (Cm w1.heap.size n w B S) 15625 (fun done W W' h ho => h.oth ho) callFunc_most
    (fun done sd M W hT hst' hj => (most1_any w1.heap.size B S n hi Z v sv sd M _ W hst' hn6 hj.1).mono (fun e W' hq => by
      obtain ⟨he, hW'⟩ := hq
      subst hW'
      obtain ⟨j1, j2, j3, j4, j5, j6, j7⟩ := hj
      refine ⟨he, (hst'.same (fun k _ k2 => Below.heap_setCell _ _ _ _ (by have := hst'.hiB; have := hst'.hiS; show k ≠ w1.heap.size; omega)) (Below.heap_setCell _ _ _ _ (fun h => j3 h.symm)) (Below.heap_setCell _ _ _ _ (fun h => j2 h.symm))).drew, ?_, j2, j3, below_drewN (j4.setCell j7 _) 1, j5, j6, j7⟩
      have h := heap_setCell_same W w1.heap.size 0 _ _ (.int .i64 (max (mxF (fun sd => cnK sd n) 0 done) (cnK sd n))) j1
      rw [mxF_app, mxF_one]
      exact h))
    n 0 (fun _ => -1) (mpK Z n) [] _ (by omega) HST.out (mpK_ok Z n) (fun _ _ _ => rfl) ⟨hC0, by omega, fun h => hSne h.symm, HB1.out, hB, hS, hs1⟩ (by rw [en_len]; have := ct_small Z n 0 (mpK Z n) hn6; simp only [List.length_nil]; omega))
  rw [List.nil_append] at HE
  clear hb1 hst hbA
  go_wp2_with fail
  refine HE.out.mono ?_
  rintro e w2 ⟨rfl, hst2, hc2⟩
  have hb0 := (bst_range (b := false) HOK.out n 0 (mpK Z n) (by omega)).1
  have hcn : ∀ i, cnK (fun _ => -1) i = 0 := fun i => by
    induction i with
    | zero => rfl
    | succ i ih => show (if _ then _ else _) = _; rw [if_pos rfl]; exact ih
  have hme := mx_en (Z := Z) (b := false) (n := n) (F := fun sd => cnK sd n) (fun sd k s hk hs => by show cnK _ n = cnK sd n + 1; rw [cnK_up sd k s hs n, if_pos hk]) n 0 (fun _ => -1) (mpK Z n) 0 (by omega) (fun _ _ _ => rfl)
  rw [hcn n] at hme
  have d0 : w2.cell? ⟨w1.heap.size, 0, none⟩ = some (.int .i64 (bst Z false n 0 (mpK Z n))) := by
    have : w2.cell? ⟨w1.heap.size, 0, none⟩ = some (.int .i64 (mxF (fun sd => cnK sd n) 0 (en Z n 0 (fun _ => -1) (mpK Z n)))) := by simp [World.cell?, hc2.1]
    rw [this, hme]
    congr 2
    omega
  have HB2 := Lib.hid hc2.2.2.2.1
  clear hst2 hc2 hme
  go_wp2
  go_ret
  exact ⟨rfl, HB2.out⟩

end Go.Proofs.Ythelaffjpmcdbaa
