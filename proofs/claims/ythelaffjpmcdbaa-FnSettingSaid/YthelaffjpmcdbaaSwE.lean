/- Weights of settings with one label less; the contracts without 'if'. -/
import Derived.Test.YthelaffjpmcdbaaSwC
import Derived.Test.YthelaffjpmcdbaaDrawSu
import Derived.Test.YthelaffjpmcdbaaStZ
import Derived.Deep.RegionHeld3
namespace Go.Proofs.Ythelaffjpmcdbaa
open Go.RowKit
set_option linter.unusedVariables false

def suW (Z : Nat → Int) : Nat → Int
  | 0 => 0
  | i + 1 => suW Z i + Z (i * 4 + 3)
theorem ls_weight {n : Nat} {Z : Nat → Int} (h : LsOk n Z) {i : Nat} (hi : i < n) : 1 ≤ Z (i * 4 + 3) ∧ Z (i * 4 + 3) ≤ 9 := (h.2 i hi).1.2.2.2
theorem suW_range {n : Nat} {Z : Nat → Int} (h : LsOk n Z) : ∀ i, i ≤ n → 0 ≤ suW Z i ∧ suW Z i ≤ 9 * i
  | 0, _ => by simp [suW]
  | i + 1, hi => by
    have h1 := suW_range h i (by omega)
    have h2 := ls_weight h (show i < n by omega)
    show 0 ≤ suW Z i + Z (i * 4 + 3) ∧ suW Z i + Z (i * 4 + 3) ≤ 9 * ((i + 1 : Nat) : Int)
    omega
theorem wtK_suW {n : Nat} {Z sd : Nat → Int} (h : LsOk n Z) : ∀ i, i ≤ n → wtK Z sd i ≤ suW Z i
  | 0, _ => Int.le_refl _
  | i + 1, hi => by
    have h1 := wtK_suW (sd := sd) h i (by omega)
    have h2 := ls_weight h (show i < n by omega)
    show (if sd i = -1 then wtK Z sd i else wtK Z sd i + Z (i * 4 + 3)) ≤ suW Z i + Z (i * 4 + 3)
    split <;> omega
theorem st_less {n : Nat} {Z sd : Nat → Int} {k : Nat} (h : StOk n Z n sd) : StOk n Z n (setZ sd k (-1)) := by
  rw [stOk_iff] at *
  exact ⟨h.1, rfl, h.2.2.less⟩
theorem wt_less {n : Nat} {Z sd : Nat → Int} {k : Nat} (hk : k < n) (hs : sd k ≠ -1) : wtK Z (setZ sd k (-1)) n = wtK Z sd n - Z (k * 4 + 3) := by
  rw [wtK_ow, wtK_ow]
  have := owK_less (Z := Z) (b := true) (sd := sd) (k := k) (i := n)
  rw [if_pos ⟨hk, hs⟩] at this
  exact this
theorem implWt_less (v : Value) (hi n : Nat) (Z : Nat → Int) (v2 : Value) (lo2 hi2 : Nat) (sd : Nat → Int) (k : Nat) (w : World) (hv : RdT 0 hi w v n Z) (hh : hi ≤ w.heap.size) (hok : StOk n Z n sd) (hk : k < n) (hs : sd k ≠ -1) (hv2 : RdI lo2 hi2 w v2 n (setZ sd k (-1))) (hh2 : hi2 ≤ w.heap.size) :
    Calls Try.prog 16 #[v, v2] w (IntPost (wtK Z sd n - Z (k * 4 + 3)) w) := by
  rw [← wt_less hk hs, ← swV_yes (st_less (k := k) hok)]
  have := hok.1.1
  exact implSettingWeight_any v hi n Z v2 lo2 hi2 n _ w hv hh (by omega) hv2 hh2 (by omega)
theorem implWt_yes (v : Value) (hi n : Nat) (Z : Nat → Int) (v2 : Value) (lo2 hi2 : Nat) (sd : Nat → Int) (w : World) (hv : RdT 0 hi w v n Z) (hh : hi ≤ w.heap.size) (hok : StOk n Z n sd) (hv2 : RdI lo2 hi2 w v2 n sd) (hh2 : hi2 ≤ w.heap.size) :
    Calls Try.prog 16 #[v, v2] w (IntPost (wtK Z sd n) w) := by
  rw [← swV_yes hok]
  have := hok.1.1
  exact implSettingWeight_any v hi n Z v2 lo2 hi2 n _ w hv hh (by omega) hv2 hh2 (by omega)
theorem specWt_yes (v : Value) (lo hi n : Nat) (Z : Nat → Int) (v2 : Value) (lo2 hi2 : Nat) (sd : Nat → Int) (w : World) (hv : RdT lo hi w v n Z) (hh : hi ≤ w.heap.size) (hok : StOk n Z n sd) (hv2 : RdI lo2 hi2 w v2 n sd) (hh2 : hi2 ≤ w.heap.size) :
    Calls Try.prog 23 #[v, v2] w (IntPost (wtK Z sd n) w) := by
  rw [← swV_yes hok]
  have := hok.1.1
  exact specSettingWeight_any v lo hi n Z v2 lo2 hi2 n _ w hv hh (by omega) hv2 hh2 (by omega)
theorem implWt_no (v : Value) (hi n : Nat) (Z : Nat → Int) (v2 : Value) (lo2 hi2 m : Nat) (sd : Nat → Int) (w : World) (hv : RdT 0 hi w v n Z) (hh : hi ≤ w.heap.size) (hn : n ≤ 1000) (hm : m ≤ 1000) (hok : ¬ StOk n Z m sd) (hv2 : RdI lo2 hi2 w v2 m sd) (hh2 : hi2 ≤ w.heap.size) :
    Calls Try.prog 16 #[v, v2] w (IntPost (-1) w) := by
  rw [← swV_no hok]
  exact implSettingWeight_any v hi n Z v2 lo2 hi2 m _ w hv hh (by omega) hv2 hh2 (by omega)
theorem specWt_no (v : Value) (lo hi n : Nat) (Z : Nat → Int) (v2 : Value) (lo2 hi2 m : Nat) (sd : Nat → Int) (w : World) (hv : RdT lo hi w v n Z) (hh : hi ≤ w.heap.size) (hn : n ≤ 1000) (hm : m ≤ 1000) (hok : ¬ StOk n Z m sd) (hv2 : RdI lo2 hi2 w v2 m sd) (hh2 : hi2 ≤ w.heap.size) :
    Calls Try.prog 23 #[v, v2] w (IntPost (-1) w) := by
  rw [← swV_no hok]
  exact specSettingWeight_any v lo hi n Z v2 lo2 hi2 m _ w hv hh (by omega) hv2 hh2 (by omega)
theorem implBest_yes (v : Value) (hi n : Nat) (Z : Nat → Int) (w : World) (hv : RdT 0 hi w v n Z) (hh : hi ≤ w.heap.size) (hok : LsOk n Z) : Calls Try.prog 24 #[v] w (LgPost true n (bsG n Z) w) := by
  have h1 := implSettingBest_any v hi n Z w hv hh (by have := hok.1; omega)
  have e : lsN n Z = n := by unfold lsN; rw [lsB_yes hok]; rfl
  rw [lsB_yes hok, e] at h1
  exact h1
theorem implSv_yes (v : Value) (hi n : Nat) (Z : Nat → Int) (v2 : Value) (lo2 hi2 : Nat) (sd : Nat → Int) (w : World) (hv : RdT 0 hi w v n Z) (hh : hi ≤ w.heap.size) (hok : StOk n Z n sd) (hv2 : RdI lo2 hi2 w v2 n sd) (hh2 : hi2 ≤ w.heap.size) :
    Calls Try.prog 18 #[v, v2] w (BlPost true w) := by
  rw [← svB_yes hok]
  have := hok.1.1
  exact implSettingValid_any v hi n Z v2 lo2 hi2 n _ w hv hh (by omega) hv2 hh2 (by omega)
/-- the cell of a field -/
theorem RdT.field {lo hi : Nat} {w : World} {b cap n : Nat} {Z : Nat → Int} (h : RdT lo hi w (.slice (some ⟨b, 0, none⟩) n cap) n Z) {j : Nat} (hj : j < n * 4) : w.cell? ⟨b, j, none⟩ = some (.int .i64 (Z j)) ∧ b < hi := by
  obtain ⟨ao, cap', b', off, e, h2, h3, h4, h5, h6⟩ := h
  obtain ⟨rfl, _, hb⟩ := h5 (by omega)
  simp only [Value.slice.injEq, Option.some.injEq, Addr.mk.injEq, and_true, true_and] at e
  obtain ⟨⟨rfl, e2⟩, rfl⟩ := e
  have := h6 j hj
  rw [← e2, Nat.zero_add] at this
  exact ⟨this, hb⟩
theorem RdI.num {lo hi : Nat} {w : World} {b cap n : Nat} {Z : Nat → Int} (h : RdI lo hi w (.slice (some ⟨b, 0, none⟩) n cap) n Z) {j : Nat} (hj : j < n) : w.cell? ⟨b, j, none⟩ = some (.int .i64 (Z j)) ∧ b < hi ∧ n ≤ cap ∧ cap ≤ 9223372036854775807 := by
  obtain ⟨ao, cap', b', off, e, h2, h3, h4, h5, h6⟩ := h
  obtain ⟨rfl, _, hb⟩ := h5 (by omega)
  simp only [Value.slice.injEq, Option.some.injEq, Addr.mk.injEq, and_true, true_and] at e
  obtain ⟨⟨rfl, e2⟩, rfl⟩ := e
  have := h6 j hj
  rw [← e2, Nat.zero_add] at this
  exact ⟨this, hb, h2, h3⟩
theorem RdT.capT {lo hi : Nat} {w : World} {b cap n : Nat} {Z : Nat → Int} (h : RdT lo hi w (.slice (some ⟨b, 0, none⟩) n cap) n Z) : n ≤ cap ∧ cap ≤ 9223372036854775807 := by
  obtain ⟨ao, cap', b', off, e, h2, h3, _⟩ := h
  simp only [Value.slice.injEq] at e
  obtain ⟨_, _, rfl⟩ := e
  exact ⟨h2, h3⟩
end Go.Proofs.Ythelaffjpmcdbaa
