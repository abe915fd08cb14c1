/- The contracts of labels and settings, without 'if'; some settings and their number. -/
import Derived.Test.YthelaffjpmcdbaaSvM
import Derived.Test.YthelaffjpmcdbaaNumK
import Derived.Test.YthelaffjpmcdbaaStE
import Derived.Test.YthelaffjpmcdbaaStL
import Derived.Test.YthelaffjpmcdbaaDrawLc
namespace Go.Proofs.Ythelaffjpmcdbaa
open Go.RowKit
set_option linter.unusedVariables false

theorem own_nums {B n : Nat} {w : World} {v : Value} {Z : Nat → Int} (h : Nums B w v (fnL Z n)) (hz : ∀ i, i < n → -9223372036854775808 ≤ Z i ∧ Z i ≤ 9223372036854775807) : OwI B w.heap.size w v n Z := by
  refine cp_own ?_ hz
  have h2 := h
  unfold Nums at h2
  rw [fnL_len] at h2
  rw [Nat.zero_add, List.nil_append]
  exact h2
theorem nums_more {B n : Nat} {w : World} {v : Value} {Z : Nat → Int} {x : Int} (h : w.ownsRow B 3 1 v (n + 1) (nsV (fnL Z n) ++ [.int .i64 x])) (hx : x = Z n) : Nums B w v (fnL Z (n + 1)) := by
  subst hx
  have h2 := nums_push (L := fnL Z n) (x := Z n) (by rw [fnL_len]; exact h)
  exact h2
theorem nums_own {B n : Nat} {w : World} {v : Value} {Z : Nat → Int} (h : Nums B w v (fnL Z n)) : w.ownsRow B 3 1 v n (nsV (fnL Z n)) := by
  have h2 := h
  unfold Nums at h2
  rw [fnL_len] at h2
  exact h2
theorem nums_shape {B n : Nat} {w : World} {v : Value} {Z : Nat → Int} (h : Nums B w v (fnL Z n)) : ∃ a c, v = .slice a n c := by
  obtain ⟨a, c, e⟩ := h.shape
  rw [fnL_len] at e
  exact ⟨a, c, e⟩

theorem implLs_no (v : Value) (lo hi n : Nat) (Z : Nat → Int) (w : World) (hv : RdT lo hi w v n Z) (hh : hi ≤ w.heap.size) (hn : n ≤ 1000) (h : ¬ LsOk n Z) : Calls Try.prog 14 #[v] w (BlPost false w) := by
  rw [← lsB_no h]; exact implLabelsValid_any v lo hi n Z w hv hh (by omega)
theorem specLs_no (v : Value) (lo hi n : Nat) (Z : Nat → Int) (w : World) (hv : RdT lo hi w v n Z) (hh : hi ≤ w.heap.size) (hn : n ≤ 1000) (h : ¬ LsOk n Z) : Calls Try.prog 15 #[v] w (BlPost false w) := by
  rw [← lsB_no h]; exact specLabelsValid_any v lo hi n Z w hv hh (by omega)
theorem implLs_yes (v : Value) (lo hi n : Nat) (Z : Nat → Int) (w : World) (hv : RdT lo hi w v n Z) (hh : hi ≤ w.heap.size) (hn : n ≤ 1000) (h : LsOk n Z) : Calls Try.prog 14 #[v] w (BlPost true w) := by
  rw [← lsB_yes h]; exact implLabelsValid_any v lo hi n Z w hv hh (by omega)
theorem specLs_yes (v : Value) (lo hi n : Nat) (Z : Nat → Int) (w : World) (hv : RdT lo hi w v n Z) (hh : hi ≤ w.heap.size) (hn : n ≤ 1000) (h : LsOk n Z) : Calls Try.prog 15 #[v] w (BlPost true w) := by
  rw [← lsB_yes h]; exact specLabelsValid_any v lo hi n Z w hv hh (by omega)
theorem implMany_no (v : Value) (hi n : Nat) (Z : Nat → Int) (w : World) (hv : RdT 0 hi w v n Z) (hh : hi ≤ w.heap.size) (hn : n ≤ 1000) (h : ¬ LsOk n Z) : Calls Try.prog 26 #[v] w (IntPost (-1) w) := by
  have h1 := implSettingMany_any v hi n Z w hv hh (by omega)
  have e : smV n Z = -1 := by unfold smV; rw [lsB_no h]; rfl
  rw [e] at h1
  exact h1
theorem specMany_no (v : Value) (hi n : Nat) (Z : Nat → Int) (w : World) (hv : RdT 0 hi w v n Z) (hh : hi ≤ w.heap.size) (hn : n ≤ 1000) (h : ¬ LsOk n Z) : Calls Try.prog 27 #[v] w (IntPost (-1) w) := by
  have h1 := specSettingMany_any v 0 hi n Z w hv hh (by omega)
  have e : smV n Z = -1 := by unfold smV; rw [lsB_no h]; rfl
  rw [e] at h1
  exact h1
theorem implMany_yes (v : Value) (hi n : Nat) (Z : Nat → Int) (m : Nat) (em : ct Z n 0 (mpK Z n) = m) (w : World) (hv : RdT 0 hi w v n Z) (hh : hi ≤ w.heap.size) (hn : n ≤ 1000) (h : LsOk n Z) : Calls Try.prog 26 #[v] w (IntPost m w) := by
  have h1 := implSettingMany_any v hi n Z w hv hh (by omega)
  have e : smV n Z = m := by unfold smV; rw [lsB_yes h, ← em]; rfl
  rw [e] at h1
  exact h1
theorem specMany_yes (v : Value) (hi n : Nat) (Z : Nat → Int) (m : Nat) (em : ct Z n 0 (mpK Z n) = m) (w : World) (hv : RdT 0 hi w v n Z) (hh : hi ≤ w.heap.size) (hn : n ≤ 1000) (h : LsOk n Z) : Calls Try.prog 27 #[v] w (IntPost m w) := by
  have h1 := specSettingMany_any v 0 hi n Z w hv hh (by omega)
  have e : smV n Z = m := by unfold smV; rw [lsB_yes h, ← em]; rfl
  rw [e] at h1
  exact h1

/-! One label alone, label by label and side by side. -/
noncomputable def smq (Z M : Nat → Int) : Nat → Nat → Bool
  | 0, 0 => false
  | i + 1, 0 => smq Z M i 4
  | i, s + 1 => smq Z M i s || ftB Z M i (s : Int)
termination_by i s => (i, s)
theorem smq_next (Z M : Nat → Int) (i : Nat) : smq Z M (i + 1) 0 = smq Z M i 4 := by rw [smq]
theorem smq_step (Z M : Nat → Int) (i s : Nat) : smq Z M i (s + 1) = (smq Z M i s || ftB Z M i (s : Int)) := by
  cases i <;> rw [smq]
theorem smq_zero (Z M : Nat → Int) : smq Z M 0 0 = false := by rw [smq]
theorem ftB_iff {Z M : Nat → Int} {i : Nat} {s : Int} : ftB Z M i s = true ↔ Fit Z M i s := by unfold ftB; simp
theorem smq_in (Z M : Nat → Int) (i : Nat) : ∀ s, (smq Z M i s = true ↔ smq Z M i 0 = true ∨ ∃ t : Nat, t < s ∧ Fit Z M i t)
  | 0 => ⟨Or.inl, fun h => h.resolve_right (fun ⟨t, h, _⟩ => by omega)⟩
  | s + 1 => by
    rw [smq_step, Bool.or_eq_true, smq_in Z M i s, ftB_iff]
    constructor
    · rintro ((h | ⟨t, h1, h2⟩) | h)
      · exact Or.inl h
      · exact Or.inr ⟨t, by omega, h2⟩
      · exact Or.inr ⟨s, by omega, h⟩
    · rintro (h | ⟨t, h1, h2⟩)
      · exact Or.inl (Or.inl h)
      · by_cases e : t = s
        · rw [e] at h2; exact Or.inr h2
        · exact Or.inl (Or.inr ⟨t, by omega, h2⟩)
theorem smq_row (Z M : Nat → Int) : ∀ i, (smq Z M i 0 = true ↔ ∃ k, k < i ∧ ∃ t : Nat, t < 4 ∧ Fit Z M k t)
  | 0 => by rw [smq_zero]; exact ⟨fun h => (by cases h), fun ⟨k, h, _⟩ => (by omega)⟩
  | i + 1 => by
    rw [smq_next, smq_in, smq_row Z M i]
    constructor
    · rintro (⟨k, h1, h2⟩ | ⟨t, h1, h2⟩)
      · exact ⟨k, by omega, h2⟩
      · exact ⟨i, by omega, t, h1, h2⟩
    · rintro ⟨k, h1, h2⟩
      by_cases e : k = i
      · rw [e] at h2; exact Or.inr h2
      · exact Or.inl ⟨k, by omega, h2⟩
theorem smq_all (Z : Nat → Int) (n : Nat) : smq Z (mpK Z n) n 0 = decide (1 < ct Z n 0 (mpK Z n)) := by
  have h : smq Z (mpK Z n) n 0 = true ↔ 1 < ct Z n 0 (mpK Z n) := by
    rw [smq_row, ct_some]
    exact ⟨fun ⟨k, h1, h2⟩ => ⟨k, by omega, by omega, h2⟩, fun ⟨k, h1, h2, h3⟩ => ⟨k, by omega, h3⟩⟩
  by_cases hc : 1 < ct Z n 0 (mpK Z n)
  · rw [h.2 hc, decide_eq_true hc]
  · rw [decide_eq_false hc]
    cases g : smq Z (mpK Z n) n 0 with
    | false => rfl
    | true => exact absurd (h.1 g) hc
theorem svB_one {Z : Nat → Int} {n i s : Nat} (h : LsOk n Z) (hi : i < n) : svB n Z n (setZ (fun _ => -1) i (s : Int)) = ftB Z (mpK Z n) i s := by
  have h1 := one_ok (s := (s : Int)) h hi (by omega)
  have e : setZ (fun _ => -1) i (s : Int) = fun j => if j = i then (s : Int) else -1 := rfl
  rw [← e] at h1
  by_cases hf : Fit Z (mpK Z n) i s
  · rw [ftB_yes hf, svB_yes (h1.2 hf)]
  · rw [ftB_no hf, svB_no (fun k => hf (h1.1 k))]
theorem implSet_one (v : Value) (hi n : Nat) (Z : Nat → Int) (v2 : Value) (lo2 hi2 i s : Nat) (w : World) (hv : RdT 0 hi w v n Z) (hh : hi ≤ w.heap.size) (hok : LsOk n Z) (hi' : i < n) (hv2 : RdI lo2 hi2 w v2 n (setZ (fun _ => -1) i (s : Int))) (hh2 : hi2 ≤ w.heap.size) :
    Calls Try.prog 18 #[v, v2] w (BlPost (ftB Z (mpK Z n) i s) w) := by
  rw [← svB_one hok hi']
  have := hok.1
  exact implSettingValid_any v hi n Z v2 lo2 hi2 n _ w hv hh (by omega) hv2 hh2 (by omega)
/-- powers of five -/
def pw5 : Nat → Int
  | 0 => 1
  | i + 1 => 5 * pw5 i
theorem pw5_is : ∀ i, pw5 i = ((5 ^ i : Nat) : Int)
  | 0 => rfl
  | i + 1 => by show 5 * pw5 i = _; rw [pw5_is i, Nat.pow_succ]; omega
theorem pw5_range {i : Nat} (h : i ≤ 6) : 1 ≤ pw5 i ∧ pw5 i ≤ 15625 := by
  have : i = 0 ∨ i = 1 ∨ i = 2 ∨ i = 3 ∨ i = 4 ∨ i = 5 ∨ i = 6 := by omega
  rcases this with rfl | rfl | rfl | rfl | rfl | rfl | rfl <;> decide
theorem ct_pw (Z : Nat → Int) (n : Nat) (M : Nat → Int) : (ct Z n 0 M : Int) ≤ pw5 n := by
  rw [pw5_is]; exact Int.ofNat_le.2 (ct_le Z n 0 M)
end Go.Proofs.Ythelaffjpmcdbaa
