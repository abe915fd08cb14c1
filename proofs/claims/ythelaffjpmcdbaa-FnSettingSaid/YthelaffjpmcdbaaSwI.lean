/- Points and places that are taken: what is reckoned. -/
import Derived.Test.YthelaffjpmcdbaaSwH
import Derived.Test.YthelaffjpmcdbaaDrawSu
import Derived.Test.YthelaffjpmcdbaaLq
import Derived.Maps.AppendAt
namespace Go.Proofs.Ythelaffjpmcdbaa
open Go.RowKit
set_option linter.unusedVariables false

def ptI (Z : Nat → Int) (i : Nat) : Int := 10 * Z (i * 4 + 1) + Z (i * 4)
def ppI (Z sd : Nat → Int) (i : Nat) : Int := pcA (Z (i * 4)) (Z (i * 4 + 1)) (Z (i * 4 + 2)) (sd i)
def mmN (Z sd : Nat → Int) (i : Nat) : Nat := if sd i = -1 then 0 else wdN Z i
def usL (Z sd : Nat → Int) (n : Nat) : Nat → List Int
  | 0 => fnL (ptI Z) n
  | i + 1 => usL Z sd n i ++ plK (ppI Z sd i) (mmN Z sd i)
theorem mem_fnL {f : Nat → Int} {x : Int} : ∀ {n : Nat}, x ∈ fnL f n → ∃ p, p < n ∧ x = f p
  | 0, h => by cases h
  | n + 1, h => by
    simp only [fnL, List.mem_append, List.mem_singleton] at h
    rcases h with h | h
    · obtain ⟨p, h1, h2⟩ := mem_fnL h
      exact ⟨p, by omega, h2⟩
    · exact ⟨n, by omega, h⟩
theorem mem_plK {p x : Int} : ∀ {k : Nat}, x ∈ plK p k → p ≤ x ∧ x < p + k
  | 0, h => by cases h
  | k + 1, h => by
    simp only [plK, List.mem_append, List.mem_singleton] at h
    rcases h with h | h
    · have := mem_plK h; omega
    · omega
theorem seat_pp {n : Nat} {Z sd : Nat → Int} (h : StOk n Z n sd) {i : Nat} (hi : i < n) (hs : sd i ≠ -1) : Seat Z n sd i ∧ ppI Z sd i = (atA Z i (sd i) : Int) ∧ wdN Z i ≤ 5 ∧ atA Z i (sd i) + wdN Z i ≤ 100 := by
  have h1 := (stOk_iff.1 h).2.2 i hi
  have hst := h1.resolve_left hs
  obtain ⟨ea, ⟨hw1, hw2⟩, ha, hwz⟩ := at_facts (h.1.2 i hi) hst.2.1
  refine ⟨hst, ?_, by omega, by omega⟩
  exact ea.symm
theorem us_mem {n : Nat} {Z sd : Nat → Int} (h : StOk n Z n sd) {x : Int} : ∀ {i : Nat}, i ≤ n → x ∈ usL Z sd n i → (∃ p, p < n ∧ x = ptI Z p) ∨ ∃ l, l < i ∧ sd l ≠ -1 ∧ ppI Z sd l ≤ x ∧ x < ppI Z sd l + wdN Z l
  | 0, _, hx => Or.inl (mem_fnL hx)
  | i + 1, hi, hx => by
    simp only [usL, List.mem_append] at hx
    rcases hx with hx | hx
    · rcases us_mem h (by omega) hx with h1 | ⟨l, h1, h2⟩
      · exact Or.inl h1
      · exact Or.inr ⟨l, by omega, h2⟩
    · have h1 := mem_plK hx
      unfold mmN at h1
      by_cases e : sd i = -1
      · rw [if_pos e] at h1; omega
      · rw [if_neg e] at h1
        exact Or.inr ⟨i, by omega, e, h1.1, h1.2⟩
theorem us_new {n : Nat} {Z sd : Nat → Int} (h : StOk n Z n sd) {i k : Nat} (hi : i < n) (hk : k < mmN Z sd i) : ¬ (ppI Z sd i + k) ∈ usL Z sd n i ++ plK (ppI Z sd i) k := by
  have hs : sd i ≠ -1 := by
    intro e
    unfold mmN at hk
    rw [if_pos e] at hk
    omega
  have hk2 : k < wdN Z i := by unfold mmN at hk; rwa [if_neg hs] at hk
  obtain ⟨hst, hp, _, _⟩ := seat_pp h hi hs
  obtain ⟨g1, g2⟩ := hst.2.2 (atA Z i (sd i) + k) ⟨by omega, by omega⟩
  intro hx
  rcases List.mem_append.1 hx with hx | hx
  · rcases us_mem h (by omega) hx with ⟨p, h1, h2⟩ | ⟨l, h1, h2, h3, h4⟩
    · have hl := (h.1.2 p h1).1
      have b0 := hl.1
      have b1 := hl.2.1
      refine g1 p h1 ?_
      unfold ptN
      unfold ptI at h2
      omega
    · obtain ⟨_, hpl, _, _⟩ := seat_pp h (show l < n by omega) h2
      exact g2 l h1 h2 ⟨by omega, by omega⟩
  · have := mem_plK hx
    omega
theorem us_len {n : Nat} {Z sd : Nat → Int} (h : StOk n Z n sd) : ∀ i, i ≤ n → (usL Z sd n i).length ≤ n + 5 * i
  | 0, _ => by show (fnL (ptI Z) n).length ≤ _; rw [fnL_len]; omega
  | i + 1, hi => by
    have ih := us_len h i (by omega)
    show (usL Z sd n i ++ plK (ppI Z sd i) (mmN Z sd i)).length ≤ _
    rw [List.length_append, plK_len]
    have : mmN Z sd i ≤ 5 := by
      unfold mmN
      by_cases e : sd i = -1
      · rw [if_pos e]; omega
      · rw [if_neg e]; exact (seat_pp h (by omega) e).2.2.1
    omega
theorem mm_le {n : Nat} {Z sd : Nat → Int} (h : StOk n Z n sd) {i : Nat} (hi : i < n) : mmN Z sd i ≤ 5 := by
  unfold mmN
  by_cases e : sd i = -1
  · rw [if_pos e]; omega
  · rw [if_neg e]; exact (seat_pp h (by omega) e).2.2.1
theorem pp_range {n : Nat} {Z sd : Nat → Int} (h : StOk n Z n sd) {i : Nat} (hi : i < n) (hm : 0 < mmN Z sd i) : 0 ≤ ppI Z sd i ∧ ppI Z sd i + mmN Z sd i ≤ 100 := by
  have hs : sd i ≠ -1 := by
    intro e
    unfold mmN at hm
    rw [if_pos e] at hm
    omega
  obtain ⟨_, h1, _, h3⟩ := seat_pp h hi hs
  unfold mmN
  rw [if_neg hs]
  omega
theorem us_ok {n : Nat} {Z sd : Nat → Int} (h : StOk n Z n sd) {i k : Nat} (hi : i < n) (hk : k ≤ mmN Z sd i) : NsOk (usL Z sd n i ++ plK (ppI Z sd i) k) := by
  intro x hx
  rcases List.mem_append.1 hx with hx | hx
  · rcases us_mem h (by omega) hx with ⟨p, h1, h2⟩ | ⟨l, h1, h2, h3, h4⟩
    · have hl := (h.1.2 p h1).1
      have b0 := hl.1
      have b1 := hl.2.1
      unfold ptI at h2
      omega
    · obtain ⟨_, hpl, hw, _⟩ := seat_pp h (show l < n by omega) h2
      have hq := (seat_pp h (show l < n by omega) h2).2.2.2
      omega
  · have h1 := mem_plK hx
    have := pp_range h hi (by omega)
    omega
theorem lp_is {n : Nat} {Z sd : Nat → Int} (h : StOk n Z n sd) {i : Nat} (hi : i < n) : lpB (Z (i * 4)) (Z (i * 4 + 1)) (Z (i * 4 + 2)) (Z (i * 4 + 3)) (sd i) = decide (0 ≤ sd i) ∧ lpL (Z (i * 4)) (Z (i * 4 + 1)) (Z (i * 4 + 2)) (Z (i * 4 + 3)) (sd i) = plK (ppI Z sd i) (mmN Z sd i) := by
  have hl := (h.1.2 i hi).1
  unfold lpB lpL pcB pcM mmN
  rw [lbB_yes hl]
  by_cases e : sd i = -1
  · rw [if_pos rfl, if_neg (by omega), if_pos e]
    refine ⟨?_, rfl⟩
    have h1 : ¬ (0 ≤ sd i) := by omega
    simp [h1]
  · obtain ⟨hst, _⟩ := seat_pp h hi e
    have h0 : (0 ≤ sd i ∧ sd i ≤ 3) ∧ PcOk (Z (i * 4)) (Z (i * 4 + 1)) (Z (i * 4 + 2)) (sd i) := ⟨hst.1, hst.2.1⟩
    rw [if_pos rfl, if_pos h0, if_neg e]
    refine ⟨?_, rfl⟩

    simp [h0]
theorem less_ok {n : Nat} {Z sd : Nat → Int} (h : StOk n Z n sd) (k : Nat) : StOk n Z n (setZ sd k (-1)) := by
  rw [stOk_iff] at h ⊢
  exact ⟨h.1, rfl, (h.2.2.less (k := k)).congr (fun j _ => rfl)⟩
theorem implSv_no (v : Value) (hi n : Nat) (Z : Nat → Int) (v2 : Value) (lo2 hi2 m : Nat) (sd : Nat → Int) (w : World) (hv : RdT 0 hi w v n Z) (hh : hi ≤ w.heap.size) (hn : n ≤ 1000) (hm : m ≤ 1000) (hok : ¬ StOk n Z m sd) (hv2 : RdI lo2 hi2 w v2 m sd) (hh2 : hi2 ≤ w.heap.size) :
    Calls Try.prog 18 #[v, v2] w (BlPost false w) := by
  rw [← svB_no hok]
  exact implSettingValid_any v hi n Z v2 lo2 hi2 m _ w hv hh (by omega) hv2 hh2 (by omega)
theorem specSv_no (v : Value) (lo hi n : Nat) (Z : Nat → Int) (v2 : Value) (lo2 hi2 m : Nat) (sd : Nat → Int) (w : World) (hv : RdT lo hi w v n Z) (hh : hi ≤ w.heap.size) (hn : n ≤ 1000) (hm : m ≤ 1000) (hok : ¬ StOk n Z m sd) (hv2 : RdI lo2 hi2 w v2 m sd) (hh2 : hi2 ≤ w.heap.size) :
    Calls Try.prog 19 #[v, v2] w (BlPost false w) := by
  rw [← svB_no hok]
  exact specSettingValid_any v lo hi n Z v2 lo2 hi2 m _ w hv hh (by omega) hv2 hh2 (by omega)
theorem specSv_yes (v : Value) (lo hi n : Nat) (Z : Nat → Int) (v2 : Value) (lo2 hi2 : Nat) (sd : Nat → Int) (w : World) (hv : RdT lo hi w v n Z) (hh : hi ≤ w.heap.size) (hok : StOk n Z n sd) (hv2 : RdI lo2 hi2 w v2 n sd) (hh2 : hi2 ≤ w.heap.size) :
    Calls Try.prog 19 #[v, v2] w (BlPost true w) := by
  rw [← svB_yes hok]
  have := hok.1.1
  exact specSettingValid_any v lo hi n Z v2 lo2 hi2 n _ w hv hh (by omega) hv2 hh2 (by omega)
/-- the block of the places, if there are any -/
theorem places_pin {P0 m : Nat} {w : World} {v : Value} {p : Int} (h : Nums P0 w v (plK p m)) (hr : 0 < m → 0 ≤ p ∧ p + m ≤ 100) : ∃ bp, P0 ≤ bp ∧ (0 < m → bp < w.heap.size) ∧ RdI bp (bp + 1) w v m (fun k => p + k) := by
  have hok : NsOk (plK p m) := fun x hx => by
    have h1 := mem_plK hx
    have := hr (by omega)
    omega
  have hrd := (Nums.owI h hok).rd
  rw [plK_len] at hrd
  have hrd2 : RdI P0 w.heap.size w v m (fun k => p + k) := hrd.congr (fun k hk => plK_at p m k hk)
  by_cases h0 : 0 < m
  · obtain ⟨b, h1, h2, h3, h4⟩ := hrd2.pin h0
    exact ⟨b, h1, fun _ => h3, h4⟩
  · refine ⟨P0, Nat.le_refl _, fun h => absurd h h0, ?_⟩
    obtain ⟨ao, cap, b, off, a1, a2, a3, a4, a5, a6⟩ := hrd2
    exact ⟨ao, cap, b, off, a1, a2, a3, a4, fun h => absurd h h0, a6⟩
end Go.Proofs.Ythelaffjpmcdbaa
