/- Settings in mathematics: maps of places, a label set, all settings one after the other. -/
import Derived.Test.YthelaffjpmcdbaaLp
namespace Go.Proofs.Ythelaffjpmcdbaa
open Go.RowKit
set_option linter.unusedVariables false

/-- the points of the first k labels -/
def mpK (Z : Nat → Int) : Nat → Nat → Int
  | 0 => fun _ => 0
  | k + 1 => fun j => if j = (10 * Z (k * 4 + 1) + Z (k * 4)).toNat then -1 else mpK Z k j
/-- label k's first place at a side, and its width -/
def atA (Z : Nat → Int) (k : Nat) (s : Int) : Nat := (pcA (Z (k * 4)) (Z (k * 4 + 1)) (Z (k * 4 + 2)) s).toNat
def wdN (Z : Nat → Int) (k : Nat) : Nat := (Z (k * 4 + 2)).toNat
def PcZ (Z : Nat → Int) (k : Nat) (s : Int) : Prop := PcOk (Z (k * 4)) (Z (k * 4 + 1)) (Z (k * 4 + 2)) s
/-- label k can be set at a side of a map -/
def Fit (Z : Nat → Int) (M : Nat → Int) (k : Nat) (s : Int) : Prop := (0 ≤ s ∧ s ≤ 3) ∧ PcZ Z k s ∧ ∀ i, i < wdN Z k → M (atA Z k s + i) = 0
/-- the map with it -/
def stp (Z : Nat → Int) (M : Nat → Int) (k : Nat) (s : Int) (j : Nat) : Int := if atA Z k s ≤ j ∧ j < atA Z k s + wdN Z k then (k : Int) + 1 else M j
/-- sides with one more -/
def upS (sd : Nat → Int) (k : Nat) (s : Int) (i : Nat) : Int := if i = k then s else sd i

theorem at_facts {Z : Nat → Int} {k : Nat} {s : Int} (h : LzOk Z k) (hp : PcZ Z k s) :
    (atA Z k s : Int) = pcA (Z (k * 4)) (Z (k * 4 + 1)) (Z (k * 4 + 2)) s ∧ (1 ≤ wdN Z k ∧ wdN Z k ≤ 5) ∧ atA Z k s + wdN Z k ≤ 100 ∧ (wdN Z k : Int) = Z (k * 4 + 2) := by
  have ha := h.1.2.2.1
  unfold PcZ PcOk at hp
  have e : 0 ≤ pcA (Z (k * 4)) (Z (k * 4 + 1)) (Z (k * 4 + 2)) s := by unfold pcA; omega
  have e2 : pcA (Z (k * 4)) (Z (k * 4 + 1)) (Z (k * 4 + 2)) s + Z (k * 4 + 2) ≤ 100 := by unfold pcA; omega
  unfold atA wdN
  omega
theorem point_facts {Z : Nat → Int} {k : Nat} (h : LzOk Z k) : ∃ p : Nat, 10 * Z (k * 4 + 1) + Z (k * 4) = p ∧ p < 100 ∧ (10 * Z (k * 4 + 1) + Z (k * 4)).toNat = p := by
  have h1 := h.1.1
  have h2 := h.1.2.1
  exact ⟨(10 * Z (k * 4 + 1) + Z (k * 4)).toNat, by omega, by omega, rfl⟩

/-- a map's numbers -/
def MpOk (M : Nat → Int) : Prop := ∀ j, -1 ≤ M j ∧ M j ≤ 6
theorem mpK_ok (Z : Nat → Int) (k : Nat) : MpOk (mpK Z k) := by
  induction k with
  | zero => intro j; exact ⟨by show (-1 : Int) ≤ 0; omega, by show (0 : Int) ≤ 6; omega⟩
  | succ k ih =>
    intro j
    simp only [mpK]
    split
    · omega
    · exact ih j
theorem stp_ok {Z M : Nat → Int} {k : Nat} {s : Int} (h : MpOk M) (hk : k < 6) : MpOk (stp Z M k s) := by
  intro j
  unfold stp
  split
  · omega
  · exact h j

/-- the bytes of a map -/
def mkB (m : Int) : Int := if m = 0 then 46 else if m < 0 then 42 else 47 + m
theorem mkB_free {m : Int} (h : -1 ≤ m ∧ m ≤ 6) : mkB m = 46 ↔ m = 0 := by unfold mkB; split <;> (try split) <;> omega

noncomputable def ftB (Z M : Nat → Int) (k : Nat) (s : Int) : Bool := @decide (Fit Z M k s) (Classical.propDecidable _)
theorem ftB_yes {Z M : Nat → Int} {k : Nat} {s : Int} (h : Fit Z M k s) : ftB Z M k s = true := by simp [ftB, h]
theorem ftB_no {Z M : Nat → Int} {k : Nat} {s : Int} (h : ¬ Fit Z M k s) : ftB Z M k s = false := by simp [ftB, h]

/-- the settings with label k at the first s sides, and so on by a rule -/
noncomputable def en1 (Z : Nat → Int) (k : Nat) (sd M : Nat → Int) (r : (Nat → Int) → (Nat → Int) → List (Nat → Int)) : Nat → List (Nat → Int)
  | 0 => []
  | s + 1 => en1 Z k sd M r s ++ (if ftB Z M k (s : Int) = true then r (upS sd k s) (stp Z M k s) else [])
/-- all settings of the labels from k on (f of them), in order, with the sides so far -/
noncomputable def en (Z : Nat → Int) : Nat → Nat → (Nat → Int) → (Nat → Int) → List (Nat → Int)
  | 0, _, sd, _ => [sd]
  | f + 1, k, sd, M => en1 Z k sd M (en Z f (k + 1)) 4 ++ en Z f (k + 1) sd M

/-- how many there are -/
noncomputable def ct1 (Z : Nat → Int) (k : Nat) (M : Nat → Int) (r : (Nat → Int) → Nat) : Nat → Nat
  | 0 => 0
  | s + 1 => ct1 Z k M r s + (if ftB Z M k (s : Int) = true then r (stp Z M k s) else 0)
noncomputable def ct (Z : Nat → Int) : Nat → Nat → (Nat → Int) → Nat
  | 0, _, _ => 1
  | f + 1, k, M => ct Z f (k + 1) M + ct1 Z k M (ct Z f (k + 1)) 4
theorem en1_len (Z : Nat → Int) (k : Nat) (sd M : Nat → Int) (r : (Nat → Int) → (Nat → Int) → List (Nat → Int)) (c : (Nat → Int) → Nat) (h : ∀ sd M, (r sd M).length = c M) : ∀ s, (en1 Z k sd M r s).length = ct1 Z k M c s := by
  intro s
  induction s with
  | zero => rfl
  | succ s ih =>
    simp only [en1, ct1, List.length_append, ih]
    split
    · rw [h]
    · rfl
theorem en_len (Z : Nat → Int) : ∀ f k sd M, (en Z f k sd M).length = ct Z f k M := by
  intro f
  induction f with
  | zero => intro k sd M; rfl
  | succ f ih =>
    intro k sd M
    simp only [en, ct, List.length_append, ih]
    rw [en1_len Z k sd M _ _ (fun sd M => ih (k + 1) sd M)]
    omega
theorem ct1_le (Z : Nat → Int) (k : Nat) (M : Nat → Int) (c : (Nat → Int) → Nat) (B : Nat) (h : ∀ M, c M ≤ B) : ∀ s, ct1 Z k M c s ≤ s * B := by
  intro s
  induction s with
  | zero => simp [ct1]
  | succ s ih =>
    simp only [ct1]
    have := h (stp Z M k s)
    rw [Nat.add_mul]
    split <;> omega
theorem ct_le (Z : Nat → Int) : ∀ f k M, ct Z f k M ≤ 5 ^ f := by
  intro f
  induction f with
  | zero => intro k M; simp [ct]
  | succ f ih =>
    intro k M
    have h1 := ih (k + 1) M
    have h2 := ct1_le Z k M (ct Z f (k + 1)) (5 ^ f) (fun M => ih (k + 1) M) 4
    simp only [ct]
    rw [Nat.pow_succ]
    omega
theorem ct_small (Z : Nat → Int) (f k : Nat) (M : Nat → Int) (hf : f ≤ 6) : ct Z f k M ≤ 15625 := Nat.le_trans (ct_le Z f k M) (Nat.pow_le_pow_right (n := 5) (by omega) hf)

end Go.Proofs.Ythelaffjpmcdbaa
