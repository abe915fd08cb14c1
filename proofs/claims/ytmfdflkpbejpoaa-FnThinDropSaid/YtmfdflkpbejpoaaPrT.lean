/- Profiles of the model: seen points, pairs, the eye, the hull and the best point. -/
import Derived.Test.YtmfdflkpbejpoaaPrS
namespace Go.Proofs.Ytmfdflkpbejpoaa
open Go.RowKit
set_option linter.unusedVariables false

/-- whether two points of a profile see each other -/
def SsOk (n : Nat) (z : Nat → Int) (i k : Int) : Prop := (PrAt n z i ∧ PrAt n z k) ∧ Sees z i.toNat k.toNat 0
noncomputable def ssB (n : Nat) (z : Nat → Int) (i k : Int) : Bool := @decide (SsOk n z i k) (Classical.propDecidable _)
theorem ssB_yes {n : Nat} {z : Nat → Int} {i k : Int} (h : SsOk n z i k) : ssB n z i k = true := by simp [ssB, h]
theorem ssB_no {n : Nat} {z : Nat → Int} {i k : Int} (h : ¬ SsOk n z i k) : ssB n z i k = false := by simp [ssB, h]
theorem ssB_at {n : Nat} {z : Nat → Int} (i k : Nat) (h : PrOk n z) (hi : i < n) (hk : k < n) : ssB n z i k = seB z i k 0 := by
  have h1 : PrAt n z i := ⟨h, by omega, by omega⟩
  have h2 : PrAt n z k := ⟨h, by omega, by omega⟩
  by_cases g : Sees z i k 0
  · rw [seB_yes g, ssB_yes ⟨⟨h1, h2⟩, g⟩]
  · rw [seB_no g, ssB_no (fun x => g x.2)]
theorem PrAt.nat {n : Nat} {z : Nat → Int} {i : Int} (h : PrAt n z i) : ∃ x : Nat, i = (x : Int) ∧ x < n := ⟨i.toNat, by have := h.2; omega, by have := h.2; omega⟩

open Classical in
noncomputable def snV (n : Nat) (z : Nat → Int) (i : Int) : List Int := if PrAt n z i then snL z i.toNat n else []
theorem snV_yes {n : Nat} {z : Nat → Int} {i : Nat} (h : PrAt n z i) : snV n z i = snL z i n := by unfold snV; rw [if_pos h]; rfl
theorem snV_no {n : Nat} {z : Nat → Int} {i : Int} (h : ¬ PrAt n z i) : snV n z i = [] := by unfold snV; rw [if_neg h]
theorem snV_ok (n : Nat) (z : Nat → Int) (i : Int) (hn : n ≤ 1048576) : NsOk (snV n z i) := by
  by_cases h : PrAt n z i
  · unfold snV; rw [if_pos h]; exact snL_ok z _ n (by have := h.1.1.2; omega)
  · rw [snV_no h]; intro x hx; simp at hx
theorem snV_len (n : Nat) (z : Nat → Int) (i : Int) : (snV n z i).length ≤ n := by
  by_cases h : PrAt n z i
  · unfold snV; rw [if_pos h]; exact snL_len z _ n
  · rw [snV_no h]; simp

open Classical in
noncomputable def ppV (n : Nat) (z : Nat → Int) : Int := if PrOk n z then prN z n else -1
theorem ppV_yes {n : Nat} {z : Nat → Int} (h : PrOk n z) : ppV n z = prN z n := by unfold ppV; rw [if_pos h]
theorem ppV_no {n : Nat} {z : Nat → Int} (h : ¬ PrOk n z) : ppV n z = -1 := by unfold ppV; rw [if_neg h]

/-- the least height of an eye -/
def IsEye (z : Nat → Int) (i k : Nat) (m : Int) : Prop := (0 ≤ m ∧ m ≤ 50 ∧ Sees z i k m ∧ ∀ e, 0 ≤ e → e < m → ¬ Sees z i k e) ∨ (m = -1 ∧ ∀ e, 0 ≤ e → e ≤ 50 → ¬ Sees z i k e)
theorem isEye_one {z : Nat → Int} {i k : Nat} {a b : Int} (ha : IsEye z i k a) (hb : IsEye z i k b) : a = b := by
  rcases ha with ⟨a1, a2, a3, a4⟩ | ⟨a1, a2⟩
  · rcases hb with ⟨b1, b2, b3, b4⟩ | ⟨b1, b2⟩
    · by_cases h1 : a < b
      · exact absurd a3 (b4 a a1 h1)
      · by_cases h2 : b < a
        · exact absurd b3 (a4 b b1 h2)
        · omega
    · exact absurd a3 (b2 a a1 a2)
  · rcases hb with ⟨b1, b2, b3, b4⟩ | ⟨b1, b2⟩
    · exact absurd b3 (a2 b b1 b2)
    · omega
open Classical in
noncomputable def eyV (n : Nat) (z : Nat → Int) (i k : Int) : Int := if h : (PrAt n z i ∧ PrAt n z k) ∧ ∃ m, IsEye z i.toNat k.toNat m then h.2.choose else -1
theorem eyV_no {n : Nat} {z : Nat → Int} {i k : Int} (h : ¬ (PrAt n z i ∧ PrAt n z k)) : eyV n z i k = -1 := by
  unfold eyV
  rw [dif_neg (fun g => h g.1)]
theorem eyV_is {n : Nat} {z : Nat → Int} {i k : Nat} {m : Int} (h1 : PrAt n z i) (h2 : PrAt n z k) (h : IsEye z i k m) : eyV n z i k = m := by
  have hx : (PrAt n z (i : Int) ∧ PrAt n z (k : Int)) ∧ ∃ m, IsEye z (i : Int).toNat (k : Int).toNat m := ⟨⟨h1, h2⟩, m, h⟩
  unfold eyV
  rw [dif_pos hx]
  exact isEye_one hx.2.choose_spec h

open Classical in
noncomputable def hlV (n : Nat) (z : Nat → Int) : List Int := if PrOk n z then huL n z n else []
theorem hlV_yes {n : Nat} {z : Nat → Int} (h : PrOk n z) : hlV n z = huL n z n := by unfold hlV; rw [if_pos h]
theorem hlV_no {n : Nat} {z : Nat → Int} (h : ¬ PrOk n z) : hlV n z = [] := by unfold hlV; rw [if_neg h]
theorem hlV_ok (n : Nat) (z : Nat → Int) : NsOk (hlV n z) := by
  by_cases h : PrOk n z
  · rw [hlV_yes h]; exact huL_ok n z n (by have := h.1.2; omega)
  · rw [hlV_no h]; intro x hx; simp at hx
theorem hlV_len (n : Nat) (z : Nat → Int) : (hlV n z).length ≤ n := by
  by_cases h : PrOk n z
  · rw [hlV_yes h]; exact huL_len n z n
  · rw [hlV_no h]; simp

open Classical in
noncomputable def beV (n : Nat) (z : Nat → Int) : Int := if PrOk n z then bsV n z n else 0
theorem beV_yes {n : Nat} {z : Nat → Int} (h : PrOk n z) : beV n z = bsV n z n := by unfold beV; rw [if_pos h]
theorem beV_no {n : Nat} {z : Nat → Int} (h : ¬ PrOk n z) : beV n z = 0 := by unfold beV; rw [if_neg h]
theorem bsV_lt (n : Nat) (z : Nat → Int) (hn : 1 ≤ n) : ∀ k, k ≤ n → bsV n z k < n := by
  intro k
  induction k with
  | zero => intro _; exact hn
  | succ k ih =>
    intro hk
    by_cases h : (snL z (bsV n z k) n).length < (snL z k n).length
    · rw [bsV, if_pos h]; exact hk
    · rw [bsV, if_neg h]; exact ih (by omega)

end Go.Proofs.Ytmfdflkpbejpoaa
