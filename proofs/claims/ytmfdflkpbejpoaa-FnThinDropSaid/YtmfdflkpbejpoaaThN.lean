/- Lines grow point by point; the fewest, the best, the greedy points and the least error, for every argument. -/
import Derived.Test.YtmfdflkpbejpoaaThM
namespace Go.Proofs.Ytmfdflkpbejpoaa
open Go.RowKit
set_option linter.unusedVariables false

theorem lnL_head {n : Nat} {f : Nat → Nat} (hf : Rul n f) (i : Nat) : lnL n f i = (i : Int) :: (lnL n f i).tail := by
  by_cases h : i + 1 < n
  · rw [lnL_step hf h]; rfl
  · rw [lnL_last h]; rfl
/-- the list so far, up to the point i -/
def Lnr (n : Nat) (f : Nat → Nat) (i : Nat) (L : List Int) : Prop := L ++ (lnL n f i).tail = lnL n f 0
theorem lnr_start {n : Nat} {f : Nat → Nat} (hf : Rul n f) : Lnr n f 0 [0] := by
  have := lnL_head hf 0
  unfold Lnr
  rw [this]; rfl
theorem Lnr.step {n : Nat} {f : Nat → Nat} (hf : Rul n f) {i : Nat} {L : List Int} (h : Lnr n f i L) (hi : i + 1 < n) : Lnr n f (f i) (L ++ [(f i : Int)]) := by
  unfold Lnr at h ⊢
  rw [lnL_step hf hi] at h
  rw [← h, List.append_assoc, List.tail_cons, List.singleton_append, ← lnL_head hf]
theorem Lnr.last {n : Nat} {f : Nat → Nat} {i : Nat} {L : List Int} (h : Lnr n f i L) (hi : ¬ i + 1 < n) : L = lnL n f 0 := by
  unfold Lnr at h
  rw [lnL_last hi] at h
  rw [← h]
  simp
theorem Lnr.len {n : Nat} {f : Nat → Nat} {i : Nat} {L : List Int} (h : Lnr n f i L) : L.length ≤ n + 1 := by
  have h1 : (lnL n f 0).length ≤ n + 1 := lnF_len n 0
  unfold Lnr at h
  rw [← h, List.length_append] at h1
  omega

/-- a profile and an error -/
def PeOk (n : Nat) (z : Nat → Int) (e : Int) : Prop := PrOk n z ∧ ErOk e
noncomputable def peB (n : Nat) (z : Nat → Int) (e : Int) : Bool := @decide (PeOk n z e) (Classical.propDecidable _)
theorem peB_yes {n : Nat} {z : Nat → Int} {e : Int} (h : PeOk n z e) : peB n z e = true := by simp [peB, h]
theorem peB_no {n : Nat} {z : Nat → Int} {e : Int} (h : ¬ PeOk n z e) : peB n z e = false := by simp [peB, h]
noncomputable def fwV (n : Nat) (z : Nat → Int) (e : Int) : Int := if peB n z e = true then (coV n z e 0 : Int) else -1
theorem fwV_yes {n : Nat} {z : Nat → Int} {e : Int} (h : PeOk n z e) : fwV n z e = coV n z e 0 := by rw [fwV, if_pos (peB_yes h)]
theorem fwV_no {n : Nat} {z : Nat → Int} {e : Int} (h : ¬ PeOk n z e) : fwV n z e = -1 := by rw [fwV, if_neg (by rw [peB_no h]; simp)]
noncomputable def btV (n : Nat) (z : Nat → Int) (e : Int) : List Int := if peB n z e = true then beL n z e 0 else []
theorem btV_yes {n : Nat} {z : Nat → Int} {e : Int} (h : PeOk n z e) : btV n z e = beL n z e 0 := by rw [btV, if_pos (peB_yes h)]
theorem btV_no {n : Nat} {z : Nat → Int} {e : Int} (h : ¬ PeOk n z e) : btV n z e = [] := by rw [btV, if_neg (by rw [peB_no h]; simp)]
noncomputable def gdV (n : Nat) (z : Nat → Int) (e : Int) : List Int := if peB n z e = true then gyL n z e else []
theorem gdV_yes {n : Nat} {z : Nat → Int} {e : Int} (h : PeOk n z e) : gdV n z e = gyL n z e := by rw [gdV, if_pos (peB_yes h)]
theorem gdV_no {n : Nat} {z : Nat → Int} {e : Int} (h : ¬ PeOk n z e) : gdV n z e = [] := by rw [gdV, if_neg (by rw [peB_no h]; simp)]
theorem btV_ok (n : Nat) (z : Nat → Int) (e : Int) : NsOk (btV n z e) := by
  by_cases h : PeOk n z e
  · rw [btV_yes h]; exact lnL_ok (nxV_rul h.2.1) 0 (by have := h.1.1.1; omega) h.1.1.2
  · rw [btV_no h]; intro x hx; simp at hx
theorem gdV_ok (n : Nat) (z : Nat → Int) (e : Int) : NsOk (gdV n z e) := by
  by_cases h : PeOk n z e
  · rw [gdV_yes h]; exact lnL_ok (grV_rul h.2.1) 0 (by have := h.1.1.1; omega) h.1.1.2
  · rw [gdV_no h]; intro x hx; simp at hx
theorem btV_len (n : Nat) (z : Nat → Int) (e : Int) : (btV n z e).length ≤ n + 1 := by
  by_cases h : PeOk n z e
  · rw [btV_yes h]; exact lnF_len n 0
  · rw [btV_no h]; exact Nat.zero_le _
theorem gdV_len (n : Nat) (z : Nat → Int) (e : Int) : (gdV n z e).length ≤ n + 1 := by
  by_cases h : PeOk n z e
  · rw [gdV_yes h]; exact lnF_len n 0
  · rw [gdV_no h]; exact Nat.zero_le _

/-- a number of points that can be asked for -/
def LnOk (n : Nat) (z : Nat → Int) (m : Int) : Prop := PrOk n z ∧ (if n = 1 then 1 else 2) ≤ m ∧ m ≤ 20
theorem lnOk_has {n : Nat} {z : Nat → Int} {m : Int} (h : LnOk n z m) : (coV n z 99 0 : Int) ≤ m := by
  have h1 := coV_top h.1
  have h2 := h.2.1
  by_cases e : n = 1
  · rw [if_pos e] at h2
    have := h1.2 e
    omega
  · rw [if_neg e] at h2
    have := h1.1
    omega
theorem le_ex {n : Nat} {z : Nat → Int} {m : Int} (h : LnOk n z m) : ∃ e : Nat, e ≤ 99 ∧ LeIs n z m e := by
  have h0 := lnOk_has h
  have : ∀ d e : Nat, e + d = 99 → (∀ e' : Nat, e' < e → m < coV n z e' 0) → ∃ e : Nat, e ≤ 99 ∧ LeIs n z m e := by
    intro d
    induction d with
    | zero =>
      intro e he hd
      obtain rfl : e = 99 := by omega
      exact ⟨99, Nat.le_refl _, h0, hd⟩
    | succ d ih =>
      intro e he hd
      by_cases hc : (coV n z e 0 : Int) ≤ m
      · exact ⟨e, by omega, hc, hd⟩
      · exact ih (e + 1) (by omega) (fun e' he' => by
          by_cases h1 : e' = e
          · subst h1; omega
          · exact hd e' (by omega))
  exact this 99 0 rfl (fun e' he' => by omega)
noncomputable def ltN (n : Nat) (z : Nat → Int) (m : Int) : Nat := @dite _ (∃ e : Nat, e ≤ 99 ∧ LeIs n z m e) (Classical.propDecidable _) (fun h => Classical.choose h) (fun _ => 0)
theorem ltN_is {n : Nat} {z : Nat → Int} {m : Int} (h : LnOk n z m) : ltN n z m ≤ 99 ∧ LeIs n z m (ltN n z m) := by
  unfold ltN
  rw [dif_pos (le_ex h)]
  exact Classical.choose_spec (le_ex h)
noncomputable def lnB (n : Nat) (z : Nat → Int) (m : Int) : Bool := @decide (LnOk n z m) (Classical.propDecidable _)
theorem lnB_yes {n : Nat} {z : Nat → Int} {m : Int} (h : LnOk n z m) : lnB n z m = true := by simp [lnB, h]
theorem lnB_no {n : Nat} {z : Nat → Int} {m : Int} (h : ¬ LnOk n z m) : lnB n z m = false := by simp [lnB, h]
noncomputable def leV (n : Nat) (z : Nat → Int) (m : Int) : Int := if lnB n z m = true then (ltN n z m : Int) else -1
theorem leV_yes {n : Nat} {z : Nat → Int} {m : Int} (h : LnOk n z m) : leV n z m = ltN n z m := by rw [leV, if_pos (lnB_yes h)]
theorem leV_no {n : Nat} {z : Nat → Int} {m : Int} (h : ¬ LnOk n z m) : leV n z m = -1 := by rw [leV, if_neg (by rw [lnB_no h]; simp)]

/-- a place of a list that can be left out -/
def DrOk (n : Nat) (z : Nat → Int) (m : Nat) (y : Nat → Int) (k : Int) : Prop := ThOk n z m y ∧ 1 ≤ k ∧ k ≤ (m : Int) - 2
noncomputable def drB (n : Nat) (z : Nat → Int) (m : Nat) (y : Nat → Int) (k : Int) : Bool := @decide (DrOk n z m y k) (Classical.propDecidable _)
theorem drB_yes {n : Nat} {z : Nat → Int} {m : Nat} {y : Nat → Int} {k : Int} (h : DrOk n z m y k) : drB n z m y k = true := by simp [drB, h]
theorem drB_no {n : Nat} {z : Nat → Int} {m : Nat} {y : Nat → Int} {k : Int} (h : ¬ DrOk n z m y k) : drB n z m y k = false := by simp [drB, h]
/-- the numbers y without the one at the place k -/
def dpF (y : Nat → Int) (k : Nat) (i : Nat) : Int := if i < k then y i else y (i + 1)
noncomputable def dpV (n : Nat) (z : Nat → Int) (m : Nat) (y : Nat → Int) (k : Int) : List Int := if drB n z m y k = true then fnL (dpF y k.toNat) (m - 1) else []
theorem dpV_yes {n : Nat} {z : Nat → Int} {m : Nat} {y : Nat → Int} {k : Nat} (h : DrOk n z m y k) : dpV n z m y k = fnL (dpF y k) (m - 1) := by rw [dpV, if_pos (drB_yes h)]; rfl
theorem dpV_no {n : Nat} {z : Nat → Int} {m : Nat} {y : Nat → Int} {k : Int} (h : ¬ DrOk n z m y k) : dpV n z m y k = [] := by rw [dpV, if_neg (by rw [drB_no h]; simp)]
theorem dpF_rng {n : Nat} {z : Nat → Int} {m : Nat} {y : Nat → Int} (h : ThOk n z m y) (k : Nat) (i : Nat) (hi : i < m - 1) : 0 ≤ dpF y k i ∧ dpF y k i ≤ 20 := by
  have h1 := h.range i (by omega)
  have h2 := h.range (i + 1) (by omega)
  have h3 := h.1.1.2
  unfold dpF
  split <;> omega
theorem dpV_ok (n : Nat) (z : Nat → Int) (m : Nat) (y : Nat → Int) (k : Int) : NsOk (dpV n z m y k) := by
  by_cases h : DrOk n z m y k
  · obtain ⟨k', rfl⟩ : ∃ k' : Nat, k = k' := ⟨k.toNat, by have := h.2.1; omega⟩
    rw [dpV_yes h]
    exact fnL_ok (fun i hi => by have := dpF_rng h.1 k' i hi; omega)
  · rw [dpV_no h]; intro x hx; simp at hx
theorem dpV_len (n : Nat) (z : Nat → Int) (m : Nat) (y : Nat → Int) (k : Int) : (dpV n z m y k).length ≤ m := by
  by_cases h : DrOk n z m y k
  · obtain ⟨k', rfl⟩ : ∃ k' : Nat, k = k' := ⟨k.toNat, by have := h.2.1; omega⟩
    rw [dpV_yes h, fnL_len]; omega
  · rw [dpV_no h]; exact Nat.zero_le _

/-- two thinned profiles that can be joined -/
def JnOk (n : Nat) (z : Nat → Int) (m : Nat) (y : Nat → Int) (n2 : Nat) (z2 : Nat → Int) (m2 : Nat) (y2 : Nat → Int) : Prop :=
  ThOk n z m y ∧ ThOk n2 z2 m2 y2 ∧ n + n2 ≤ 21 ∧ z (n - 1) = z2 0
noncomputable def jnB (n : Nat) (z : Nat → Int) (m : Nat) (y : Nat → Int) (n2 : Nat) (z2 : Nat → Int) (m2 : Nat) (y2 : Nat → Int) : Bool := @decide (JnOk n z m y n2 z2 m2 y2) (Classical.propDecidable _)
theorem jnB_yes {n : Nat} {z : Nat → Int} {m : Nat} {y : Nat → Int} {n2 : Nat} {z2 : Nat → Int} {m2 : Nat} {y2 : Nat → Int} (h : JnOk n z m y n2 z2 m2 y2) : jnB n z m y n2 z2 m2 y2 = true := by simp [jnB, h]
theorem jnB_no {n : Nat} {z : Nat → Int} {m : Nat} {y : Nat → Int} {n2 : Nat} {z2 : Nat → Int} {m2 : Nat} {y2 : Nat → Int} (h : ¬ JnOk n z m y n2 z2 m2 y2) : jnB n z m y n2 z2 m2 y2 = false := by simp [jnB, h]
/-- the second points behind the first ones, but the first of them -/
def jnF (n m : Nat) (y y2 : Nat → Int) (i : Nat) : Int := if i < m then y i else y2 (i - m + 1) + ((n : Int) - 1)
noncomputable def jnV (n : Nat) (z : Nat → Int) (m : Nat) (y : Nat → Int) (n2 : Nat) (z2 : Nat → Int) (m2 : Nat) (y2 : Nat → Int) : List Int := if jnB n z m y n2 z2 m2 y2 = true then fnL (jnF n m y y2) (m + m2 - 1) else []
theorem jnV_yes {n : Nat} {z : Nat → Int} {m : Nat} {y : Nat → Int} {n2 : Nat} {z2 : Nat → Int} {m2 : Nat} {y2 : Nat → Int} (h : JnOk n z m y n2 z2 m2 y2) : jnV n z m y n2 z2 m2 y2 = fnL (jnF n m y y2) (m + m2 - 1) := by rw [jnV, if_pos (jnB_yes h)]
theorem jnV_no {n : Nat} {z : Nat → Int} {m : Nat} {y : Nat → Int} {n2 : Nat} {z2 : Nat → Int} {m2 : Nat} {y2 : Nat → Int} (h : ¬ JnOk n z m y n2 z2 m2 y2) : jnV n z m y n2 z2 m2 y2 = [] := by rw [jnV, if_neg (by rw [jnB_no h]; simp)]
theorem jnF_rng {n : Nat} {z : Nat → Int} {m : Nat} {y : Nat → Int} {n2 : Nat} {z2 : Nat → Int} {m2 : Nat} {y2 : Nat → Int} (h : JnOk n z m y n2 z2 m2 y2) (i : Nat) (hi : i < m + m2 - 1) : 0 ≤ jnF n m y y2 i ∧ jnF n m y y2 i ≤ 40 := by
  have h3 := h.1.1.1.2
  have h4 := h.1.1.1.1
  have h5 := h.2.1.1.1.2
  unfold jnF
  by_cases e : i < m
  · rw [if_pos e]
    have h1 := h.1.range i e
    omega
  · rw [if_neg e]
    have h2 := h.2.1.range (i - m + 1) (by omega)
    omega
theorem jnV_ok (n : Nat) (z : Nat → Int) (m : Nat) (y : Nat → Int) (n2 : Nat) (z2 : Nat → Int) (m2 : Nat) (y2 : Nat → Int) : NsOk (jnV n z m y n2 z2 m2 y2) := by
  by_cases h : JnOk n z m y n2 z2 m2 y2
  · rw [jnV_yes h]
    exact fnL_ok (fun i hi => by have := jnF_rng h i hi; omega)
  · rw [jnV_no h]; intro x hx; simp at hx
theorem jnV_len (n : Nat) (z : Nat → Int) (m : Nat) (y : Nat → Int) (n2 : Nat) (z2 : Nat → Int) (m2 : Nat) (y2 : Nat → Int) : (jnV n z m y n2 z2 m2 y2).length ≤ 40 := by
  by_cases h : JnOk n z m y n2 z2 m2 y2
  · rw [jnV_yes h, fnL_len]
    have h1 := h.1.len
    have h2 := h.2.1.len
    have h3 := h.2.2.1
    omega
  · rw [jnV_no h]; exact Nat.zero_le _

end Go.Proofs.Ytmfdflkpbejpoaa
