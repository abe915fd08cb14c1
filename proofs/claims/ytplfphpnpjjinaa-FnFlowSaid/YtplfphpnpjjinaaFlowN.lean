/- Flow adds up: what is reckoned. -/
import Derived.Test.YtplfphpnpjjinaaFlowM
import Derived.Test.YtplfphpnpjjinaaSumM
namespace Go.Proofs.Ytplfphpnpjjinaa
set_option linter.unusedVariables false

/-- k flows to i -/
def ToI (R C : Nat) (Z : Nat → Int) (i k : Nat) : Prop := k ≠ i ∧ ∃ h : k < R * C, (nxt R C Z ⟨k, h⟩).1 = i
noncomputable def wI (R C : Nat) (Z : Nat → Int) (i : Nat) (f : Nat → Nat) (k : Nat) : Nat := open Classical in if ToI R C Z i k then f k else 0
theorem wI_yes {R C : Nat} {Z : Nat → Int} {i k : Nat} {f : Nat → Nat} (h : ToI R C Z i k) : wI R C Z i f k = f k := by unfold wI; rw [if_pos h]
theorem wI_no {R C : Nat} {Z : Nat → Int} {i k : Nat} {f : Nat → Nat} (h : ¬ ToI R C Z i k) : wI R C Z i f k = 0 := by unfold wI; rw [if_neg h]
theorem wI_add {R C : Nat} {Z : Nat → Int} {i : Nat} {f g : Nat → Nat} (k : Nat) : wI R C Z i (fun x => f x + g x) k = wI R C Z i f k + wI R C Z i g k := by
  by_cases h : ToI R C Z i k
  · rw [wI_yes h, wI_yes h, wI_yes h]
  · rw [wI_no h, wI_no h, wI_no h]
theorem wI_zero {R C : Nat} {Z : Nat → Int} {i : Nat} (k : Nat) : wI R C Z i (fun _ => 0) k = 0 := by
  by_cases h : ToI R C Z i k
  · rw [wI_yes h]
  · rw [wI_no h]
theorem wI_congr {R C : Nat} {Z : Nat → Int} {i k : Nat} {f g : Nat → Nat} (h : f k = g k) : wI R C Z i f k = wI R C Z i g k := by
  by_cases t : ToI R C Z i k
  · rw [wI_yes t, wI_yes t, h]
  · rw [wI_no t, wI_no t]

theorem Sm_single (s : Nat) (f : Nat → Nat) : ∀ n : Nat, s < n → (∀ k, k ≠ s → f k = 0) → Sm n f = f s
  | 0, h, _ => by omega
  | n + 1, h, hf => by
    show Sm n f + f n = f s
    by_cases e : s = n
    · subst e
      rw [Sm_congr (g := fun _ => 0) (fun k hk => hf k (by omega)), Sm_zero]; omega
    · rw [Sm_single s f n (by omega) hf, hf n (fun k => e k.symm)]; rfl

theorem cntL_cons {M : Nat} (x : Ix M) (l : List (Ix M)) (j : Nat) : cntL (x :: l) j = (if j = x.1 then 1 else 0) + cntL l j := by
  unfold cntL
  rw [List.countP_cons]
  by_cases e : j = x.1
  · rw [if_pos e]; simp [e]; omega
  · have e2 : (x.1 == j) = false := by rw [beq_eq_false_iff_ne]; exact fun h => e h.symm
    rw [if_neg e, e2]; simp

theorem run_flow {R C : Nat} {Z : Nat → Int} (i : Nat) {s : Ix (R * C)} {l : List (Ix (R * C))} (h : IsRun R C Z s l) : cntL l i = (if i = s.1 then 1 else 0) + Sm (R * C) (wI R C Z i (cntL l)) := by
  induction h with
  | @sink s h =>
    rw [cntL_cons, cntL_nil]
    have hz : Sm (R * C) (wI R C Z i (cntL [s])) = 0 := by
      rw [Sm_congr (g := fun _ => 0) (fun k hk => ?_), Sm_zero]
      by_cases t : ToI R C Z i k
      · rw [wI_yes t, cntL_cons, cntL_nil]
        obtain ⟨t1, t2, t3⟩ := t
        rw [if_neg]
        intro e
        have e2 : (⟨k, t2⟩ : Ix (R * C)) = s := Subtype.ext e
        rw [e2, h] at t3
        exact t1 (e.trans t3)
      · exact wI_no t
    rw [hz]
  | @flow s l h1 h2 ih =>
    rw [cntL_cons, ih]
    have e : ∀ k, k < R * C → wI R C Z i (cntL (s :: l)) k = wI R C Z i (fun k => if k = s.1 then 1 else 0) k + wI R C Z i (cntL l) k := fun k _ => by
      rw [← wI_add]; exact wI_congr (cntL_cons s l k)
    rw [Sm_congr e, Sm_add]
    have h3 : Sm (R * C) (wI R C Z i (fun k => if k = s.1 then 1 else 0)) = if i = (nxt R C Z s).1 then 1 else 0 := by
      rw [Sm_single s.1 _ _ s.2 (fun k hk => by
        by_cases t : ToI R C Z i k
        · rw [wI_yes t, if_neg hk]
        · exact wI_no t)]
      by_cases e2 : i = (nxt R C Z s).1
      · rw [if_pos e2, wI_yes ⟨fun k => h1 (Subtype.ext (by rw [← e2, k])), s.2, e2.symm⟩, if_pos rfl]
      · rw [if_neg e2, wI_no (fun t => e2 t.2.2.symm)]
    rw [h3]

theorem fl_sum (R C : Nat) (Z : Nat → Int) (hZ : ∀ x, x < R * C → 0 ≤ Z x ∧ Z x ≤ 99) (i : Nat) : ∀ n, n ≤ R * C → flN R C Z n i = (if i < n then 1 else 0) + Sm (R * C) (wI R C Z i (flN R C Z n))
  | 0, _ => by
    show 0 = (if i < 0 then 1 else 0) + Sm (R * C) (wI R C Z i (fun _ => 0))
    rw [Sm_congr (g := fun _ => 0) (fun k _ => wI_zero (R := R) (C := C) (Z := Z) (i := i) k), Sm_zero]; rfl
  | n + 1, hn => by
    have ih := fl_sum R C Z hZ i n (by omega)
    have hs := fun j => flN_succ (R := R) (C := C) (Z := Z) ⟨n, by omega⟩ j
    have hr := run_flow i (runL_is hZ ⟨n, by omega⟩)
    have e : ∀ k, k < R * C → wI R C Z i (flN R C Z (n + 1)) k = wI R C Z i (flN R C Z n) k + wI R C Z i (cntL (runL R C Z ⟨n, by omega⟩)) k := fun k _ => by
      rw [← wI_add]; exact wI_congr (hs k)
    rw [Sm_congr e, Sm_add, hs i, ih, hr]
    show (if i < n then 1 else 0) + _ + ((if i = n then 1 else 0) + _) = _
    by_cases h1 : i < n
    · rw [if_pos h1, if_neg (by omega : ¬ i = n), if_pos (by omega : i < n + 1)]; omega
    · by_cases h2 : i = n
      · rw [if_neg h1, if_pos h2, if_pos (by omega : i < n + 1)]; omega
      · rw [if_neg h1, if_neg h2, if_neg (by omega : ¬ i < n + 1)]; omega

/-- what flows into a cell, and the cell itself, is its flow -/
theorem fl_in {R C : Nat} {Z : Nat → Int} (hZ : ∀ x, x < R * C → 0 ≤ Z x ∧ Z x ≤ 99) {i : Nat} (hi : i < R * C) : 1 + Sm (R * C) (wI R C Z i (flN R C Z (R * C))) = flN R C Z (R * C) i := by
  rw [fl_sum R C Z hZ i (R * C) (Nat.le_refl _), if_pos hi]
theorem cntL_sum {M : Nat} : ∀ l : List (Ix M), Sm M (cntL l) = l.length
  | [] => Sm_zero M
  | x :: l => by
    rw [Sm_congr (g := fun j => (if j = x.1 then 1 else 0) + cntL l j) (fun j _ => cntL_cons x l j), Sm_add, cntL_sum l, Sm_single x.1 _ _ x.2 (fun k hk => if_neg hk), if_pos rfl]
    simp; omega
/-- the flow of all cells is the length of all runs -/
theorem fl_len (R C : Nat) (Z : Nat → Int) : ∀ n, n ≤ R * C → Sm (R * C) (flN R C Z n) = Sm n (lenAt R C Z)
  | 0, _ => Sm_zero _
  | n + 1, hn => by
    have hs := fun j => flN_succ (R := R) (C := C) (Z := Z) ⟨n, by omega⟩ j
    rw [Sm_congr (g := fun j => flN R C Z n j + cntL (runL R C Z ⟨n, by omega⟩) j) (fun j _ => hs j), Sm_add, fl_len R C Z n (by omega), cntL_sum]
    show _ = Sm n (lenAt R C Z) + lenAt R C Z n
    rw [show lenAt R C Z n = (runL R C Z ⟨n, by omega⟩).length from lenAt_eq ⟨n, by omega⟩]

theorem nxt_to {R C : Nat} {Z : Nat → Int} {i k : Nat} (h : k < R * C) : ToI R C Z i k ↔ (k ≠ i ∧ (nxt R C Z ⟨k, h⟩).1 = i) := ⟨fun t => ⟨t.1, t.2.2⟩, fun t => ⟨t.1, h, t.2⟩⟩
theorem Sm_wI_le {R C : Nat} {Z : Nat → Int} {i : Nat} (f : Nat → Nat) (B : Nat) (hf : ∀ k, f k ≤ B) : ∀ n, Sm n (wI R C Z i f) ≤ B * n
  | 0 => Nat.le_refl _
  | n + 1 => by
    have ih := Sm_wI_le (R := R) (C := C) (Z := Z) (i := i) f B hf n
    show Sm n _ + wI R C Z i f n ≤ _
    have h1 : wI R C Z i f n ≤ B := by
      by_cases t : ToI R C Z i n
      · rw [wI_yes t]; exact hf n
      · rw [wI_no t]; omega
    rw [Nat.mul_add, Nat.mul_one]; omega

end Go.Proofs.Ytplfphpnpjjinaa
