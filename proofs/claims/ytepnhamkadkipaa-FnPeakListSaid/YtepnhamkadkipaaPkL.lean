/- The list of the peaks by rank: what is reckoned. -/
import Derived.Test.YtepnhamkadkipaaHpM
namespace Go.Proofs.Ytepnhamkadkipaa
set_option linter.unusedVariables false

/-- i put in its place by rank -/
def insR {M : Nat} (Z : Nat → Int) (i : Ix M) : List (Ix M) → List (Ix M)
  | [] => [i]
  | a :: t => if hiB Z a.1 i.1 = true then a :: insR Z i t else i :: a :: t
theorem insR_at {M : Nat} {Z : Nat → Int} {i : Ix M} : ∀ {l : List (Ix M)} {k : Nat}, k ≤ l.length → (∀ j (h : j < l.length), j < k → hiB Z (l[j]).1 i.1 = true) → (∀ h : k < l.length, hiB Z (l[k]).1 i.1 = false) → insR Z i l = l.take k ++ i :: l.drop k
  | [], k, hk, _, _ => by
    have : k = 0 := by simpa using hk
    subst this
    rfl
  | a :: t, 0, _, _, h2 => by
    have := h2 (by simp)
    simp only [List.getElem_cons_zero] at this
    unfold insR
    rw [if_neg (by rw [this]; simp)]
    rfl
  | a :: t, k + 1, hk, h1, h2 => by
    have h3 := h1 0 (by simp) (by omega)
    simp only [List.getElem_cons_zero] at h3
    unfold insR
    rw [if_pos h3, insR_at (l := t) (k := k) (by simpa using hk) (fun j h hj => by have := h1 (j + 1) (by simpa using h) (by omega); simpa using this) (fun h => by have := h2 (by simpa using h); simpa using this)]
    rfl
theorem insR_mem {M : Nat} {Z : Nat → Int} {i x : Ix M} : ∀ {l : List (Ix M)}, x ∈ insR Z i l ↔ x = i ∨ x ∈ l
  | [] => by simp [insR]
  | a :: t => by
    unfold insR
    by_cases h : hiB Z a.1 i.1 = true
    · rw [if_pos h]
      simp only [List.mem_cons, insR_mem (l := t)]
      constructor
      · rintro (h | h | h)
        · exact Or.inr (Or.inl h)
        · exact Or.inl h
        · exact Or.inr (Or.inr h)
      · rintro (h | h | h)
        · exact Or.inr (Or.inl h)
        · exact Or.inl h
        · exact Or.inr (Or.inr h)
    · rw [if_neg h]; simp
theorem insR_len {M : Nat} {Z : Nat → Int} {i : Ix M} : ∀ {l : List (Ix M)}, (insR Z i l).length = l.length + 1
  | [] => rfl
  | a :: t => by
    unfold insR
    by_cases h : hiB Z a.1 i.1 = true
    · rw [if_pos h]; simp [insR_len (l := t)]
    · rw [if_neg h]; simp

/-- sorted by rank -/
def ByRk {M : Nat} (Z : Nat → Int) (l : List (Ix M)) : Prop := l.Pairwise fun a b => hiB Z a.1 b.1 = true
theorem insR_rk {M : Nat} {Z : Nat → Int} {i : Ix M} : ∀ {l : List (Ix M)}, ByRk Z l → i ∉ l → ByRk Z (insR Z i l)
  | [], _, _ => by simp [insR, ByRk]
  | a :: t, h, hi => by
    unfold ByRk at h
    rw [List.pairwise_cons] at h
    unfold insR
    by_cases h1 : hiB Z a.1 i.1 = true
    · rw [if_pos h1]
      have ih := insR_rk (i := i) (l := t) h.2 (fun k => hi (List.mem_cons_of_mem _ k))
      unfold ByRk at ih ⊢
      rw [List.pairwise_cons]
      refine ⟨fun b hb => ?_, ih⟩
      rcases insR_mem.1 hb with e | e
      · rw [e]; exact h1
      · exact h.1 b e
    · rw [if_neg h1]
      unfold ByRk
      rw [List.pairwise_cons, List.pairwise_cons]
      have h2 : hiB Z i.1 a.1 = true := by
        rcases hb : hiB Z i.1 a.1 with _ | _
        · exact absurd (Subtype.ext (hiB_tot hb (by simpa using h1)) : i = a) (fun e => hi (by rw [e]; simp))
        · rfl
      refine ⟨fun b hb => ?_, h.1, h.2⟩
      rcases List.mem_cons.1 hb with e | e
      · rw [e]; exact h2
      · exact hiB_trans h2 (h.1 b e)
/-- two lists by rank of the same cells are the same -/
theorem byRk_eq {M : Nat} {Z : Nat → Int} : ∀ {l m : List (Ix M)}, ByRk Z l → ByRk Z m → (∀ x, x ∈ l ↔ x ∈ m) → l = m
  | [], [], _, _, _ => rfl
  | [], b :: s, _, _, h => by have := (h b).2 (by simp); simp at this
  | a :: t, [], _, _, h => by have := (h a).1 (by simp); simp at this
  | a :: t, b :: s, h1, h2, h => by
    unfold ByRk at h1 h2
    rw [List.pairwise_cons] at h1 h2
    have e : a = b := by
      rcases List.mem_cons.1 ((h a).1 (by simp)) with e | e
      · exact e
      · rcases List.mem_cons.1 ((h b).2 (by simp)) with e2 | e2
        · exact e2.symm
        · have k1 := h2.1 a e
          have k2 := h1.1 b e2
          rw [hiB_asymm k1] at k2
          cases k2
    subst e
    congr 1
    refine byRk_eq (l := t) (m := s) h1.2 h2.2 (fun x => ?_)
    constructor
    · intro hx
      rcases List.mem_cons.1 ((h x).1 (List.mem_cons_of_mem _ hx)) with e | e
      · rw [e] at hx
        have k := h1.1 a hx
        rw [hiB_irr] at k
        cases k
      · exact e
    · intro hx
      rcases List.mem_cons.1 ((h x).2 (List.mem_cons_of_mem _ hx)) with e | e
      · rw [e] at hx
        have k := h2.1 a hx
        rw [hiB_irr] at k
        cases k
      · exact e

/-- the peaks below k by rank -/
def rkL (R C : Nat) (Z : Nat → Int) : Nat → List (Ix (R * C))
  | 0 => []
  | k + 1 => if h : k < R * C then (if pkQ R C Z ⟨k, h⟩ = true then insR Z ⟨k, h⟩ (rkL R C Z k) else rkL R C Z k) else rkL R C Z k
theorem rkL_yes {R C : Nat} {Z : Nat → Int} (i : Ix (R * C)) (h : pkQ R C Z i = true) : rkL R C Z (i.1 + 1) = insR Z i (rkL R C Z i.1) := by
  show (if h : i.1 < R * C then _ else _) = _
  rw [dif_pos i.2, if_pos h]
theorem rkL_no {R C : Nat} {Z : Nat → Int} (i : Ix (R * C)) (h : pkQ R C Z i = false) : rkL R C Z (i.1 + 1) = rkL R C Z i.1 := by
  show (if h : i.1 < R * C then _ else _) = _
  rw [dif_pos i.2, if_neg (by show ¬ pkQ R C Z i = true; rw [h]; simp)]
theorem rkL_mem {R C : Nat} {Z : Nat → Int} : ∀ {k : Nat}, k ≤ R * C → ∀ x : Ix (R * C), x ∈ rkL R C Z k ↔ x.1 < k ∧ pkQ R C Z x = true
  | 0, _, x => by simp [rkL]
  | k + 1, hk, x => by
    have ih := rkL_mem (R := R) (C := C) (Z := Z) (k := k) (by omega) x
    by_cases h : pkQ R C Z ⟨k, by omega⟩ = true
    · rw [rkL_yes (R := R) (C := C) (Z := Z) ⟨k, by omega⟩ h, insR_mem, ih]
      constructor
      · rintro (e | ⟨e1, e2⟩)
        · rw [e]; exact ⟨Nat.lt_succ_self k, h⟩
        · exact ⟨by omega, e2⟩
      · rintro ⟨e1, e2⟩
        by_cases e : x.1 = k
        · exact Or.inl (Subtype.ext e)
        · exact Or.inr ⟨by omega, e2⟩
    · have h' : pkQ R C Z ⟨k, by omega⟩ = false := by simpa using h
      rw [rkL_no (R := R) (C := C) (Z := Z) ⟨k, by omega⟩ h', ih]
      constructor
      · rintro ⟨e1, e2⟩; exact ⟨by omega, e2⟩
      · rintro ⟨e1, e2⟩
        refine ⟨?_, e2⟩
        by_cases e : x.1 = k
        · have : x = ⟨k, by omega⟩ := Subtype.ext e
          rw [this] at e2
          exact absurd e2 h
        · omega
theorem rkL_rk {R C : Nat} {Z : Nat → Int} : ∀ {k : Nat}, k ≤ R * C → ByRk Z (rkL R C Z k)
  | 0, _ => List.Pairwise.nil
  | k + 1, hk => by
    have ih := rkL_rk (R := R) (C := C) (Z := Z) (k := k) (by omega)
    by_cases h : pkQ R C Z ⟨k, by omega⟩ = true
    · rw [rkL_yes (R := R) (C := C) (Z := Z) ⟨k, by omega⟩ h]
      refine insR_rk ih (fun hm => ?_)
      have := ((rkL_mem (Z := Z) (show k ≤ R * C by omega) _).1 hm).1
      exact Nat.lt_irrefl _ this
    · have h' : pkQ R C Z ⟨k, by omega⟩ = false := by simpa using h
      rw [rkL_no (R := R) (C := C) (Z := Z) ⟨k, by omega⟩ h']
      exact ih
theorem rkL_len {R C : Nat} {Z : Nat → Int} : ∀ {k : Nat}, (rkL R C Z k).length ≤ k
  | 0 => Nat.le_refl _
  | k + 1 => by
    have ih := rkL_len (R := R) (C := C) (Z := Z) (k := k)
    unfold rkL
    split
    · split
      · rw [insR_len]; omega
      · omega
    · omega

open Classical in
noncomputable def G.rkV (g : G) : List (Ix (g.n * g.len 0)) := if g.Valid then rkL g.n (g.len 0) g.flat (g.n * g.len 0) else []
theorem G.rkV_yes {g : G} (h : g.Valid) : g.rkV = rkL g.n (g.len 0) g.flat (g.n * g.len 0) := by unfold G.rkV; rw [if_pos h]
theorem G.rkV_no {g : G} (h : ¬ g.Valid) : g.rkV = [] := by unfold G.rkV; rw [if_neg h]

end Go.Proofs.Ytepnhamkadkipaa
