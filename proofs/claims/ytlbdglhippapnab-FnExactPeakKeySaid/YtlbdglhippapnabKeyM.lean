/- Keys and prominences: what is reckoned. -/
import Derived.Test.YtlbdglhippapnabPvM
import Derived.Test.YtlbdglhippapnabRange
namespace Go.Proofs.Ytlbdglhippapnab
set_option linter.unusedVariables false

/-- the greatest pass to a cell of a kind, or the least height if there is none -/
def PsTo (R C : Nat) (Z : Nat → Int) (st : Ix (R * C)) (wt : Ix (R * C) → Bool) (v : Int) : Prop :=
  (∃ x, wt x = true ∧ IsPs R C Z st x v ∧ ∀ y q, wt y = true → IsPs R C Z st y q → q ≤ v) ∨ ((∀ x, wt x = false) ∧ (∀ x : Ix (R * C), v ≤ Z x.1) ∧ ∀ q, (∀ x : Ix (R * C), q ≤ Z x.1) → q ≤ v)
theorem PsTo.eq {R C : Nat} {Z : Nat → Int} {st : Ix (R * C)} {wt : Ix (R * C) → Bool} {v v' : Int} (h : PsTo R C Z st wt v) (k : PsTo R C Z st wt v') : v = v' := by
  rcases h with ⟨x, h1, h2, h3⟩ | ⟨h1, h2, h3⟩
  · rcases k with ⟨y, k1, k2, k3⟩ | ⟨k1, k2, k3⟩
    · have := h3 y v' k1 k2
      have := k3 x v h1 h2
      omega
    · rw [k1] at h1; cases h1
  · rcases k with ⟨y, k1, k2, k3⟩ | ⟨k1, k2, k3⟩
    · rw [h1] at k1; cases k1
    · have := h3 v' k2
      have := k3 v h2
      omega

theorem mn_le (Z : Nat → Int) : ∀ {n x : Nat}, x < n → mn Z n ≤ Z x
  | 0, x, h => by omega
  | n + 1, x, h => by
    show min (mn Z n) (Z n) ≤ Z x
    by_cases e : x = n
    · subst e; omega
    · have := mn_le Z (n := n) (x := x) (by omega)
      omega
theorem mn_is (Z : Nat → Int) : ∀ {n : Nat}, 0 < n → ∃ x, x < n ∧ mn Z n = Z x
  | 0, h => by omega
  | n + 1, _ => by
    show ∃ x, x < n + 1 ∧ min (mn Z n) (Z n) = Z x
    rcases Nat.eq_zero_or_pos n with e | e
    · subst e
      refine ⟨0, by omega, ?_⟩
      show min (Z 0) (Z 0) = Z 0
      omega
    · obtain ⟨x, hx, ex⟩ := mn_is Z e
      by_cases h : mn Z n ≤ Z n
      · exact ⟨x, by omega, by omega⟩
      · exact ⟨n, by omega, by omega⟩

/-- the greatest of the passes to the higher cells below k -/
noncomputable def kyN (R C : Nat) (Z : Nat → Int) (i : Ix (R * C)) : Nat → Int
  | 0 => -1
  | k + 1 => if hiB Z k i.1 = true then max (kyN R C Z i k) (psV R C Z i k) else kyN R C Z i k
noncomputable def keyV (R C : Nat) (Z : Nat → Int) (i : Ix (R * C)) : Int := if kyN R C Z i (R * C) < 0 then mn Z (R * C) else kyN R C Z i (R * C)
theorem kyN_yes {R C : Nat} {Z : Nat → Int} {i : Ix (R * C)} {k : Nat} (h : hiB Z k i.1 = true) : kyN R C Z i (k + 1) = max (kyN R C Z i k) (psV R C Z i k) := by show (if _ then _ else _) = _; rw [if_pos h]
theorem kyN_no {R C : Nat} {Z : Nat → Int} {i : Ix (R * C)} {k : Nat} (h : hiB Z k i.1 = false) : kyN R C Z i (k + 1) = kyN R C Z i k := by show (if _ then _ else _) = _; rw [if_neg (by rw [h]; simp)]
theorem psV_ge {R C : Nat} {Z : Nat → Int} (hZ : ∀ x, x < R * C → 0 ≤ Z x ∧ Z x ≤ 99) (a b : Ix (R * C)) : 0 ≤ psV R C Z a b.1 ∧ psV R C Z a b.1 ≤ 99 := by
  have h := psV_is hZ a b
  have h1 := h.2 0 (rch_all (fun y hy => (hZ y hy).1) a b)
  have h2 := h.1.lst
  have := hZ b.1 b.2
  omega
theorem kyN_spec {R C : Nat} {Z : Nat → Int} (hZ : ∀ x, x < R * C → 0 ≤ Z x ∧ Z x ≤ 99) (i : Ix (R * C)) : ∀ k, k ≤ R * C → (kyN R C Z i k = -1 ∧ ∀ x, x < k → hiB Z x i.1 = false) ∨
    (∃ x : Ix (R * C), x.1 < k ∧ hiB Z x.1 i.1 = true ∧ kyN R C Z i k = psV R C Z i x.1 ∧ ∀ y : Ix (R * C), y.1 < k → hiB Z y.1 i.1 = true → psV R C Z i y.1 ≤ kyN R C Z i k)
  | 0, _ => Or.inl ⟨rfl, fun x h => by omega⟩
  | k + 1, hk => by
    have ih := kyN_spec hZ i k (by omega)
    have hr := psV_ge hZ i ⟨k, by omega⟩
    by_cases hb : hiB Z k i.1 = true
    · right
      rw [kyN_yes hb]
      rcases ih with ⟨h1, h2⟩ | ⟨x, h1, h2, h3, h4⟩
      · refine ⟨⟨k, by omega⟩, Nat.lt_succ_self k, hb, by rw [h1]; show max (-1) (psV R C Z i k) = psV R C Z i k; have : 0 ≤ psV R C Z i k := hr.1; omega, fun y hy hy2 => ?_⟩
        by_cases e : y.1 = k
        · rw [e]; omega
        · have := h2 y.1 (by omega)
          rw [this] at hy2; cases hy2
      · by_cases hm : kyN R C Z i k ≤ psV R C Z i k
        · refine ⟨⟨k, by omega⟩, Nat.lt_succ_self k, hb, by show max (kyN R C Z i k) (psV R C Z i k) = psV R C Z i k; omega, fun y hy hy2 => ?_⟩
          by_cases e : y.1 = k
          · rw [e]; omega
          · have := h4 y (by omega) hy2
            omega
        · refine ⟨x, by omega, h2, by rw [← h3]; omega, fun y hy hy2 => ?_⟩
          by_cases e : y.1 = k
          · rw [e]; omega
          · have := h4 y (by omega) hy2
            omega
    · have hb' : hiB Z k i.1 = false := by simpa using hb
      rw [kyN_no hb']
      rcases ih with ⟨h1, h2⟩ | ⟨x, h1, h2, h3, h4⟩
      · refine Or.inl ⟨h1, fun x hx => ?_⟩
        by_cases e : x = k
        · subst e; exact hb'
        · exact h2 x (by omega)
      · refine Or.inr ⟨x, by omega, h2, h3, fun y hy hy2 => ?_⟩
        by_cases e : y.1 = k
        · rw [e, hb'] at hy2; cases hy2
        · exact h4 y (by omega) hy2
theorem keyV_is {R C : Nat} {Z : Nat → Int} (hZ : ∀ x, x < R * C → 0 ≤ Z x ∧ Z x ≤ 99) (i : Ix (R * C)) : PsTo R C Z i (fun x => hiB Z x.1 i.1) (keyV R C Z i) := by
  unfold keyV
  rcases kyN_spec hZ i (R * C) (Nat.le_refl _) with ⟨h1, h2⟩ | ⟨x, h1, h2, h3, h4⟩
  · rw [if_pos (by omega)]
    refine Or.inr ⟨fun x => h2 x.1 x.2, fun x => mn_le Z x.2, fun q hq => ?_⟩
    obtain ⟨y, hy, e⟩ := mn_is Z (n := R * C) (by have := i.2; omega)
    rw [e]
    exact hq ⟨y, hy⟩
  · have hr := psV_ge hZ i x
    rw [if_neg (by omega)]
    refine Or.inl ⟨x, h2, by rw [h3]; exact psV_is hZ i x, fun y q hy hq => ?_⟩
    have := h4 y y.2 hy
    have e := hq.eq (psV_is hZ i y)
    omega
theorem keyV_range {R C : Nat} {Z : Nat → Int} (hZ : ∀ x, x < R * C → 0 ≤ Z x ∧ Z x ≤ 99) (i : Ix (R * C)) : 0 ≤ keyV R C Z i ∧ keyV R C Z i ≤ 99 := by
  rcases keyV_is hZ i with ⟨x, h1, h2, h3⟩ | ⟨h1, h2, h3⟩
  · have e := h2.eq (psV_is hZ i x)
    have := psV_ge hZ i x
    omega
  · have := h2 i
    have := hZ i.1 i.2
    have := h3 0 (fun x => (hZ x.1 x.2).1)
    omega

open Classical in
noncomputable def G.kyV (g : G) (i : Int) : Int := if h : g.PkIn i then (if g.pkB i = true then keyV g.n (g.len 0) g.flat ⟨i.toNat, by have := h.2; omega⟩ else -1) else -1
theorem G.kyV_no {g : G} {i : Int} (h : g.pkB i = false) : g.kyV i = -1 := by
  unfold G.kyV
  split
  · rw [if_neg (by rw [h]; simp)]
  · rfl
theorem G.kyV_yes {g : G} {i : Ix (g.n * g.len 0)} (h : g.Valid) (hp : g.pkB (i.1 : Int) = true) : g.kyV (i.1 : Int) = keyV g.n (g.len 0) g.flat i := by
  have hin : g.PkIn (i.1 : Int) := ⟨h, by omega, by have := i.2; omega⟩
  unfold G.kyV
  rw [dif_pos hin, if_pos hp]
  congr 1

end Go.Proofs.Ytlbdglhippapnab
