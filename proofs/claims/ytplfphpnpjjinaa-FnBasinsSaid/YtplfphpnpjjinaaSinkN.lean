/- Sinks and basins: each cell has one; basins add up to all cells. What is reckoned. -/
import Derived.Test.YtplfphpnpjjinaaCnt
import Derived.Test.YtplfphpnpjjinaaPNear
namespace Go.Proofs.Ytplfphpnpjjinaa
set_option linter.unusedVariables false

theorem IsRun.uniq {R C : Nat} {Z : Nat → Int} {i : Ix (R * C)} {l : List (Ix (R * C))} (h : IsRun R C Z i l) : ∀ {l'}, IsRun R C Z i l' → l = l' := by
  induction h with
  | sink h =>
    intro l' h'
    rcases h'.cons with ⟨_, e⟩ | ⟨hn, _⟩
    · exact e.symm
    · exact absurd h hn
  | flow h1 h2 ih =>
    intro l' h'
    rcases h'.cons with ⟨h, _⟩ | ⟨_, t, e, ht⟩
    · exact absurd h h1
    · rw [e, ih ht]
theorem endI_next {R C : Nat} {Z : Nat → Int} (hZ : ∀ x, x < R * C → 0 ≤ Z x ∧ Z x ≤ 99) (i : Ix (R * C)) : endI R C Z (nxt R C Z i) = endI R C Z i := by
  rcases (runL_is hZ i).cons with ⟨h, _⟩ | ⟨hn, t, e, ht⟩
  · rw [h]
  · have h1 := ht.uniq (runL_is hZ (nxt R C Z i))
    have hp := ht.pos
    unfold endI
    rw [e, ← h1]
    cases t with
    | nil => simp at hp
    | cons x t => rfl
theorem ezV_next {R C : Nat} {Z : Nat → Int} (hZ : ∀ x, x < R * C → 0 ≤ Z x ∧ Z x ≤ 99) (i : Ix (R * C)) : ezV R C Z (nxt R C Z i).1 = ezV R C Z i.1 := by rw [ezV_at, ezV_at, endI_next hZ]
theorem ezV_sink {R C : Nat} {Z : Nat → Int} (hZ : ∀ x, x < R * C → 0 ≤ Z x ∧ Z x ≤ 99) {i : Ix (R * C)} (h : nxt R C Z i = i) : ezV R C Z i.1 = (i.1 : Int) := by rw [ezV_at, endI_self hZ h]

theorem skL_ne {R C : Nat} {Z : Nat → Int} : ∀ k, (skL R C Z k).Pairwise (fun a b => a.1 ≠ b.1)
  | 0 => by simp [skL]
  | k + 1 => by
    have ih := skL_ne (R := R) (C := C) (Z := Z) k
    unfold skL
    rw [List.pairwise_append]
    refine ⟨ih, ?_, ?_⟩
    · split
      · split <;> simp
      · simp
    · intro a ha b hb
      have h1 := (skL_holds.1 ha).1
      have h2 : b.1 = k := by
        split at hb
        · split at hb
          · simp at hb; rw [hb]
          · simp at hb
        · simp at hb
      omega

/-- a sum over a list of cells -/
def lsum {M : Nat} (l : List (Ix M)) (f : Nat → Nat) : Nat := (l.map fun x => f x.1).sum
theorem lsum_nil {M : Nat} (f : Nat → Nat) : lsum ([] : List (Ix M)) f = 0 := rfl
theorem lsum_cons {M : Nat} (x : Ix M) (l : List (Ix M)) (f : Nat → Nat) : lsum (x :: l) f = f x.1 + lsum l f := by simp [lsum]
theorem lsum_append {M : Nat} (a b : List (Ix M)) (f : Nat → Nat) : lsum (a ++ b) f = lsum a f + lsum b f := by simp [lsum]
theorem lsum_take {M : Nat} (l : List (Ix M)) (f : Nat → Nat) {k : Nat} (hk : k < l.length) : lsum (l.take (k + 1)) f = lsum (l.take k) f + f l[k].1 := by
  rw [List.take_succ_eq_append_getElem hk, lsum_append, lsum_cons, lsum_nil]; omega
theorem lsum_take_le {M : Nat} (l : List (Ix M)) (f : Nat → Nat) (k : Nat) : lsum (l.take k) f ≤ lsum l f := by
  have := lsum_append (l.take k) (l.drop k) f
  rw [List.take_append_drop] at this
  omega
theorem lsum_zero {M : Nat} : ∀ (l : List (Ix M)) (f : Nat → Nat), (∀ x, x ∈ l → f x.1 = 0) → lsum l f = 0
  | [], _, _ => rfl
  | x :: l, f, h => by rw [lsum_cons, h x (by simp), lsum_zero l f (fun y hy => h y (by simp [hy]))]
theorem lsum_add {M : Nat} : ∀ (l : List (Ix M)) (f g : Nat → Nat), lsum l (fun x => f x + g x) = lsum l f + lsum l g
  | [], _, _ => rfl
  | x :: l, f, g => by rw [lsum_cons, lsum_cons, lsum_cons, lsum_add l f g]; omega
theorem lsum_congr {M : Nat} : ∀ (l : List (Ix M)) {f g : Nat → Nat}, (∀ x, f x = g x) → lsum l f = lsum l g
  | [], _, _, _ => rfl
  | x :: l, f, g, h => by rw [lsum_cons, lsum_cons, h, lsum_congr l h]
theorem lsum_one {M : Nat} {z : Ix M} : ∀ {l : List (Ix M)}, l.Pairwise (fun a b => a.1 ≠ b.1) → z ∈ l → lsum l (fun s => if (z.1 : Int) = (s : Int) then 1 else 0) = 1
  | [], _, h => by cases h
  | x :: l, hp, h => by
    rw [List.pairwise_cons] at hp
    rw [lsum_cons]
    by_cases e : z = x
    · subst e
      rw [if_pos rfl, lsum_zero l _ (fun y hy => by rw [if_neg (fun k => hp.1 y hy (by omega))])]
    · have hm : z ∈ l := by
        rcases List.mem_cons.1 h with k | k
        · exact absurd k e
        · exact k
      rw [if_neg (fun k => hp.1 z hm (by omega)), lsum_one hp.2 hm]
theorem basin_sum {R C : Nat} {Z : Nat → Int} (hZ : ∀ x, x < R * C → 0 ≤ Z x ∧ Z x ≤ 99) : ∀ N, N ≤ R * C → lsum (skL R C Z (R * C)) (fun s => cntZ (ezV R C Z) (s : Int) N) = N
  | 0, _ => lsum_zero _ _ (fun _ _ => rfl)
  | N + 1, h => by
    have ih := basin_sum hZ N (by omega)
    have e : ∀ s : Nat, cntZ (ezV R C Z) (s : Int) (N + 1) = cntZ (ezV R C Z) (s : Int) N + (if ((endI R C Z ⟨N, by omega⟩).1 : Int) = (s : Int) then 1 else 0) := by
      intro s
      have h1 := ezV_at (R := R) (C := C) (Z := Z) ⟨N, by omega⟩
      by_cases hs : ezV R C Z N = (s : Int)
      · rw [cntZ_yes hs, if_pos (h1.symm.trans hs)]
      · rw [cntZ_no hs, if_neg (fun k => hs (h1.trans k))]; rfl
    rw [lsum_congr _ e, lsum_add, ih, lsum_one (skL_ne _) (skL_holds.2 ⟨(endI R C Z ⟨N, by omega⟩).2, endI_sink hZ _⟩)]

theorem RdI.at'' {lo hi : Nat} {w : World} {a : Option Addr} {n m c : Nat} {Z : Nat → Int} (h : RdI lo hi w (.slice a n c) m Z) {k : Nat} (hk : k < m) (z : Int) (hz : Z k = z) : ∃ b off, a = some ⟨b, off, none⟩ ∧ w.cell? ⟨b, off + k, none⟩ = some (.int .i64 z) ∧ n = m ∧ -9223372036854775808 ≤ z ∧ z ≤ 9223372036854775807 ∧ m ≤ c ∧ c ≤ 9223372036854775807 := by
  obtain ⟨ao, cp, b, off, e1, i2, i3, i4, i5, i6⟩ := h
  simp only [Value.slice.injEq] at e1
  obtain ⟨rfl, e2, rfl⟩ := e1
  obtain ⟨rfl, _, _⟩ := i5 (by omega)
  have := i4 k hk
  exact ⟨b, off, rfl, by rw [i6 k hk, hz], e2, by omega, by omega, i2, i3⟩

end Go.Proofs.Ytplfphpnpjjinaa
