/- Passes: what is reckoned. -/
import Derived.Test.YtlbdglhippapnabHpM
namespace Go.Proofs.Ytlbdglhippapnab
set_option linter.unusedVariables false

/-- some way leads from a to b without any height below q -/
inductive Rch (R C : Nat) (Z : Nat → Int) (q : Int) (a : Ix (R * C)) : Ix (R * C) → Prop
  | here (h : q ≤ Z a.1) : Rch R C Z q a a
  | step {b c : Ix (R * C)} (h : Rch R C Z q a b) (hn : c ∈ near R C b 4) (hc : q ≤ Z c.1) : Rch R C Z q a c
theorem Rch.low {R C : Nat} {Z : Nat → Int} {q q' : Int} {a b : Ix (R * C)} (h : Rch R C Z q a b) (hq : q' ≤ q) : Rch R C Z q' a b := by
  induction h with
  | here h => exact .here (by omega)
  | step h hn hc ih => exact .step ih hn (by omega)
theorem Rch.fst {R C : Nat} {Z : Nat → Int} {q : Int} {a b : Ix (R * C)} (h : Rch R C Z q a b) : q ≤ Z a.1 := by
  induction h with
  | here h => exact h
  | step h hn hc ih => exact ih
theorem Rch.lst {R C : Nat} {Z : Nat → Int} {q : Int} {a b : Ix (R * C)} (h : Rch R C Z q a b) : q ≤ Z b.1 := by
  cases h with
  | here h => exact h
  | step h hn hc => exact hc
/-- the first cell outside of a set -/
theorem Rch.leave {R C : Nat} {Z : Nat → Int} {q : Int} {a b : Ix (R * C)} (A : Ix (R * C) → Prop) (h : Rch R C Z q a b) (ha : A a) (hb : ¬ A b) : ∃ x y, A x ∧ y ∈ near R C x 4 ∧ ¬ A y ∧ q ≤ Z y.1 := by
  induction h with
  | here h => exact absurd ha hb
  | @step b c h hn hc ih =>
    by_cases hB : A b
    · exact ⟨b, c, hB, hn, hb, hc⟩
    · exact ih hB

/-- the pass between two cells -/
def IsPs (R C : Nat) (Z : Nat → Int) (a b : Ix (R * C)) (v : Int) : Prop := Rch R C Z v a b ∧ ∀ q, Rch R C Z q a b → q ≤ v
theorem IsPs.eq {R C : Nat} {Z : Nat → Int} {a b : Ix (R * C)} {v v' : Int} (h : IsPs R C Z a b v) (k : IsPs R C Z a b v') : v = v' := by
  have h1 := h.2 _ k.1
  have h2 := k.2 _ h.1
  omega

/-! All cells can be reached. -/
theorem nb_mem {R C : Nat} {i x : Ix (R * C)} {k : Nat} (hk : k < 4) (h : nb R C i k = some x) : x ∈ near R C i 4 := by
  unfold near
  rw [List.mem_filterMap]
  exact ⟨k, List.mem_range.2 hk, h⟩
theorem near_west {R C : Nat} {i : Ix (R * C)} (h : 0 < i.1 % C) : (⟨i.1 - 1, by have := i.2; omega⟩ : Ix (R * C)) ∈ near R C i 4 := nb_mem (k := 3) (by omega) (by simp [nb, h])
theorem near_north {R C : Nat} {i : Ix (R * C)} (h : C ≤ i.1) : (⟨i.1 - C, by have := i.2; omega⟩ : Ix (R * C)) ∈ near R C i 4 := nb_mem (k := 0) (by omega) (by simp [nb, h])
theorem near_east {R C : Nat} {i : Ix (R * C)} (h : i.1 % C + 1 < C) : (⟨i.1 + 1, east_lt i.2 h⟩ : Ix (R * C)) ∈ near R C i 4 := nb_mem (k := 1) (by omega) (by simp [nb, h])
theorem near_south {R C : Nat} {i : Ix (R * C)} (h : i.1 + C < R * C) : (⟨i.1 + C, h⟩ : Ix (R * C)) ∈ near R C i 4 := nb_mem (k := 2) (by omega) (by simp [nb, h])
theorem Rch.trans {R C : Nat} {Z : Nat → Int} {q : Int} {a b c : Ix (R * C)} (h : Rch R C Z q a b) (k : Rch R C Z q b c) : Rch R C Z q a c := by
  induction k with
  | here _ => exact h
  | step _ hn hc ih => exact .step ih hn hc
theorem rch_first {R C : Nat} {Z : Nat → Int} {q : Int} (hq : ∀ x, x < R * C → q ≤ Z x) : ∀ (k : Nat) (hk : k < R * C) (h0 : 0 < R * C), Rch R C Z q ⟨k, hk⟩ ⟨0, h0⟩ := by
  intro k
  induction k using Nat.strongRecOn with
  | ind k ih =>
    intro hk h0
    by_cases e : k = 0
    · subst e; exact .here (hq _ hk)
    · by_cases hm : 0 < k % C
      · exact (Rch.step (.here (hq k hk)) (near_west (i := ⟨k, hk⟩) hm) (hq _ (by show k - 1 < R * C; omega))).trans (ih (k - 1) (by omega) (by omega) h0)
      · have hC : C ≤ k := by
          rcases Nat.lt_or_ge k C with h | h
          · rw [Nat.mod_eq_of_lt h] at hm; omega
          · exact h
        have hC0 : 0 < C := by
          rcases Nat.eq_zero_or_pos C with h | h
          · subst h; simp at hk
          · exact h
        exact (Rch.step (.here (hq k hk)) (near_north (i := ⟨k, hk⟩) hC) (hq _ (by show k - C < R * C; omega))).trans (ih (k - C) (by omega) (by omega) h0)
theorem rch_from {R C : Nat} {Z : Nat → Int} {q : Int} (hq : ∀ x, x < R * C → q ≤ Z x) : ∀ (k : Nat) (hk : k < R * C) (h0 : 0 < R * C), Rch R C Z q ⟨0, h0⟩ ⟨k, hk⟩ := by
  intro k
  induction k using Nat.strongRecOn with
  | ind k ih =>
    intro hk h0
    have hC0 : 0 < C := by
      rcases Nat.eq_zero_or_pos C with h | h
      · subst h; simp at hk
      · exact h
    by_cases e : k = 0
    · subst e; exact .here (hq _ hk)
    · by_cases hm : 0 < k % C
      · have h1 := ih (k - 1) (by omega) (by omega) h0
        have e1 : (k - 1) % C + 1 = k % C := by
          have d := Nat.div_add_mod k C
          have : k - 1 = C * (k / C) + (k % C - 1) := by omega
          rw [this, Nat.mul_add_mod, Nat.mod_eq_of_lt (by have := Nat.mod_lt k hC0; omega)]
          omega
        have h2 := near_east (R := R) (i := ⟨k - 1, by omega⟩) (show (k - 1) % C + 1 < C by rw [e1]; exact Nat.mod_lt _ hC0)
        have e2 : (⟨k - 1 + 1, by omega⟩ : Ix (R * C)) = ⟨k, hk⟩ := Subtype.ext (by show k - 1 + 1 = k; omega)
        rw [e2] at h2
        exact .step h1 h2 (hq k hk)
      · have hC : C ≤ k := by
          rcases Nat.lt_or_ge k C with h | h
          · rw [Nat.mod_eq_of_lt h] at hm; omega
          · exact h
        have h1 := ih (k - C) (by omega) (by omega) h0
        have h2 := near_south (R := R) (i := ⟨k - C, by omega⟩) (show k - C + C < R * C by omega)
        have e2 : (⟨k - C + C, by omega⟩ : Ix (R * C)) = ⟨k, hk⟩ := Subtype.ext (by show k - C + C = k; omega)
        rw [e2] at h2
        exact .step h1 h2 (hq k hk)
theorem rch_all {R C : Nat} {Z : Nat → Int} {q : Int} (hq : ∀ x, x < R * C → q ≤ Z x) (a b : Ix (R * C)) : Rch R C Z q a b :=
  (rch_first hq a.1 a.2 (by have := a.2; omega)).trans (rch_from hq b.1 b.2 _)

/-- what has been visited, with the passes: L; what is ahead: S; of the neighbors of the last one those of pre have been looked at -/
structure PsI (R C : Nat) (Z : Nat → Int) (st : Ix (R * C)) (L : List (Ix (R * C) × Int)) (S : Nat → Prop) (p : Int) (pend : Ix (R * C) → Ix (R * C) → Prop) : Prop where
  ok : ∀ e ∈ L, IsPs R C Z st e.1 e.2
  low : ∀ e ∈ L, p ≤ e.2
  mono : L.Pairwise fun a b => b.2 ≤ a.2
  nodup : (L.map Prod.fst).Nodup
  fr : ∀ y : Ix (R * C), S y.1 → y ∉ L.map Prod.fst ∧ Rch R C Z (min p (Z y.1)) st y
  cl : ∀ x ∈ L.map Prod.fst, ∀ n ∈ near R C x 4, n ∈ L.map Prod.fst ∨ S n.1 ∨ pend x n
  ub : ∀ z, z ∉ L.map Prod.fst → ∀ q, Rch R C Z q st z → q ≤ p
  st0 : st ∈ L.map Prod.fst ∨ S st.1
  lt : ∀ y, S y → y < R * C
  p99 : p ≤ 99

theorem PsI.start {R C : Nat} {Z : Nat → Int} (st : Ix (R * C)) (hZ : ∀ x, x < R * C → 0 ≤ Z x ∧ Z x ≤ 99) : PsI R C Z st [] (fun y => y = st.1) 99 (fun _ _ => False) := by
  refine ⟨fun e h => by simp at h, fun e h => by simp at h, List.Pairwise.nil, by simp, fun y hy => ⟨by simp, ?_⟩, fun x h => by simp at h, fun z _ q h => ?_, Or.inr rfl, fun y hy => by rw [hy]; exact st.2, by omega⟩
  · have e : y = st := Subtype.ext hy
    subst e
    exact .here (Int.min_le_right _ _)
  · have h1 := h.lst
    have := hZ z.1 z.2
    omega

/-- the highest of those ahead is visited -/
theorem PsI.visit {R C : Nat} {Z : Nat → Int} {st : Ix (R * C)} {L : List (Ix (R * C) × Int)} {S : Nat → Prop} {p : Int} (h : PsI R C Z st L S p (fun _ _ => False)) (y : Ix (R * C)) (hy : S y.1) (ht : ∀ z, S z → hiB Z z y.1 = false) :
    PsI R C Z st (L ++ [(y, min p (Z y.1))]) (fun z => S z ∧ z ≠ y.1) (min p (Z y.1)) (fun x _ => x = y) ∧ IsPs R C Z st y (min p (Z y.1)) := by
  have hm : ∀ x, x ∈ (L ++ [(y, min p (Z y.1))]).map Prod.fst ↔ x ∈ L.map Prod.fst ∨ x = y := fun x => by simp
  have htop : ∀ z : Nat, S z → Z z ≤ Z y.1 := fun z hz => by
    have := ht z hz
    rw [hiB_niff] at this
    omega
  have hq : ∀ z, z ∉ L.map Prod.fst → ∀ q, Rch R C Z q st z → q ≤ min p (Z y.1) := fun z hz q hr => by
    have h1 := h.ub z hz q hr
    have h2 : q ≤ Z y.1 := by
      rcases h.st0 with hs | hs
      · obtain ⟨a, b, ha, hb, hc, hd⟩ := hr.leave (fun x => x ∈ L.map Prod.fst) hs hz
        rcases h.cl a ha b hb with k | k | k
        · exact absurd k hc
        · have := htop _ k; omega
        · exact k.elim
      · have := htop _ hs
        have := hr.fst
        omega
    omega
  have hps : IsPs R C Z st y (min p (Z y.1)) := ⟨(h.fr y hy).2, fun q hr => hq y (h.fr y hy).1 q hr⟩
  refine ⟨⟨fun e he => ?_, fun e he => ?_, ?_, ?_, fun z hz => ⟨fun k => ?_, (h.fr z hz.1).2.low (by omega)⟩, fun x hx n hn => ?_, fun z hz q hr => hq z (fun k => hz ((hm z).2 (Or.inl k))) q hr, ?_, fun z hz => h.lt z hz.1, by have := h.p99; omega⟩, hps⟩
  · rcases List.mem_append.1 he with k | k
    · exact h.ok e k
    · rw [List.mem_singleton] at k; subst k; exact hps
  · rcases List.mem_append.1 he with k | k
    · have := h.low e k; omega
    · rw [List.mem_singleton] at k; subst k; exact Int.le_refl _
  · rw [List.pairwise_append]
    exact ⟨h.mono, by simp, fun a ha b hb => by rw [List.mem_singleton] at hb; subst hb; have := h.low a ha; show min p (Z y.1) ≤ a.2; omega⟩
  · rw [List.map_append, List.nodup_append]
    exact ⟨h.nodup, by simp, fun a ha b hb e => by
      simp only [List.map_cons, List.map_nil, List.mem_singleton] at hb
      subst hb; subst e
      exact (h.fr a hy).1 ha⟩
  · rcases (hm z).1 k with k | k
    · exact (h.fr z hz.1).1 k
    · exact hz.2 (by rw [k])
  · rcases (hm x).1 hx with k | k
    · rcases h.cl x k n hn with a | a | a
      · exact Or.inl ((hm n).2 (Or.inl a))
      · by_cases e : n.1 = y.1
        · exact Or.inl ((hm n).2 (Or.inr (Subtype.ext e)))
        · exact Or.inr (Or.inl ⟨a, e⟩)
      · exact a.elim
    · exact Or.inr (Or.inr k)
  · rcases h.st0 with k | k
    · exact Or.inl ((hm st).2 (Or.inl k))
    · by_cases e : st.1 = y.1
      · exact Or.inl ((hm st).2 (Or.inr (Subtype.ext e)))
      · exact Or.inr ⟨k, e⟩

/-- what remains pending of y's neighbors behind pre -/
def Pd {R C : Nat} (y : Ix (R * C)) (pre : List (Ix (R * C))) (x n : Ix (R * C)) : Prop := x = y ∧ n ∉ pre
theorem PsI.begin {R C : Nat} {Z : Nat → Int} {st y : Ix (R * C)} {L : List (Ix (R * C) × Int)} {S : Nat → Prop} {p : Int} (h : PsI R C Z st L S p (fun x _ => x = y)) : PsI R C Z st L S p (Pd y []) :=
  ⟨h.ok, h.low, h.mono, h.nodup, h.fr, fun x hx n hn => (h.cl x hx n hn).imp id (Or.imp id fun e => ⟨e, by simp⟩), h.ub, h.st0, h.lt, h.p99⟩
/-- a neighbor that was found before -/
theorem PsI.old {R C : Nat} {Z : Nat → Int} {st y n : Ix (R * C)} {L : List (Ix (R * C) × Int)} {S : Nat → Prop} {p : Int} {pre : List (Ix (R * C))} (h : PsI R C Z st L S p (Pd y pre)) (hn : n ∈ L.map Prod.fst ∨ S n.1) : PsI R C Z st L S p (Pd y (pre ++ [n])) :=
  ⟨h.ok, h.low, h.mono, h.nodup, h.fr, fun x hx m hm => by
    rcases h.cl x hx m hm with k | k | ⟨k1, k2⟩
    · exact Or.inl k
    · exact Or.inr (Or.inl k)
    · by_cases e : m = n
      · subst e
        exact hn.imp id Or.inl
      · exact Or.inr (Or.inr ⟨k1, by rw [List.mem_append, List.mem_singleton]; exact fun k => k.elim k2 e⟩), h.ub, h.st0, h.lt, h.p99⟩
/-- a neighbor that is found now -/
theorem PsI.new {R C : Nat} {Z : Nat → Int} {st y n : Ix (R * C)} {L : List (Ix (R * C) × Int)} {S : Nat → Prop} {p : Int} {pre : List (Ix (R * C))} (h : PsI R C Z st L S p (Pd y pre)) (hy : IsPs R C Z st y p) (hn : n ∈ near R C y 4) (h1 : n ∉ L.map Prod.fst) (h2 : ¬ S n.1) :
    PsI R C Z st L (fun z => S z ∨ z = n.1) p (Pd y (pre ++ [n])) := by
  refine ⟨h.ok, h.low, h.mono, h.nodup, fun z hz => ?_, fun x hx m hm => ?_, h.ub, h.st0.imp id Or.inl, fun z hz => ?_, h.p99⟩
  · rcases hz with k | k
    · exact h.fr z k
    · have e : z = n := Subtype.ext k
      subst e
      exact ⟨h1, .step (hy.1.low (Int.min_le_left _ _)) hn (Int.min_le_right _ _)⟩
  · rcases h.cl x hx m hm with k | k | ⟨k1, k2⟩
    · exact Or.inl k
    · exact Or.inr (Or.inl (Or.inl k))
    · by_cases e : m = n
      · subst e; exact Or.inr (Or.inl (Or.inr rfl))
      · exact Or.inr (Or.inr ⟨k1, by rw [List.mem_append, List.mem_singleton]; exact fun k => k.elim k2 e⟩)
  · rcases hz with k | k
    · exact h.lt z k
    · rw [k]; exact n.2
theorem PsI.finish {R C : Nat} {Z : Nat → Int} {st y : Ix (R * C)} {L : List (Ix (R * C) × Int)} {S : Nat → Prop} {p : Int} (h : PsI R C Z st L S p (Pd y (near R C y 4))) : PsI R C Z st L S p (fun _ _ => False) :=
  ⟨h.ok, h.low, h.mono, h.nodup, h.fr, fun x hx n hn => by
    rcases h.cl x hx n hn with k | k | ⟨k1, k2⟩
    · exact Or.inl k
    · exact Or.inr (Or.inl k)
    · subst k1; exact absurd hn k2, h.ub, h.st0, h.lt, h.p99⟩

/-- what the passes' iterator gives -/
structure Vis (R C : Nat) (Z : Nat → Int) (st : Ix (R * C)) (L : List (Ix (R * C) × Int)) : Prop where
  ok : ∀ e ∈ L, IsPs R C Z st e.1 e.2
  mono : L.Pairwise fun a b => b.2 ≤ a.2
  nodup : (L.map Prod.fst).Nodup
  ub : ∀ z, z ∉ L.map Prod.fst → ∀ q, Rch R C Z q st z → ∀ e ∈ L, q ≤ e.2
theorem PsI.vis {R C : Nat} {Z : Nat → Int} {st : Ix (R * C)} {L : List (Ix (R * C) × Int)} {S : Nat → Prop} {p : Int} {pd : Ix (R * C) → Ix (R * C) → Prop} (h : PsI R C Z st L S p pd) : Vis R C Z st L :=
  ⟨h.ok, h.mono, h.nodup, fun z hz q hr e he => by have := h.ub z hz q hr; have := h.low e he; omega⟩
theorem PsI.all {R C : Nat} {Z : Nat → Int} {st : Ix (R * C)} {L : List (Ix (R * C) × Int)} {S : Nat → Prop} {p : Int} (h : PsI R C Z st L S p (fun _ _ => False)) (hS : ∀ y, ¬ S y) (hZ : ∀ x, x < R * C → 0 ≤ Z x ∧ Z x ≤ 99) (x : Ix (R * C)) : x ∈ L.map Prod.fst := by
  apply Classical.byContradiction
  intro hx
  have hr : Rch R C Z 0 st x := rch_all (fun x hx => (hZ x hx).1) st x
  obtain ⟨a, b, ha, hb, hc, _⟩ := hr.leave (fun x => x ∈ L.map Prod.fst) (h.st0.resolve_right (hS _)) hx
  rcases h.cl a ha b hb with k | k | k
  · exact hc k
  · exact hS _ k
  · exact k

end Go.Proofs.Ytlbdglhippapnab
