/- Passes: what is reckoned. -/
import Derived.Test.YtcfeckpbjdipeaaPkZ
import Derived.Test.YtcfeckpbjdipeaaStop
import Derived.Test.YtcfeckpbjdipeaaHpI
import Derived.Test.YtcfeckpbjdipeaaPkLI
import Derived.Test.YtcfeckpbjdipeaaLvZ
import Derived.Sort.LoopGhostIn
namespace Go.Proofs.Ytcfeckpbjdipeaa
set_option linter.unusedVariables false

/-- some way leads from a to b without any height below q -/
inductive Rch (R C : Nat) (Z : Nat → Int) (q : Int) (a : Ix (R * C)) : Ix (R * C) → Prop
  | here (h : q ≤ Z a.1) : Rch R C Z q a a
  | step {b c : Ix (R * C)} (h : Rch R C Z q a b) (hn : c ∈ near R C b 4) (hc : q ≤ Z c.1) : Rch R C Z q a c
theorem Rch.low {R C : Nat} {Z : Nat → Int} {q q' : Int} {a b : Ix (R * C)} (h : Rch R C Z q a b) (hq : q' ≤ q) : Rch R C Z q' a b := by
  induction h with
  | here h => exact .here (by omega)
  | step h hn hc ih => exact .step ih hn (by omega)
theorem Rch.fst {R C : Nat} {Z : Nat → Int} {q : Int} {a b : Ix (R * C)} (h : Rch R C Z q a b) : q ≤ Z a.1 := by
  induction h with
  | here h => exact h
  | step h hn hc ih => exact ih
theorem Rch.lst {R C : Nat} {Z : Nat → Int} {q : Int} {a b : Ix (R * C)} (h : Rch R C Z q a b) : q ≤ Z b.1 := by
  cases h with
  | here h => exact h
  | step h hn hc => exact hc
/-- the first cell outside of a set -/
theorem Rch.leave {R C : Nat} {Z : Nat → Int} {q : Int} {a b : Ix (R * C)} (A : Ix (R * C) → Prop) (h : Rch R C Z q a b) (ha : A a) (hb : ¬ A b) : ∃ x y, A x ∧ y ∈ near R C x 4 ∧ ¬ A y ∧ q ≤ Z y.1 := by
  induction h with
  | here h => exact absurd ha hb
  | @step b c h hn hc ih =>
    by_cases hB : A b
    · exact ⟨b, c, hB, hn, hb, hc⟩
    · exact ih hB

/-- the pass between two cells -/
def IsPs (R C : Nat) (Z : Nat → Int) (a b : Ix (R * C)) (v : Int) : Prop := Rch R C Z v a b ∧ ∀ q, Rch R C Z q a b → q ≤ v
theorem IsPs.eq {R C : Nat} {Z : Nat → Int} {a b : Ix (R * C)} {v v' : Int} (h : IsPs R C Z a b v) (k : IsPs R C Z a b v') : v = v' := by
  have h1 := h.2 _ k.1
  have h2 := k.2 _ h.1
  omega

/-! All cells can be reached. -/
theorem nb_mem {R C : Nat} {i x : Ix (R * C)} {k : Nat} (hk : k < 4) (h : nb R C i k = some x) : x ∈ near R C i 4 := by
  unfold near
  rw [List.mem_filterMap]
  exact ⟨k, List.mem_range.2 hk, h⟩
theorem near_west {R C : Nat} {i : Ix (R * C)} (h : 0 < i.1 % C) : (⟨i.1 - 1, by have := i.2; omega⟩ : Ix (R * C)) ∈ near R C i 4 := nb_mem (k := 3) (by omega) (by simp [nb, h])
theorem near_north {R C : Nat} {i : Ix (R * C)} (h : C ≤ i.1) : (⟨i.1 - C, by have := i.2; omega⟩ : Ix (R * C)) ∈ near R C i 4 := nb_mem (k := 0) (by omega) (by simp [nb, h])
theorem near_east {R C : Nat} {i : Ix (R * C)} (h : i.1 % C + 1 < C) : (⟨i.1 + 1, east_lt i.2 h⟩ : Ix (R * C)) ∈ near R C i 4 := nb_mem (k := 1) (by omega) (by simp [nb, h])
theorem near_south {R C : Nat} {i : Ix (R * C)} (h : i.1 + C < R * C) : (⟨i.1 + C, h⟩ : Ix (R * C)) ∈ near R C i 4 := nb_mem (k := 2) (by omega) (by simp [nb, h])
theorem Rch.trans {R C : Nat} {Z : Nat → Int} {q : Int} {a b c : Ix (R * C)} (h : Rch R C Z q a b) (k : Rch R C Z q b c) : Rch R C Z q a c := by
  induction k with
  | here _ => exact h
  | step _ hn hc ih => exact .step ih hn hc
theorem rch_first {R C : Nat} {Z : Nat → Int} {q : Int} (hq : ∀ x, x < R * C → q ≤ Z x) : ∀ (k : Nat) (hk : k < R * C) (h0 : 0 < R * C), Rch R C Z q ⟨k, hk⟩ ⟨0, h0⟩ := by
  intro k
  induction k using Nat.strongRecOn with
  | ind k ih =>
    intro hk h0
    by_cases e : k = 0
    · subst e; exact .here (hq _ hk)
    · by_cases hm : 0 < k % C
      · exact (Rch.step (.here (hq k hk)) (near_west (i := ⟨k, hk⟩) hm) (hq _ (by show k - 1 < R * C; omega))).trans (ih (k - 1) (by omega) (by omega) h0)
      · have hC : C ≤ k := by
          rcases Nat.lt_or_ge k C with h | h
          · rw [Nat.mod_eq_of_lt h] at hm; omega
          · exact h
        have hC0 : 0 < C := by
          rcases Nat.eq_zero_or_pos C with h | h
          · subst h; simp at hk
          · exact h
        exact (Rch.step (.here (hq k hk)) (near_north (i := ⟨k, hk⟩) hC) (hq _ (by show k - C < R * C; omega))).trans (ih (k - C) (by omega) (by omega) h0)
theorem rch_from {R C : Nat} {Z : Nat → Int} {q : Int} (hq : ∀ x, x < R * C → q ≤ Z x) : ∀ (k : Nat) (hk : k < R * C) (h0 : 0 < R * C), Rch R C Z q ⟨0, h0⟩ ⟨k, hk⟩ := by
  intro k
  induction k using Nat.strongRecOn with
  | ind k ih =>
    intro hk h0
    have hC0 : 0 < C := by
      rcases Nat.eq_zero_or_pos C with h | h
      · subst h; simp at hk
      · exact h
    by_cases e : k = 0
    · subst e; exact .here (hq _ hk)
    · by_cases hm : 0 < k % C
      · have h1 := ih (k - 1) (by omega) (by omega) h0
        have e1 : (k - 1) % C + 1 = k % C := by
          have d := Nat.div_add_mod k C
          have : k - 1 = C * (k / C) + (k % C - 1) := by omega
          rw [this, Nat.mul_add_mod, Nat.mod_eq_of_lt (by have := Nat.mod_lt k hC0; omega)]
          omega
        have h2 := near_east (R := R) (i := ⟨k - 1, by omega⟩) (show (k - 1) % C + 1 < C by rw [e1]; exact Nat.mod_lt _ hC0)
        have e2 : (⟨k - 1 + 1, by omega⟩ : Ix (R * C)) = ⟨k, hk⟩ := Subtype.ext (by show k - 1 + 1 = k; omega)
        rw [e2] at h2
        exact .step h1 h2 (hq k hk)
      · have hC : C ≤ k := by
          rcases Nat.lt_or_ge k C with h | h
          · rw [Nat.mod_eq_of_lt h] at hm; omega
          · exact h
        have h1 := ih (k - C) (by omega) (by omega) h0
        have h2 := near_south (R := R) (i := ⟨k - C, by omega⟩) (show k - C + C < R * C by omega)
        have e2 : (⟨k - C + C, by omega⟩ : Ix (R * C)) = ⟨k, hk⟩ := Subtype.ext (by show k - C + C = k; omega)
        rw [e2] at h2
        exact .step h1 h2 (hq k hk)
theorem rch_all {R C : Nat} {Z : Nat → Int} {q : Int} (hq : ∀ x, x < R * C → q ≤ Z x) (a b : Ix (R * C)) : Rch R C Z q a b :=
  (rch_first hq a.1 a.2 (by have := a.2; omega)).trans (rch_from hq b.1 b.2 _)

/-- what has been visited, with the passes: L; what is ahead: S; of the neighbors of the last one those of pre have been looked at -/
structure PsI (R C : Nat) (Z : Nat → Int) (st : Ix (R * C)) (L : List (Ix (R * C) × Int)) (S : Nat → Prop) (p : Int) (pend : Ix (R * C) → Ix (R * C) → Prop) : Prop where
  ok : ∀ e ∈ L, IsPs R C Z st e.1 e.2
  low : ∀ e ∈ L, p ≤ e.2
  mono : L.Pairwise fun a b => b.2 ≤ a.2
  nodup : (L.map Prod.fst).Nodup
  fr : ∀ y : Ix (R * C), S y.1 → y ∉ L.map Prod.fst ∧ Rch R C Z (min p (Z y.1)) st y
  cl : ∀ x ∈ L.map Prod.fst, ∀ n ∈ near R C x 4, n ∈ L.map Prod.fst ∨ S n.1 ∨ pend x n
  ub : ∀ z, z ∉ L.map Prod.fst → ∀ q, Rch R C Z q st z → q ≤ p
  st0 : st ∈ L.map Prod.fst ∨ S st.1
  lt : ∀ y, S y → y < R * C
  p99 : p ≤ 99

theorem PsI.start {R C : Nat} {Z : Nat → Int} (st : Ix (R * C)) (hZ : ∀ x, x < R * C → 0 ≤ Z x ∧ Z x ≤ 99) : PsI R C Z st [] (fun y => y = st.1) 99 (fun _ _ => False) := by
  refine ⟨fun e h => by simp at h, fun e h => by simp at h, List.Pairwise.nil, by simp, fun y hy => ⟨by simp, ?_⟩, fun x h => by simp at h, fun z _ q h => ?_, Or.inr rfl, fun y hy => by rw [hy]; exact st.2, by omega⟩
  · have e : y = st := Subtype.ext hy
    subst e
    exact .here (Int.min_le_right _ _)
  · have h1 := h.lst
    have := hZ z.1 z.2
    omega

/-- the highest of those ahead is visited -/
theorem PsI.visit {R C : Nat} {Z : Nat → Int} {st : Ix (R * C)} {L : List (Ix (R * C) × Int)} {S : Nat → Prop} {p : Int} (h : PsI R C Z st L S p (fun _ _ => False)) (y : Ix (R * C)) (hy : S y.1) (ht : ∀ z, S z → hiB Z z y.1 = false) :
    PsI R C Z st (L ++ [(y, min p (Z y.1))]) (fun z => S z ∧ z ≠ y.1) (min p (Z y.1)) (fun x _ => x = y) ∧ IsPs R C Z st y (min p (Z y.1)) := by
  have hm : ∀ x, x ∈ (L ++ [(y, min p (Z y.1))]).map Prod.fst ↔ x ∈ L.map Prod.fst ∨ x = y := fun x => by simp
  have htop : ∀ z : Nat, S z → Z z ≤ Z y.1 := fun z hz => by
    have := ht z hz
    rw [hiB_niff] at this
    omega
  have hq : ∀ z, z ∉ L.map Prod.fst → ∀ q, Rch R C Z q st z → q ≤ min p (Z y.1) := fun z hz q hr => by
    have h1 := h.ub z hz q hr
    have h2 : q ≤ Z y.1 := by
      rcases h.st0 with hs | hs
      · obtain ⟨a, b, ha, hb, hc, hd⟩ := hr.leave (fun x => x ∈ L.map Prod.fst) hs hz
        rcases h.cl a ha b hb with k | k | k
        · exact absurd k hc
        · have := htop _ k; omega
        · exact k.elim
      · have := htop _ hs
        have := hr.fst
        omega
    omega
  have hps : IsPs R C Z st y (min p (Z y.1)) := ⟨(h.fr y hy).2, fun q hr => hq y (h.fr y hy).1 q hr⟩
  refine ⟨⟨fun e he => ?_, fun e he => ?_, ?_, ?_, fun z hz => ⟨fun k => ?_, (h.fr z hz.1).2.low (by omega)⟩, fun x hx n hn => ?_, fun z hz q hr => hq z (fun k => hz ((hm z).2 (Or.inl k))) q hr, ?_, fun z hz => h.lt z hz.1, by have := h.p99; omega⟩, hps⟩
  · rcases List.mem_append.1 he with k | k
    · exact h.ok e k
    · rw [List.mem_singleton] at k; subst k; exact hps
  · rcases List.mem_append.1 he with k | k
    · have := h.low e k; omega
    · rw [List.mem_singleton] at k; subst k; exact Int.le_refl _
  · rw [List.pairwise_append]
    exact ⟨h.mono, by simp, fun a ha b hb => by rw [List.mem_singleton] at hb; subst hb; have := h.low a ha; show min p (Z y.1) ≤ a.2; omega⟩
  · rw [List.map_append, List.nodup_append]
    exact ⟨h.nodup, by simp, fun a ha b hb e => by
      simp only [List.map_cons, List.map_nil, List.mem_singleton] at hb
      subst hb; subst e
      exact (h.fr a hy).1 ha⟩
  · rcases (hm z).1 k with k | k
    · exact (h.fr z hz.1).1 k
    · exact hz.2 (by rw [k])
  · rcases (hm x).1 hx with k | k
    · rcases h.cl x k n hn with a | a | a
      · exact Or.inl ((hm n).2 (Or.inl a))
      · by_cases e : n.1 = y.1
        · exact Or.inl ((hm n).2 (Or.inr (Subtype.ext e)))
        · exact Or.inr (Or.inl ⟨a, e⟩)
      · exact a.elim
    · exact Or.inr (Or.inr k)
  · rcases h.st0 with k | k
    · exact Or.inl ((hm st).2 (Or.inl k))
    · by_cases e : st.1 = y.1
      · exact Or.inl ((hm st).2 (Or.inr (Subtype.ext e)))
      · exact Or.inr ⟨k, e⟩

/-- what remains pending of y's neighbors behind pre -/
def Pd {R C : Nat} (y : Ix (R * C)) (pre : List (Ix (R * C))) (x n : Ix (R * C)) : Prop := x = y ∧ n ∉ pre
theorem PsI.begin {R C : Nat} {Z : Nat → Int} {st y : Ix (R * C)} {L : List (Ix (R * C) × Int)} {S : Nat → Prop} {p : Int} (h : PsI R C Z st L S p (fun x _ => x = y)) : PsI R C Z st L S p (Pd y []) :=
  ⟨h.ok, h.low, h.mono, h.nodup, h.fr, fun x hx n hn => (h.cl x hx n hn).imp id (Or.imp id fun e => ⟨e, by simp⟩), h.ub, h.st0, h.lt, h.p99⟩
/-- a neighbor that was found before -/
theorem PsI.old {R C : Nat} {Z : Nat → Int} {st y n : Ix (R * C)} {L : List (Ix (R * C) × Int)} {S : Nat → Prop} {p : Int} {pre : List (Ix (R * C))} (h : PsI R C Z st L S p (Pd y pre)) (hn : n ∈ L.map Prod.fst ∨ S n.1) : PsI R C Z st L S p (Pd y (pre ++ [n])) :=
  ⟨h.ok, h.low, h.mono, h.nodup, h.fr, fun x hx m hm => by
    rcases h.cl x hx m hm with k | k | ⟨k1, k2⟩
    · exact Or.inl k
    · exact Or.inr (Or.inl k)
    · by_cases e : m = n
      · subst e
        exact hn.imp id Or.inl
      · exact Or.inr (Or.inr ⟨k1, by rw [List.mem_append, List.mem_singleton]; exact fun k => k.elim k2 e⟩), h.ub, h.st0, h.lt, h.p99⟩
/-- a neighbor that is found now -/
theorem PsI.new {R C : Nat} {Z : Nat → Int} {st y n : Ix (R * C)} {L : List (Ix (R * C) × Int)} {S : Nat → Prop} {p : Int} {pre : List (Ix (R * C))} (h : PsI R C Z st L S p (Pd y pre)) (hy : IsPs R C Z st y p) (hn : n ∈ near R C y 4) (h1 : n ∉ L.map Prod.fst) (h2 : ¬ S n.1) :
    PsI R C Z st L (fun z => S z ∨ z = n.1) p (Pd y (pre ++ [n])) := by
  refine ⟨h.ok, h.low, h.mono, h.nodup, fun z hz => ?_, fun x hx m hm => ?_, h.ub, h.st0.imp id Or.inl, fun z hz => ?_, h.p99⟩
  · rcases hz with k | k
    · exact h.fr z k
    · have e : z = n := Subtype.ext k
      subst e
      exact ⟨h1, .step (hy.1.low (Int.min_le_left _ _)) hn (Int.min_le_right _ _)⟩
  · rcases h.cl x hx m hm with k | k | ⟨k1, k2⟩
    · exact Or.inl k
    · exact Or.inr (Or.inl (Or.inl k))
    · by_cases e : m = n
      · subst e; exact Or.inr (Or.inl (Or.inr rfl))
      · exact Or.inr (Or.inr ⟨k1, by rw [List.mem_append, List.mem_singleton]; exact fun k => k.elim k2 e⟩)
  · rcases hz with k | k
    · exact h.lt z k
    · rw [k]; exact n.2
theorem PsI.finish {R C : Nat} {Z : Nat → Int} {st y : Ix (R * C)} {L : List (Ix (R * C) × Int)} {S : Nat → Prop} {p : Int} (h : PsI R C Z st L S p (Pd y (near R C y 4))) : PsI R C Z st L S p (fun _ _ => False) :=
  ⟨h.ok, h.low, h.mono, h.nodup, h.fr, fun x hx n hn => by
    rcases h.cl x hx n hn with k | k | ⟨k1, k2⟩
    · exact Or.inl k
    · exact Or.inr (Or.inl k)
    · subst k1; exact absurd hn k2, h.ub, h.st0, h.lt, h.p99⟩

/-- what the passes' iterator gives -/
structure Vis (R C : Nat) (Z : Nat → Int) (st : Ix (R * C)) (L : List (Ix (R * C) × Int)) : Prop where
  ok : ∀ e ∈ L, IsPs R C Z st e.1 e.2
  mono : L.Pairwise fun a b => b.2 ≤ a.2
  nodup : (L.map Prod.fst).Nodup
  ub : ∀ z, z ∉ L.map Prod.fst → ∀ q, Rch R C Z q st z → ∀ e ∈ L, q ≤ e.2
theorem PsI.vis {R C : Nat} {Z : Nat → Int} {st : Ix (R * C)} {L : List (Ix (R * C) × Int)} {S : Nat → Prop} {p : Int} {pd : Ix (R * C) → Ix (R * C) → Prop} (h : PsI R C Z st L S p pd) : Vis R C Z st L :=
  ⟨h.ok, h.mono, h.nodup, fun z hz q hr e he => by have := h.ub z hz q hr; have := h.low e he; omega⟩
theorem PsI.all {R C : Nat} {Z : Nat → Int} {st : Ix (R * C)} {L : List (Ix (R * C) × Int)} {S : Nat → Prop} {p : Int} (h : PsI R C Z st L S p (fun _ _ => False)) (hS : ∀ y, ¬ S y) (hZ : ∀ x, x < R * C → 0 ≤ Z x ∧ Z x ≤ 99) (x : Ix (R * C)) : x ∈ L.map Prod.fst := by
  apply Classical.byContradiction
  intro hx
  have hr : Rch R C Z 0 st x := rch_all (fun x hx => (hZ x hx).1) st x
  obtain ⟨a, b, ha, hb, hc, _⟩ := hr.leave (fun x => x ∈ L.map Prod.fst) (h.st0.resolve_right (hS _)) hx
  rcases h.cl a ha b hb with k | k | k
  · exact hc k
  · exact hS _ k
  · exact k

end Go.Proofs.Ytcfeckpbjdipeaa

/- The program's iterator over the passes. -/
namespace Go.Proofs.Ytcfeckpbjdipeaa
open Go.RowKit Go.Shelf
set_option linter.unusedVariables false
attribute [local go_sem] Oper.semAt_some

/-- from s on, and at Bm and gg, all blocks lie as they lay -/
structure KqP (Bm gg s : Nat) (A B : World) : Prop where
  size : A.heap.size ≤ B.heap.size
  same : ∀ k, (s ≤ k ∨ k = Bm ∨ k = gg) → k < A.heap.size → B.heap[k]? = A.heap[k]?
theorem KqP.refl (Bm gg s : Nat) (A : World) : KqP Bm gg s A A := ⟨Nat.le_refl _, fun _ _ _ => rfl⟩
theorem KqP.trans {Bm gg s : Nat} {A B C : World} (h : KqP Bm gg s A B) (k : KqP Bm gg s B C) : KqP Bm gg s A C :=
  ⟨Nat.le_trans h.size k.size, fun i hi hlt => (k.same i hi (Nat.lt_of_lt_of_le hlt h.size)).trans (h.same i hi hlt)⟩
theorem KqP.of_below {Bm gg s : Nat} {A B : World} (h : Below A.heap.size A B) : KqP Bm gg s A B := ⟨h.size, fun k _ hk => h.block k hk⟩

/-- the iterator's memory: W: the world in which it was called -/
structure PzM (W V : World) (Bm R C cnt gg cap hb fb xb : Nat) (Z : Nat → Int) (S : Nat → Prop) (G : Ix (R * C) → Prop) (n : Nat) (f : Nat → Nat) (ob : Option Nat) (F : Nat → Bool) : Prop where
  hp : HpW V hb ob Z f n
  hs : HpS Z f n S
  nle : n ≤ R * C
  fd : V.rowIs fb 4 cnt (fun k => .bool (F k))
  hF : ∀ x : Ix (R * C), F x.1 = true ↔ G x
  bx : V.heap[xb]? = some (.cells #[.slice (some ⟨fb, 0, none⟩) cnt cnt] 120 (0, 0))
  lay : V.heap[Bm]? = some (.cells #[.int .i64 R, .int .i64 C, .slice (some ⟨gg, 0, none⟩) cnt cap] 50 (0, 0))
  rv : Rv V R C cnt gg cap Z
  old : Bm < W.heap.size ∧ gg < W.heap.size
  far : W.heap.size ≤ hb ∧ W.heap.size ≤ fb ∧ W.heap.size ≤ xb ∧ hb ≠ fb ∧ hb ≠ xb ∧ fb ≠ xb ∧ ∀ b, ob = some b → b ≠ fb ∧ b ≠ xb ∧ W.heap.size ≤ b
  szW : W.heap.size ≤ V.heap.size

theorem PzM.kq {W V V2 : World} {Bm R C cnt gg cap hb fb xb n : Nat} {Z : Nat → Int} {S : Nat → Prop} {G : Ix (R * C) → Prop} {f : Nat → Nat} {ob : Option Nat} {F : Nat → Bool} (h : PzM W V Bm R C cnt gg cap hb fb xb Z S G n f ob F) (k : KqP Bm gg W.heap.size V V2) : PzM W V2 Bm R C cnt gg cap hb fb xb Z S G n f ob F := by
  obtain ⟨h1, h2, h3, h4, h5, h6, h7⟩ := h.far
  exact ⟨h.hp.keep (k.same _ (Or.inl h1) h.hp.far.1) (fun b e => k.same _ (Or.inl (h7 b e).2.2) (h.hp.far.2 b e).2), h.hs, h.nle, h.fd.of_block (k.same _ (Or.inl h2) h.fd.lt), h.hF, (k.same _ (Or.inl h3) (lt_of_block h.bx)).trans h.bx,
    (k.same _ (Or.inr (Or.inl rfl)) (lt_of_block h.lay)).trans h.lay, ⟨h.rv.n_eq, Nat.lt_of_lt_of_le h.rv.lt k.size, h.rv.le, fun i hi => (World.cell?_of_block (a := ⟨gg, i, none⟩) (k.same _ (Or.inr (Or.inr rfl)) h.rv.lt)).trans (h.rv.cell i hi)⟩, h.old, h.far, Nat.le_trans h.szW k.size⟩
theorem PzM.below {W V V2 : World} {Bm R C cnt gg cap hb fb xb n : Nat} {Z : Nat → Int} {S : Nat → Prop} {G : Ix (R * C) → Prop} {f : Nat → Nat} {ob : Option Nat} {F : Nat → Bool} (h : PzM W V Bm R C cnt gg cap hb fb xb Z S G n f ob F) (k : Below V.heap.size V V2) : PzM W V2 Bm R C cnt gg cap hb fb xb Z S G n f ob F := h.kq (KqP.of_below k)

theorem grown_cells {W W' : World} {row : Option Nat} (hg : W.grownBy W' row) (hr : ∀ r, row = some r → ∃ o : Obj, W.heap[r]? = some o ∧ o.isCells = false) {b : Nat} {cs : Array Value} {t : TypeId} {fr : Nat × Nat} (hb : W.heap[b]? = some (.cells cs t fr)) : W'.heap[b]? = W.heap[b]? := by
  refine hg.block b (lt_of_block hb) (fun e => ?_)
  obtain ⟨o, ho, hc⟩ := hr b e.symm
  rw [hb] at ho
  cases ho
  cases hc
theorem grown_cell {W W' : World} {row : Option Nat} (hg : W.grownBy W' row) (hr : ∀ r, row = some r → ∃ o : Obj, W.heap[r]? = some o ∧ o.isCells = false) {a : Addr} {v : Value} (h : W.cell? a = some v) : W'.cell? a = some v := by
  refine (World.cell?_of_block (hg.block a.block (World.block_lt_of_cell? W a h) (fun e => ?_))).trans h
  obtain ⟨o, ho, hc⟩ := hr a.block e.symm
  unfold World.cell? at h
  rw [ho] at h
  cases o <;> first | (simp at h; done) | (simp [Obj.isCells] at hc; done)

theorem PzM.own {W V V2 : World} {Bm R C cnt gg cap hb fb xb n : Nat} {Z : Nat → Int} {S : Nat → Prop} {G : Ix (R * C) → Prop} {f : Nat → Nat} {ob : Option Nat} {F : Nat → Bool} {row : Option Nat} (h : PzM W V Bm R C cnt gg cap hb fb xb Z S G n f ob F) (hg : V.grownBy V2 row)
    (hr : ∀ r, row = some r → ∃ o : Obj, V.heap[r]? = some o ∧ o.isCells = false) : PzM W V2 Bm R C cnt gg cap hb fb xb Z S G n f ob F := by
  refine ⟨h.hp.keep ?_ (fun b e => ?_), h.hs, h.nle, ?_, h.hF, (grown_cells hg hr h.bx).trans h.bx, (grown_cells hg hr h.lay).trans h.lay, ⟨h.rv.n_eq, Nat.lt_of_lt_of_le h.rv.lt hg.size, h.rv.le, fun i hi => grown_cell hg hr (h.rv.cell i hi)⟩, h.old, h.far, Nat.le_trans h.szW hg.size⟩
  · obtain ⟨v, a1, _⟩ := h.hp
    exact grown_cells hg hr a1
  · obtain ⟨v, _, a2⟩ := h.hp
    rcases a2 with ⟨_, _, e2⟩ | ⟨b', cap', e1, e2, e3, e4, e5, e6⟩
    · rw [e2] at e; cases e
    · rw [e2] at e; cases e
      obtain ⟨G, ⟨cs, g0, _⟩, _⟩ := e6
      exact grown_cells hg hr g0
  · obtain ⟨cs, g0, g1⟩ := h.fd
    exact ⟨cs, (grown_cells hg hr g0).trans g0, g1⟩

/-- a cell is marked as found, and pushed -/
theorem PzM.mark {W V : World} {Bm R C cnt gg cap hb fb xb n : Nat} {Z : Nat → Int} {S : Nat → Prop} {G : Ix (R * C) → Prop} {f : Nat → Nat} {ob : Option Nat} {F : Nat → Bool} (h : PzM W V Bm R C cnt gg cap hb fb xb Z S G n f ob F) (y : Nat) :
    HpW (V.setCell ⟨fb, y, none⟩ (.bool true)) hb ob Z f n ∧ (V.setCell ⟨fb, y, none⟩ (.bool true)).rowIs fb 4 cnt (fun k => .bool (if k = y then true else F k)) ∧ (V.setCell ⟨fb, y, none⟩ (.bool true)).heap[xb]? = some (.cells #[.slice (some ⟨fb, 0, none⟩) cnt cnt] 120 (0, 0)) ∧
    (V.setCell ⟨fb, y, none⟩ (.bool true)).heap[Bm]? = some (.cells #[.int .i64 R, .int .i64 C, .slice (some ⟨gg, 0, none⟩) cnt cap] 50 (0, 0)) ∧ Rv (V.setCell ⟨fb, y, none⟩ (.bool true)) R C cnt gg cap Z ∧ Below W.heap.size V (V.setCell ⟨fb, y, none⟩ (.bool true)) ∧ (V.setCell ⟨fb, y, none⟩ (.bool true)).heap.size = V.heap.size := by
  obtain ⟨h1, h2, h3, h4, h5, h6, h7⟩ := h.far
  have blk : ∀ k, k ≠ fb → (V.setCell ⟨fb, y, none⟩ (.bool true)).heap[k]? = V.heap[k]? := fun k hk => Below.heap_setCell _ _ _ _ hk
  refine ⟨h.hp.keep (blk hb h4) (fun b e => blk b (h7 b e).1), (h.fd.set y (.bool true)).congr (fun j _ => ?_), (blk xb (fun e => h6 e.symm)).trans h.bx, (blk Bm (by have := h.old.1; omega)).trans h.lay, ⟨h.rv.n_eq, by simpa [World.setCell] using h.rv.lt, h.rv.le, fun i hi => (World.cell?_of_block (a := ⟨gg, i, none⟩) (blk gg (by have := h.old.2; omega))).trans (h.rv.cell i hi)⟩,
    (Below.refl W.heap.size V).setCell (p := ⟨fb, y, none⟩) h2 _, by simp [World.setCell]⟩
  by_cases e : j = y <;> simp [e]

theorem lowI_grown {β : Type} {B : Nat} {I : β → World → Prop} (h : LowI B I) {s : β} {X Y : World} {row : Option Nat} (hs : I s X) (hl : B ≤ X.heap.size) (hg : X.grownBy Y row) (hr : ∀ r, row = some r → B ≤ r) : I s Y :=
  h s X Y hs hl ⟨hg.os, hg.tape, hg.output, hg.size, fun k hk => hg.block k (by omega) (fun e => by have := hr k e.symm; omega)⟩

theorem HpFr.others {hb n : Nat} {ob : Option Nat} {Z : Nat → Int} {f : Nat → Nat} {V V2 : World} (h : HpFr hb ob V V2) (hp : HpW V hb ob Z f n) : KeepsOthers V V2 := by
  refine ⟨h.size, fun k o hk hc => ?_⟩
  obtain ⟨v, a1, a2⟩ := hp
  refine (h.block k (lt_of_block hk) (fun e => ?_) (fun e => ?_)).trans hk
  · subst e; rw [a1] at hk; cases hk; cases hc
  · rcases a2 with ⟨_, _, e2⟩ | ⟨b, cap, _, e2, _, _, _, G, ⟨cs, g0, _⟩, _⟩
    · rw [e2] at e; cases e
    · rw [e2] at e; cases e
      rw [g0] at hk; cases hk; cases hc

/-- what a push of a new cell leaves -/
theorem PzM.push {W V V2 V3 : World} {Bm R C cnt gg cap hb fb xb n y : Nat} {Z : Nat → Int} {S : Nat → Prop} {G G' : Ix (R * C) → Prop} {f f' : Nat → Nat} {ob ob' : Option Nat} {F : Nat → Bool} (h : PzM W V Bm R C cnt gg cap hb fb xb Z S G n f ob F)
    (hk : Below V.heap.size (V.setCell ⟨fb, y, none⟩ (.bool true)) V2) (hp : HpW V3 hb ob' Z f' (n + 1)) (hs : HpS Z f' (n + 1) (fun z => S z ∨ z = y)) (hn : NewOb V2.heap.size ob ob') (hf : HpFr hb ob V2 V3) (hle : n + 1 ≤ R * C)
    (hG : ∀ x : Ix (R * C), G' x ↔ G x ∨ x.1 = y) : PzM W V3 Bm R C cnt gg cap hb fb xb Z (fun z => S z ∨ z = y) G' (n + 1) f' ob' (fun k => if k = y then true else F k) ∧ Below W.heap.size V V3 := by
  obtain ⟨m1, m2, m3, m4, m5, m6, m7⟩ := h.mark y
  obtain ⟨h1, h2, h3, h4, h5, h6, h7⟩ := h.far
  have hs2 := hk.size
  rw [m7] at hs2
  have hs3 := hf.size
  have hsW := h.szW
  have blk : ∀ k, k < V.heap.size → k ≠ hb → (∀ b, ob = some b → k ≠ b) → V3.heap[k]? = (V.setCell ⟨fb, y, none⟩ (.bool true)).heap[k]? := fun k hk1 hk2 hk3 =>
    (hf.block k (by omega) hk2 (fun e => hk3 k e.symm rfl)).trans (hk.block k hk1)
  have nb : ∀ b, ob' = some b → b ≠ fb ∧ b ≠ xb ∧ W.heap.size ≤ b := fun b e => by
    rcases hn with e2 | ⟨b', e2, hb'⟩
    · exact h7 b (by rw [← e2]; exact e)
    · rw [e2] at e; simp only [Option.some.injEq] at e
      have := h.fd.lt; have := lt_of_block h.bx
      omega
  have bel : Below W.heap.size V V3 := (m6.trans (hk.mono h.szW)).trans (hf.below (by omega) h1 (fun b e => (h7 b e).2.2))
  refine ⟨⟨hp, hs, hle, m2.of_block (blk fb h.fd.lt (fun e => h4 e.symm) (fun b e => (h7 b e).1.symm)), fun x => ?_, (blk xb (lt_of_block h.bx) (fun e => h5 e.symm) (fun b e => (h7 b e).2.1.symm)).trans m3, (blk Bm (lt_of_block h.lay) (by have := h.old.1; omega) (fun b e => by have := (h7 b e).2.2; have := h.old.1; omega)).trans m4,
    ⟨m5.n_eq, by have := h.rv.lt; omega, m5.le, fun i hi => (World.cell?_of_block (a := ⟨gg, i, none⟩) (blk gg h.rv.lt (by have := h.old.2; omega) (fun b e => by have := (h7 b e).2.2; have := h.old.2; omega))).trans (m5.cell i hi)⟩, h.old, ⟨h1, h2, h3, h4, h5, h6, nb⟩, by omega⟩, bel⟩
  rw [hG, ← h.hF x]
  by_cases e : x.1 = y
  · simp [e]
  · simp [e]

/-- another block stays through a push -/
theorem push_keeps {V V2 V3 : World} {hb fb y b0 : Nat} {ob : Option Nat} (hk : Below V.heap.size (V.setCell ⟨fb, y, none⟩ (.bool true)) V2) (hf : HpFr hb ob V2 V3) (hl : b0 < V.heap.size) (h1 : b0 ≠ hb) (h2 : b0 ≠ fb) (h3 : ∀ b, ob = some b → b ≠ b0) : V3.heap[b0]? = V.heap[b0]? := by
  have hs2 := hk.size
  have e : (V.setCell ⟨fb, y, none⟩ (.bool true)).heap.size = V.heap.size := by simp [World.setCell]
  rw [hf.block b0 (by omega) h1 (fun e => h3 b0 e.symm rfl), hk.block b0 hl, Below.heap_setCell _ _ _ _ h2]

theorem Coll.kq {B N Bm gg : Nat} {ds : List Deferred} {V V' : World} (h : Coll B N ds V) (hN : N ≤ V.heap.size) (k : KqP Bm gg B V V') : Coll B N ds V' := h.keep fun k2 o hk hB ho _ => (k.same k2 (Or.inl hB) (by omega)).trans ho

/-- the loop of the passes -/
structure PzL (W V : World) (Bm R C cnt gg cap hb fb xb : Nat) (Z : Nat → Int) (st : Ix (R * C)) (L : List (Ix (R * C) × Int)) (p : Int) (sb : Nat) (ok : Bool) (y : Nat) (S T : Nat → Prop) (n : Nat) (f : Nat → Nat) (ob : Option Nat) (F : Nat → Bool) : Prop where
  mem : PzM W V Bm R C cnt gg cap hb fb xb Z T (fun x => x ∈ L.map Prod.fst ∨ S x.1) n f ob F
  psi : PsI R C Z st L S p (fun _ _ => False)
  sp : V.heap[sb]? = some (.cells #[.int .i64 (if ok then Z y else 0), .int .i64 (if ok then y else 0 : Nat)] 93 (0, 0))
  sbf : W.heap.size ≤ sb ∧ sb ≠ hb ∧ sb ≠ fb ∧ sb ≠ xb ∧ ∀ b, ob = some b → b ≠ sb
  yes : ok = true → S y ∧ (∀ z, S z → hiB Z z y = false) ∧ ∀ z, T z ↔ S z ∧ z ≠ y
  no : ok = false → ∀ z, ¬ S z

/-- what a pop leaves, for the passes -/
structure PzO (hb : Nat) (ob : Option Nat) (Z : Nat → Int) (S : Nat → Prop) (n : Nat) (V V' : World) (ok : Bool) (y m : Nat) (f' : Nat → Nat) (T : Nat → Prop) : Prop where
  fr : HpFr hb ob V V'
  hp : HpW V' hb ob Z f' m
  hs : HpS Z f' m T
  le : m ≤ n
  yes : ok = true → S y ∧ (∀ z, S z → hiB Z z y = false) ∧ ∀ z, T z ↔ S z ∧ z ≠ y
  no : ok = false → (∀ z, ¬ S z) ∧ T = S
theorem pz_pop {V : World} {hb n : Nat} {ob : Option Nat} {Z : Nat → Int} {S : Nat → Prop} {f : Nat → Nat} (hp : HpW V hb ob Z f n) (hs : HpS Z f n S) (hn : n ≤ 49) :
    Calls Try.prog 102 #[.pointer (some ⟨hb, 0, none⟩)] V (fun e V' => ∃ ok y m f' T zy, e = .returned (.tuple #[.agg #[.int .i64 zy, .int .i64 ((if ok then y else 0 : Nat) : Int)], .bool ok]) ∧ zy = (if ok then Z y else 0) ∧ PzO hb ob Z S n V V' ok y m f' T) := by
  cases n with
  | zero =>
    refine (pop_none hb ob Z f V hp).mono ?_
    rintro e V' ⟨rfl, hb6⟩
    exact ⟨false, 0, 0, f, S, 0, rfl, rfl, HpFr.ofBelow hb6 (Nat.le_refl _), hp.keepB hb6 (Nat.le_refl _), hs, Nat.le_refl _, (fun e => by cases e), fun _ => ⟨hpS_zero hs, rfl⟩⟩
  | succ n =>
    refine (pop_any hb ob Z f n S V hp hs (by omega)).mono ?_
    rintro e V' ⟨y, f', rfl, hy, hup, hp6, hs6, hf6⟩
    exact ⟨true, y, n, f', _, Z y, rfl, rfl, hf6, hp6, hs6, Nat.le_succ _, (fun _ => ⟨hy, hup, fun z => Iff.rfl⟩), (fun e => by cases e)⟩

/-- a pop, and what is popped lies in block sb -/
theorem PzM.popped {W V V2 V3 : World} {Bm R C cnt gg cap hb fb xb n m y sb : Nat} {Z : Nat → Int} {S T : Nat → Prop} {st : Ix (R * C)} {L : List (Ix (R * C) × Int)} {p : Int} {f f' : Nat → Nat} {ob : Option Nat} {F : Nat → Bool} {ok : Bool}
    (h : PzM W V Bm R C cnt gg cap hb fb xb Z S (fun x => x ∈ L.map Prod.fst ∨ S x.1) n f ob F) (hps : PsI R C Z st L S p (fun _ _ => False)) (ho : PzO hb ob Z S n V V2 ok y m f' T)
    (h3 : ∀ k, k < V.heap.size → k ≠ sb → V3.heap[k]? = V2.heap[k]?) (hz : V2.heap.size ≤ V3.heap.size) (hsp : V3.heap[sb]? = some (.cells #[.int .i64 (if ok then Z y else 0), .int .i64 (if ok then y else 0 : Nat)] 93 (0, 0)))
    (hsb : W.heap.size ≤ sb ∧ sb ≠ hb ∧ sb ≠ fb ∧ sb ≠ xb ∧ ∀ b, ob = some b → b ≠ sb) : PzL W V3 Bm R C cnt gg cap hb fb xb Z st L p sb ok y S T m f' ob F := by
  obtain ⟨h1, h2, h3', h4, h5, h6, h7⟩ := h.far
  have hh := h.hp.far
  have hsz := ho.fr.size
  have hsW := h.szW
  have blk : ∀ k, k < V.heap.size → k ≠ hb → (∀ b, ob = some b → k ≠ b) → k ≠ sb → V3.heap[k]? = V.heap[k]? := fun k hk1 hk2 hk3 hk4 => (h3 k hk1 hk4).trans (ho.fr.block k hk1 hk2 (fun e => hk3 k e.symm rfl))
  refine ⟨⟨ho.hp.keep (h3 hb hh.1 (fun e => hsb.2.1 e.symm)) (fun b e => h3 b (hh.2 b e).2 (hsb.2.2.2.2 b e)), ho.hs, Nat.le_trans ho.le h.nle, h.fd.of_block (blk fb h.fd.lt (fun e => h4 e.symm) (fun b e => (h7 b e).1.symm) (fun e => hsb.2.2.1 e.symm)), h.hF, (blk xb (lt_of_block h.bx) (fun e => h5 e.symm) (fun b e => (h7 b e).2.1.symm) (fun e => hsb.2.2.2.1 e.symm)).trans h.bx,
    (blk Bm (lt_of_block h.lay) (by have := h.old.1; omega) (fun b e => by have := (h7 b e).2.2; have := h.old.1; omega) (by have := h.old.1; omega)).trans h.lay, ⟨h.rv.n_eq, by have := h.rv.lt; omega, h.rv.le, fun i hi => (World.cell?_of_block (a := ⟨gg, i, none⟩) (blk gg h.rv.lt (by have := h.old.2; omega) (fun b e => by have := (h7 b e).2.2; have := h.old.2; omega) (by have := h.old.2; omega))).trans (h.rv.cell i hi)⟩, h.old, h.far, by omega⟩,
    hps, hsp, hsb, ho.yes, fun e => (ho.no e).1⟩

/-- within a round of the passes: the neighbors of i in pre have been looked at -/
structure PzB (W : World) (Bm R C cnt gg cap hb fb xb : Nat) (Z : Nat → Int) (st : Ix (R * C)) (L : List (Ix (R * C) × Int)) (q : Int) (i : Ix (R * C)) (sb qb : Nat) (z : Int) (y : Nat) (pre : List (Ix (R * C))) (X : World) : Prop where
  ex : ∃ (T : Nat → Prop) (n : Nat) (f : Nat → Nat) (ob : Option Nat) (F : Nat → Bool), PzM W X Bm R C cnt gg cap hb fb xb Z T (fun x => x ∈ L.map Prod.fst ∨ T x.1) n f ob F ∧ ((∀ x ∈ pre, x ∈ near R C i 4) → PsI R C Z st L T q (Pd i pre)) ∧ (∀ y, T y → y < R * C) ∧ ∀ b, ob = some b → b ≠ sb ∧ b ≠ qb
  sp : X.heap[sb]? = some (.cells #[.int .i64 z, .int .i64 y] 93 (0, 0))
  sz : qb + 2 ≤ X.heap.size
  szW : W.heap.size ≤ X.heap.size
theorem PzB.own {W X Y : World} {Bm R C cnt gg cap hb fb xb : Nat} {Z : Nat → Int} {st : Ix (R * C)} {L : List (Ix (R * C) × Int)} {q : Int} {i : Ix (R * C)} {sb qb : Nat} {z : Int} {y : Nat} {pre : List (Ix (R * C))} {row : Option Nat} (h : PzB W Bm R C cnt gg cap hb fb xb Z st L q i sb qb z y pre X) (hg : X.grownBy Y row)
    (hr : ∀ r, row = some r → ∃ o : Obj, X.heap[r]? = some o ∧ o.isCells = false) : PzB W Bm R C cnt gg cap hb fb xb Z st L q i sb qb z y pre Y := by
  obtain ⟨⟨T, n, f, ob, F, h1, h2, h3⟩, h4, h5, h6⟩ := h
  exact ⟨⟨T, n, f, ob, F, h1.own hg hr, h2, h3⟩, (grown_cells hg hr h4).trans h4, Nat.le_trans h5 hg.size, Nat.le_trans h6 hg.size⟩
theorem pzB_ownFrom {W : World} {Bm R C cnt gg cap hb fb xb : Nat} {Z : Nat → Int} {st : Ix (R * C)} {L : List (Ix (R * C) × Int)} {q : Int} {i : Ix (R * C)} {sb qb : Nat} {z : Int} {y : Nat} {J : World → Prop} {ds : List Deferred} {B : Nat} (hJ : LowI W.heap.size (fun (_ : Unit) X => J X)) (hB : W.heap.size ≤ B) (hq : qb ≤ B) :
    OwnFrom B (fun (pre : List (Ix (R * C))) X => (PzB W Bm R C cnt gg cap hb fb xb Z st L q i sb qb z y pre X ∧ J X) ∧ Coll W.heap.size qb ds X) := fun s X Y row hs hg hr =>
  ⟨⟨hs.1.1.own hg (fun r e => (hr r e).2), lowI_grown (s := ()) hJ hs.1.2 hs.1.1.szW hg (fun r e => by have := (hr r e).1; omega)⟩, ownFrom_coll (β := Unit) hq () X Y row hs.2 hg hr⟩
theorem hpS_room {Z : Nat → Int} {f : Nat → Nat} {n M : Nat} {T : Nat → Prop} (h : HpS Z f n T) (hM : ∀ y, T y → y < M) : n ≤ M := by
  have h1 : ((List.range n).map f).Nodup := by
    unfold List.Nodup
    rw [List.pairwise_map]
    refine List.Pairwise.imp_of_mem ?_ (List.nodup_range (n := n))
    intro a b ha hb hab e
    exact hab (h.inj a b (List.mem_range.1 ha) (List.mem_range.1 hb) e)
  have h2 := nodup_le M ((List.range n).map f) h1 (fun x hx => by
    rw [List.mem_map] at hx
    obtain ⟨k, hk, rfl⟩ := hx
    exact hM _ ((h.mem _).2 ⟨k, List.mem_range.1 hk, rfl⟩))
  simpa using h2

end Go.Proofs.Ytcfeckpbjdipeaa

/- The program's iterator over the passes, walked. -/
namespace Go.Proofs.Ytcfeckpbjdipeaa
open Go.RowKit Go.Shelf
set_option linter.unusedVariables false
attribute [local go_sem] Oper.semAt_some

/-- all cells are listed -/
def AllIn {M : Nat} (L : List (Ix M × Int)) : Prop := ∀ x, x ∈ L.map Prod.fst
def psEnc {R C : Nat} (Z : Nat → Int) (x : Ix (R * C) × Int) : Array Value := #[.agg #[.int .i64 (Z x.1.1), .int .i64 x.1.1], .int .i64 x.2]
theorem Try.infoB : (Try.prog.info? 4).map (fun i => (i.zero, i.size, i.bytes)) = some (some (.bool false), 1, 1) := by kernel_rfl

theorem wpIn_loop_gk {F : Fence} {rm : Nat} {P : Program} {Q : Exit → Act → World → Prop} {a : Act} {w : World} {c : Code} (I : Nat → Act → World → Prop) (n₀ : Nat) (h₀ : I n₀ a w)
    (round : ∀ n a w, I n a w → ∀ K : Act → World → Prop, (∀ n' a' w', n' < n → I n' a' w' → K a' w') → c.wpIn F rm P (Exit.then K Q) a w) : (Code.loop c).wpIn F rm P Q a w :=
  wpIn_loop_ghost I n₀ h₀ fun n a w h => round n a w h _ fun n' _ _ x y => ⟨n', x, y⟩

set_option maxRecDepth 100000 in
set_option maxHeartbeats 20000000 in
theorem passes_stop (n : Nat) (hn : 4 ≤ n) (Bm Bi R C gg cap cnt : Nat) (hR : R ≤ 7) (hC : C ≤ 7) (Z : Nat → Int) (hZ : ∀ x, x < R * C → 0 ≤ Z x ∧ Z x ≤ 99) (st : Ix (R * C)) (w : World) (hBm : Bm < w.heap.size) (hBi : Bi < w.heap.size)
    (hlay : w.heap[Bm]? = some (.cells #[.int .i64 R, .int .i64 C, .slice (some ⟨gg, 0, none⟩) cnt cap] 50 (0, 0))) (hbi : w.cell? ⟨Bi, 0, none⟩ = some (.int .i64 st.1)) (hrv : Rv w R C cnt gg cap Z) :
    StopSeq Fence.wide n Try.prog 132 #[.pointer (some ⟨Bm, 0, none⟩), .pointer (some ⟨Bi, 0, none⟩)] (psEnc Z) (KqP Bm gg) (fun ys => Vis R C Z st ys ∧ AllIn ys) (Vis R C Z st) (R * C) w := by
  intro l J Jx W hW hJ hJx hY h0
  have HJ := Lib.hid @hJ
  have HJX := Lib.hid @hJx
  have HJ0 := Lib.hid h0
  have HY := Lib.hid hY
  have hcn := hrv.n_eq
  have h49 := mul_le_49 hR hC
  have hcn49 : cnt ≤ 49 := by omega
  have HCN := Lib.hid hcn
  have hgg : gg < w.heap.size := hrv.lt
  have hcap : cnt ≤ cap := hrv.le
  have hsW := hW.size
  have HLAY := Lib.hid ((hW.block Bm hBm).trans hlay)
  have HRV := Lib.hid (hrv.keep hW (Nat.le_refl _))
  have HBI := Lib.hid ((hW.cell (p := ⟨Bi, 0, none⟩) hBi).trans hbi)
  have HZ := Lib.hid hZ
  have hBW : Bm < W.heap.size := Nat.lt_of_lt_of_le hBm hsW
  have hgW : gg < W.heap.size := Nat.lt_of_lt_of_le hgg hsW
  have hBiW : Bi < W.heap.size := Nat.lt_of_lt_of_le hBi hsW
  clear hJ hJx h0 hY hcn hrv hlay hW hbi hZ
  have hst : st.1 < cnt := by rw [HCN.out]; exact st.2
  have hmk := run_make_row' (P := Try.prog) 120 4 (.bool false) 1 Try.underlying120 Try.infoB rfl .i64 .i64 cnt (by omega) (by omega)
  refine callsIn_of_wp_marks Try.func132 rfl trivial ?_ rfl
  simp only [Try.ntmps132, List.size_toArray, List.length_cons, List.length_nil, Nat.reduceAdd, Nat.reduceSub, Array.replicate_succ, Array.replicate_zero, List.push_toArray, List.append_toArray, List.nil_append, List.cons_append]
  obtain ⟨a0, a1, a2, _, _, _⟩ := cells3 HLAY.out
  have a3 := HBI.out
  have hb3 : Below W.heap.size W (((W.alloc (.cells #[.slice none 0 0] 90)).alloc (.cells (madeCells #[.bool false] cnt) 4)).alloc (.cells #[.slice (some ⟨W.heap.size + 1, 0, none⟩) cnt cnt] 120)) := (((Below.refl _ W).alloc (Nat.le_refl _) _).alloc (by simp) _).alloc (by simp; omega) _
  obtain ⟨k1, k2, k3, ksz, _⟩ := three_allocs W (.cells #[.slice none 0 0] 90) (.cells (madeCells #[.bool false] cnt) 4) (.cells #[.slice (some ⟨W.heap.size + 1, 0, none⟩) cnt cnt] 120)
  have hrow := ((World.rowIs_made (W.alloc (.cells #[.slice none 0 0] 90)) (.bool false) cnt 4).alloc (.cells #[.slice (some ⟨W.heap.size + 1, 0, none⟩) cnt cnt] 120)).congr (g := fun _ => .bool false) (fun j _ => rfl)
  rw [World.size_alloc] at hrow
  have b0 := (hb3.cell (p := ⟨Bm, 0, none⟩) hBW).trans a0
  have b1 := (hb3.cell (p := ⟨Bm, 1, none⟩) hBW).trans a1
  have b2 := (hb3.cell (p := ⟨Bm, 2, none⟩) hBW).trans a2
  have b3 := (hb3.cell (p := ⟨Bi, 0, none⟩) hBiW).trans a3
  have HB3 := Lib.hid hb3
  have HK1 := Lib.hid k1
  have HK3 := Lib.hid k3
  have HROW := Lib.hid hrow
  have HSZ3 := Lib.hid ksz
  have HSP := Lib.hid (spot_any R C gg cap cnt Z st.1 _ (HRV.out.keep hb3 (Nat.le_refl _)) hst (by omega))
  clear hb3 k1 k2 k3 hrow ksz
  obtain ⟨x0, ex0⟩ : ∃ x, st.1 = x := ⟨_, rfl⟩
  have HX0 := Lib.hid ex0
  rw [ex0] at HSP b3 hst
  obtain ⟨z0, ez0⟩ : ∃ z, Z x0 = z := ⟨_, rfl⟩
  have HZ0 := Lib.hid ez0
  rw [ez0] at HSP
  clear ex0 ez0
  gi_wp2_with fail
  refine ⟨trivial, (fun _ => by omega), ?_⟩
  gi_at_call 101
  refine (callsIn_wide.2 HSP.out).mono ?_
  rintro e w4 ⟨rfl, hb4⟩
  have HB4 := Lib.hid (HB3.out.trans (hb4.mono HB3.out.size))
  have HP4 := Lib.hid (show HpW w4 W.heap.size none Z (fun x => x) 0 from ⟨_, (hb4.block _ (by rw [HSZ3.out]; omega)).trans HK1.out, Or.inl ⟨rfl, rfl, rfl⟩⟩)
  have HX4 := Lib.hid ((hb4.block _ (by rw [HSZ3.out]; omega)).trans HK3.out)
  have HR4 := Lib.hid (HROW.out.of_block (hb4.block _ (by rw [HSZ3.out]; omega)))
  have hs4 : W.heap.size + 3 ≤ w4.heap.size := by have := hb4.size; rw [HSZ3.out] at this; exact this
  clear hb4 b0 b1 b2 b3 a0 a1 a2 a3 HSP
  gi_wp2_with fail
  refine ⟨trivial, (fun _ => by omega), ?_⟩
  gi_at_call 100
  rw [← HZ0.out]
  refine (callsIn_wide.2 (push_any W.heap.size none Z (fun x => x) 0 x0 (fun _ => False) w4 HP4.out ⟨fun k h1 h2 => by omega, fun i j h1 => by omega, fun x => ⟨fun h => h.elim, fun ⟨k, h, _⟩ => by omega⟩⟩ (fun h => h) (by omega) (by omega))).mono ?_
  rintro e w5 ⟨⟨v5, rfl⟩, f5, ob5, hp5, hs5, hn5, hf5⟩
  have hz5 := hf5.size
  have HB5 := Lib.hid (HB4.out.trans (hf5.below (B := W.heap.size) (by omega) (Nat.le_refl _) (fun b e => by cases e)))
  have hob5 : ∀ b, ob5 = some b → w4.heap.size ≤ b := fun b e => by
    rcases hn5 with e2 | ⟨b', e2, hb'⟩
    · rw [e2] at e; cases e
    · rw [e2] at e; simp only [Option.some.injEq] at e; omega
  have HX5 := Lib.hid ((hf5.block (W.heap.size + 1 + 1) (by omega) (by omega) (fun e => by cases e)).trans HX4.out)
  have HR5 := Lib.hid (HR4.out.of_block (hf5.block (W.heap.size + 1) (by omega) (by omega) (fun e => by cases e)))
  have HP5 := Lib.hid hp5
  have HS5 := Lib.hid hs5
  have HOB5 := Lib.hid hob5
  clear hp5 hs5 hn5 hf5 hob5
  have c0 := one_cell HX5.out
  have c1 : w5.cell? ⟨Bi, 0, none⟩ = some (.int .i64 x0) := by rw [← HX0.out]; exact (HB5.out.cell (p := ⟨Bi, 0, none⟩) hBiW).trans HBI.out
  have c2 : w5.cell? ⟨W.heap.size + 1, x0, none⟩ = some (.bool false) := HR5.out.cell hst
  have c3 : w5.frozen? ⟨W.heap.size + 1, x0, none⟩ = false := HR5.out.frozen x0
  have hst' : (x0 : Int) < cnt := by omega
  have HM6 := Lib.hid (show PzM W (w5.setCell ⟨W.heap.size + 1, x0, none⟩ (.bool true)) Bm R C cnt gg cap W.heap.size (W.heap.size + 1) (W.heap.size + 1 + 1) Z (fun y => False ∨ y = x0) (fun x => x ∈ ([] : List (Ix (R * C) × Int)).map Prod.fst ∨ (False ∨ x.1 = x0)) (0 + 1) f5 ob5 (fun k => if k = x0 then true else false) from by
    have blk : ∀ k, k ≠ W.heap.size + 1 → (w5.setCell ⟨W.heap.size + 1, x0, none⟩ (.bool true)).heap[k]? = w5.heap[k]? := fun k hk => Below.heap_setCell _ _ _ _ hk
    have hf := HP5.out.far
    refine ⟨HP5.out.keep (blk _ (by omega)) (fun b e => blk b (by have := HOB5.out b e; omega)), HS5.out, by have := HCN.out; omega, (HR5.out.set x0 (.bool true)).congr (fun j _ => ?_), fun x => ?_, (blk _ (by omega)).trans HX5.out, (blk _ (by omega)).trans ((HB5.out.block _ hBW).trans HLAY.out), ?_, ⟨hBW, hgW⟩, ⟨Nat.le_refl _, by omega, by omega, by omega, by omega, by omega, fun b e => by have := HOB5.out b e; omega⟩, by simp [World.setCell]; omega⟩
    · by_cases e : j = x0 <;> simp [e]
    · by_cases e : x.1 = x0 <;> simp [e]
    · exact HRV.out.keep (HB5.out.setCell (p := ⟨W.heap.size + 1, x0, none⟩) (show W.heap.size ≤ W.heap.size + 1 by omega) _) (Nat.le_refl _))
  have HB6 := Lib.hid (HB5.out.setCell (p := ⟨W.heap.size + 1, x0, none⟩) (show W.heap.size ≤ W.heap.size + 1 by omega) (.bool true))
  have HPS6 := Lib.hid (show PsI R C Z st [] (fun y => False ∨ y = x0) 99 (fun _ _ => False) from by
    have := PsI.start st HZ.out
    rw [HX0.out] at this
    have e : (fun y => False ∨ y = x0) = (fun y => y = x0) := funext fun y => propext ⟨fun h => h.resolve_left (fun k => k), Or.inr⟩
    rw [e]
    exact this)
  gi_wp2_with fail
  refine ⟨trivial, (fun _ => by omega), ?_⟩
  gi_at_call 102
  refine (callsIn_wide.2 (pz_pop HM6.out.hp HM6.out.hs (by omega))).mono ?_
  rintro e w7 ⟨ok, y, m, f7, T, zy, rfl, ez, hpo⟩
  have hs7 := hpo.fr.size
  have hz6 : (w5.setCell ⟨W.heap.size + 1, x0, none⟩ (.bool true)).heap.size = w5.heap.size := by simp [World.setCell]
  rw [hz6] at hs7
  have HL8 := Lib.hid (HM6.out.popped (V3 := w7.alloc (.cells #[.int .i64 zy, .int .i64 ((if ok then y else 0 : Nat) : Int)] 93)) (sb := w7.heap.size) HPS6.out hpo (fun k hk _ => Below.heap_alloc _ _ _ (by rw [hz6] at hk; omega)) (by simp) (by rw [← ez]; exact heap_alloc_new w7 _) ⟨by omega, by omega, by omega, by omega, fun b e => by have := (HP5.out.far.2 b e).2; omega⟩)
  have HB8 := Lib.hid ((HB6.out.trans (hpo.fr.below (B := W.heap.size) (by rw [hz6]; omega) (Nat.le_refl _) (fun b e => by have := HOB5.out b e; omega))).alloc (by omega) (.cells #[.int .i64 zy, .int .i64 ((if ok then y else 0 : Nat) : Int)] 93))
  have HJ8 := Lib.hid (HJ.out _ _ _ HJ0.out (Nat.le_refl _) HB8.out)
  clear hpo ez c0 c1 c2 c3
  obtain ⟨yy, eyy⟩ : ∃ yy : Int, ((if ok then y else 0 : Nat) : Int) = yy := ⟨_, rfl⟩
  rw [eyy] at HL8 HB8 HJ8 ⊢
  clear eyy
  gi_wp2
  generalize hV8 : w7.alloc (.cells #[.int .i64 zy, .int .i64 yy] 93) = V8 at HL8 HJ8 ⊢
  clear HM6 HB6 HPS6 HB8 HP5 HS5 HOB5 HX5 HR5 HB5 HR4 HX4 HP4 HB4 HSZ3 HROW HK3 HK1 HB3 hV8 hz6 hs7 HJ0 hmk
  refine wpIn_loop_gk (fun gk a V => ∃ (p : Int) (sb : Nat) (ok : Bool) (u9 u10 u11 u12 u13 u14 u15 u16 u17 u18 u19 u20 u21 u22 u23 u24 u25 u26 u27 u28 u29 u30 u31 u32 u33 u34 u35 u36 u37 u38 u39 u40 u41 u42 u43 u44 u45 u46 u47 u48 u49 u50 u51 u52 u53 u54 u55 u56 : Value) (ds : List Deferred) (L : List (Ix (R * C) × Int)) (y m : Nat) (S T : Nat → Prop) (f : Nat → Nat) (ob : Option Nat) (F : Nat → Bool), a = { tmps := #[.func (.yield l) #[] #[], .pointer (some ⟨Bm, 0, none⟩), .pointer (some ⟨Bi, 0, none⟩), undef, .pointer (some ⟨W.heap.size, 0, none⟩), .pointer (some ⟨W.heap.size + 1 + 1, 0, none⟩), .int .i64 p, .pointer (some ⟨sb, 0, none⟩), .bool ok, u9, u10, u11, u12, u13, u14, u15, u16, u17, u18, u19, u20, u21, u22, u23, u24, u25, u26, u27, u28, u29, u30, u31, u32, u33, u34, u35, u36, u37, u38, u39, u40, u41, u42, u43, u44, u45, u46, u47, u48, u49, u50, u51, u52, u53, u54, u55, u56], defers := ds } ∧
      PzL W V Bm R C cnt gg cap W.heap.size (W.heap.size + 1) (W.heap.size + 1 + 1) Z st L p sb ok y S T m f ob F ∧ J L V ∧ Coll W.heap.size V.heap.size ds V ∧ gk = R * C + 1 - L.length)
    (R * C + 1) ⟨99, _, ok, _, _, _, _, _, _, _, _, _, _, _, _, _, _, _, _, _, _, _, _, _, _, _, _, _, _, _, _, _, _, _, _, _, _, _, _, _, _, _, _, _, _, _, _, _, _, _, _, [], [], y, m, _, _, _, _, _, rfl, HL8.out, HJ8.out, Coll.nil, by simp⟩ ?_
  rintro gk _ V ⟨p, sb, ok, u9, u10, u11, u12, u13, u14, u15, u16, u17, u18, u19, u20, u21, u22, u23, u24, u25, u26, u27, u28, u29, u30, u31, u32, u33, u34, u35, u36, u37, u38, u39, u40, u41, u42, u43, u44, u45, u46, u47, u48, u49, u50, u51, u52, u53, u54, u55, u56, ds, L, y, m, S, T, f, ob, F, rfl, hl, hj, hco, rfl⟩ K hK
  clear HL8 HJ8
  have HK := Lib.hid @hK
  have HL := Lib.hid hl
  have HJV := Lib.hid hj
  have HCO := Lib.hid hco
  have hszV := hl.mem.szW
  clear hK hj hco
  cases ok
  case false =>
    have HV := Lib.hid (show Vis R C Z st L ∧ AllIn L from ⟨hl.psi.vis, fun x => hl.psi.all (hl.no rfl) HZ.out x⟩)
    clear hl
    gi_wp2
    exact HCO.out.leaves_own (fun A => J L A ∧ W.heap.size ≤ A.heap.size) (fun A D hD hA hJA => ⟨HJ.out _ _ _ hJA.1 hJA.2 (below_put A D _ hD), by have := (below_put (B := 0) A D (.deferred none) (Nat.zero_le _)).size; exact Nat.le_trans hJA.2 this⟩) (fun W => results_none rfl _ _ _) ⟨HJV.out, hszV⟩ (fun W' hT => ⟨⟨_, rfl⟩, .inl ⟨L, HV.out, hT.1⟩⟩)
  case true =>
    obtain ⟨hy, htop, hT⟩ := hl.yes rfl
    obtain ⟨i, hi⟩ : ∃ i : Ix (R * C), i.1 = y := ⟨⟨y, hl.psi.lt y hy⟩, rfl⟩
    have HI := Lib.hid hi
    obtain rfl : T = fun z => S z ∧ z ≠ y := funext fun z => propext (hT z)
    obtain ⟨hv1, hv2⟩ := hl.psi.visit i (by rw [hi]; exact hy) (fun z hz => by rw [hi]; exact htop z hz)
    have hlen2 : (L ++ [(i, min p (Z i.1))]).length ≤ R * C := by
      have := ix_nodup_le hv1.nodup
      simpa using this
    have hlen : L.length < R * C := by
      rw [List.length_append] at hlen2
      simp at hlen2
      omega
    rw [hi] at hv1 hv2 hlen2
    obtain ⟨z, ez⟩ : ∃ z, Z y = z := ⟨_, rfl⟩
    have HEZ := Lib.hid ez
    obtain ⟨q, eq⟩ : ∃ q, min p z = q := ⟨_, rfl⟩
    have HEQ := Lib.hid eq
    rw [ez, eq] at hv1 hv2 hlen2
    have HV1 := Lib.hid hv1
    have HV2' := Lib.hid hv2
    have hsp := hl.sp
    simp only [if_true] at hsp
    rw [ez] at hsp
    have HSP := Lib.hid hsp
    obtain ⟨s0, s1, _, _⟩ := cells2P hsp
    have hyy := HY.out L (i, q) V HJV.out hlen
    simp only [psEnc] at hyy
    rw [hi, ez] at hyy
    obtain ⟨fn, tmps, assign, body, hyl, hRd⟩ := hyy
    have HRD := Lib.hid hRd
    clear hv1 hv2 hsp hRd hl ez hi hy htop hT
    gi_wp2
    refine ⟨(fun _ => by omega), ?_⟩
    refine HRD.out.mono ?_
    rintro e V2 (⟨rfl, hj2, hk2⟩ | ⟨rfl, hj2, hk2⟩)
    case inr =>
      have HJ2 := Lib.hid hj2
      have HCO2 := Lib.hid (HCO.out.keep (W' := V2) (fun k o hk hB ho hc => hk2.same k o hB ho hc))
      have hz2 := hk2.size
      have HVI := Lib.hid HV1.out.vis
      clear hj2 hk2 hyl s0 s1
      gi_wp2
      exact HCO2.out.leaves_own (fun A => Jx (L ++ [(i, q)]) A ∧ W.heap.size ≤ A.heap.size) (fun A D hD hA hJA => ⟨HJX.out _ _ _ hJA.1 hJA.2 (below_put A D _ hD), by have := (below_put (B := 0) A D (.deferred none) (Nat.zero_le _)).size; exact Nat.le_trans hJA.2 this⟩) (fun W => results_none rfl _ _ _) ⟨HJ2.out, Nat.le_trans hszV hz2⟩ (fun W' hT => ⟨⟨_, rfl⟩, .inr ⟨_, HVI.out, hT.1⟩⟩)
    case inl =>
      have HJ2 := Lib.hid hj2
      have HM2 := Lib.hid (HL.out.mem.kq hk2)
      have HCO2 := Lib.hid (HCO.out.kq (Nat.le_refl _) hk2)
      have hz2 := hk2.size
      have HSB := Lib.hid HL.out.sbf
      have HSP2 := Lib.hid ((hk2.same sb (Or.inl HL.out.sbf.1) (lt_of_block HSP.out)).trans HSP.out)
      clear hj2 hk2 hyl s0 s1
      obtain ⟨s0, s1, _, _⟩ := cells2P HSP2.out
      obtain ⟨m0, m1, m2, _, _, _⟩ := cells3 HM2.out.lay
      gi_wp2_with (refine ⟨trivial, (fun _ => by omega), ?_⟩; gi_at_call 117; refine (callsIn_wide.2 (nb_any R C gg cnt cap y _)).mono ?_; rintro e w' ⟨rfl, rfl⟩)
      obtain ⟨n1, n2, nsz, nb⟩ := two_allocsV V2 (.cells #[.int .i64 R, .int .i64 C, .slice (some ⟨gg, 0, none⟩) cnt cap] 50) (.cells #[.int .i64 y] 3)
      generalize hV3 : (V2.alloc (.cells #[.int .i64 R, .int .i64 C, .slice (some ⟨gg, 0, none⟩) cnt cap] 50)).alloc (.cells #[.int .i64 y] 3) = V3 at n1 n2 nsz nb ⊢
      have N1 := Lib.hid n1
      have N2 := Lib.hid n2
      have NB := Lib.hid nb
      clear hV3 n1 n2 nb m0 m1 m2 s0 s1
      have hsbV : sb < V2.heap.size := lt_of_block HSP2.out
      have HI0 := Lib.hid (show PzB W Bm R C cnt gg cap W.heap.size (W.heap.size + 1) (W.heap.size + 1 + 1) Z st (L ++ [(i, q)]) q i sb V2.heap.size z y [] V3 from by
        refine ⟨⟨_, m, f, ob, F, ?_, fun _ => HV1.out.begin, HV1.out.lt, fun b e => ⟨HSB.out.2.2.2.2 b e, fun e2 => by have := (HM2.out.hp.far.2 b e).2; omega⟩⟩, (NB.out.block _ hsbV).trans HSP2.out, by omega, by omega⟩
        have hm := HM2.out.below NB.out
        refine ⟨hm.hp, hm.hs, hm.nle, hm.fd, fun x => ?_, hm.bx, hm.lay, hm.rv, hm.old, hm.far, hm.szW⟩
        rw [hm.hF x]
        simp only [List.map_append, List.map_cons, List.map_nil, List.mem_append, List.mem_singleton]
        constructor
        · rintro (k | k)
          · exact Or.inl (Or.inl k)
          · by_cases e : x.1 = y
            · exact Or.inl (Or.inr (Subtype.ext (by rw [HI.out, e])))
            · exact Or.inr ⟨k, e⟩
        · rintro ((k | k) | k)
          · exact Or.inl k
          · refine Or.inr ?_
            have := (HL.out.yes rfl).1
            rw [k, HI.out]
            exact this
          · exact Or.inr k.1)
      have HJ3 := Lib.hid (HJ.out _ _ _ HJ2.out (by omega) (NB.out.mono (by omega)))
      refine wpIn_rangeFunc_ownF (ps := #[43]) rfl (by omega) (gf := 129) (lb := #[.pointer (some ⟨V2.heap.size + 1, 0, none⟩), .pointer (some ⟨V2.heap.size, 0, none⟩)]) rfl trivial (enters_of Try.func129 (by kernel_rfl) rfl)
        (nb_stops (n - 1) (by omega) (V2.heap.size + 1) V2.heap.size R C gg cap cnt hR hC i V3 (by omega) (by omega) (by rw [HI.out]; exact one_cell N2.out) (three_cells N1.out)) Kb.trans (kb_b (by omega)) (Below.refl _ _) (fun _ => rfl)
        (fun pre X => (PzB W Bm R C cnt gg cap W.heap.size (W.heap.size + 1) (W.heap.size + 1 + 1) Z st (L ++ [(i, q)]) q i sb V2.heap.size z y pre X ∧ J (L ++ [(i, q)]) X) ∧ Coll W.heap.size V2.heap.size ds X)
        (fun _ _ _ => False)
        (pzB_ownFrom (fun _ X Y h1 h2 h3 => HJ.out _ X Y h1 h2 h3) (by omega) (by omega))
        (fun _ _ _ _ _ hs _ _ => hs)
        ⟨⟨HI0.out, HJ3.out⟩, (HCO2.out.mono hz2).below NB.out (Nat.le_refl _)⟩
        (fun x => { tmps := #[(.func (.yield l) #[] #[]), .pointer (some ⟨Bm, 0, none⟩), .pointer (some ⟨Bi, 0, none⟩), undef, .pointer (some ⟨W.heap.size, 0, none⟩), .pointer (some ⟨W.heap.size + 1 + 1, 0, none⟩), .int .i64 q, .pointer (some ⟨sb, 0, none⟩), .bool true, .int .i64 x.1, u10, u11, u12, u13, u14, u15, u16, u17, u18, u19, u20, u21, u22, u23, u24, .bool true, u26, u27, u28, u29, .int .i64 p, .pointer (some ⟨sb, 0, none⟩), .int .i64 z, .int .i64 q, (.func (.yield l) #[] #[]), .agg #[.int .i64 z, .int .i64 y], .int .i64 q, .bool true, .bool false, .agg #[.int .i64 R, .int .i64 C, .slice (some ⟨gg, 0, none⟩) cnt cap], .pointer (some ⟨sb, 1, none⟩), .int .i64 y, (.func (.func 129) #[] #[.pointer (some ⟨V2.heap.size + 1, 0, none⟩), .pointer (some ⟨V2.heap.size, 0, none⟩)]), .int .i64 x.1, u44, u45, u46, u47, u48, u49, u50, u51, u52, u53, u54, u55, u56], defers := [] }) ?assign ?body ?done ?stop
      case assign =>
        intro l2 x X K2 hK2
        gi_wp2
        simpa using hK2
      case body =>
        rintro l2 pre x X ⟨⟨hI, hJx⟩, hcx⟩ hpl
        dsimp only
        obtain ⟨⟨T, n2, f2, ob2, F2, hm, hpsi, hlt, hob⟩, hspX, hszX, hszWX⟩ := hI
        have hxc : x.1 < cnt := by rw [HCN.out]; exact x.2
        have cx := one_cell hm.bx
        have cF := hm.fd.cell hxc
        have fF : X.frozen? ⟨W.heap.size + 1, x.1, none⟩ = false := hm.fd.frozen x.1
        obtain ⟨m0, m1, m2, _, _, _⟩ := cells3 hm.lay
        have HMX := Lib.hid hm
        have HPX := Lib.hid hpsi
        have HLX := Lib.hid hlt
        have HOX := Lib.hid hob
        have HSX := Lib.hid hspX
        have HJX2 := Lib.hid hJx
        have HCX := Lib.hid hcx
        have HFX := Lib.hid (hm.hF x)
        obtain ⟨bb, ebb⟩ : ∃ bb, F2 x.1 = bb := ⟨_, rfl⟩
        rw [ebb] at cF HFX
        obtain ⟨xx, exx⟩ : ∃ xx, x.1 = xx := ⟨_, rfl⟩
        have HXX := Lib.hid exx
        rw [exx] at cF fF hxc ⊢
        have hxc' : (xx : Int) < cnt := by omega
        clear hm hpsi hlt hob hspX hJx hcx ebb exx
        cases bb
        case true =>
          gi_wp2
          refine ⟨KeepsOthers.refl _, ⟨Nat.le_refl _, rfl⟩, ⟨⟨⟨T, n2, f2, ob2, F2, HMX.out, fun hin => ?_, HLX.out, HOX.out⟩, HSX.out, hszX, hszWX⟩, HJX2.out⟩, HCX.out⟩
          refine (HPX.out (fun a ha => hin a (List.mem_append_left _ ha))).old ?_
          exact HFX.out.1 (by trivial)
        case false =>
          obtain ⟨k1, k2, k3, k4, k5, k6, k7⟩ := HMX.out.mark xx
          have HK1 := Lib.hid k1
          have HK6 := Lib.hid k6
          have HSPX := Lib.hid (spot_any R C gg cap cnt Z xx _ k5 hxc (by omega))
          obtain ⟨j0, j1, j2, _, _, _⟩ := cells3 k4
          have HNF := Lib.hid (show ¬ (x ∈ (L ++ [(i, q)]).map Prod.fst ∨ T xx) from fun h => by
            rw [HXX.out] at HFX
            have := HFX.out.2 h
            cases this)
          clear k1 k2 k3 k4 k5 k6
          gi_wp2_with fail
          refine ⟨trivial, (fun _ => by omega), ?_⟩
          gi_at_call 101
          refine ((callsIn_wide.2 HSPX.out).inRound l2).mono ?_
          rintro e X2 ⟨rfl, hbX2⟩
          have BX2 := Lib.hid hbX2
          have hzX2 := hbX2.size
          rw [k7] at hzX2
          clear hbX2 cx cF fF m0 m1 m2 j0 j1 j2
          gi_wp2_with fail
          refine ⟨trivial, (fun _ => by omega), ?_⟩
          gi_at_call 100
          refine ((callsIn_wide.2 (push_any W.heap.size ob2 Z f2 n2 xx T X2 (HK1.out.keepB BX2.out (Nat.le_refl _)) HMX.out.hs (fun h => HNF.out (Or.inr h)) (by have := HMX.out.nle; omega) (by omega))).inRound l2).mono ?_
          rintro e X3 ⟨⟨v3, rfl⟩, f3, ob3, hp3, hs3, hn3, hf3⟩
          have hbX2 : Below X.heap.size (X.setCell ⟨W.heap.size + 1, xx, none⟩ (.bool true)) X2 := BX2.out.mono (by rw [k7]; exact Nat.le_refl _)
          obtain ⟨hmm, hbl⟩ := HMX.out.push (G' := fun x' => x' ∈ (L ++ [(i, q)]).map Prod.fst ∨ (T x'.1 ∨ x'.1 = xx)) hbX2 hp3 hs3 hn3 hf3 (hpS_room hs3 (fun a ha => by
            rcases ha with k | k
            · exact HLX.out a k
            · rw [k, ← HXX.out]; exact x.2)) (fun x' => by rw [or_assoc])
          have hsbX := lt_of_block HSX.out
          have KS := Lib.hid (push_keeps hbX2 hf3 hsbX HSB.out.2.1 HSB.out.2.2.1 (fun a e => (HOX.out a e).1))
          have KQ := Lib.hid (push_keeps hbX2 hf3 (show V2.heap.size < X.heap.size by omega) (show V2.heap.size ≠ W.heap.size by have := HM2.out.hp.far.1; omega) (show V2.heap.size ≠ W.heap.size + 1 by have := HM2.out.fd.lt; omega) (fun a e => (HOX.out a e).2))
          have KO := Lib.hid ((KeepsOthers.setCell X ⟨W.heap.size + 1, xx, none⟩ (.bool true)).trans ((others_below BX2.out).trans (hf3.others (HK1.out.keepB BX2.out (Nat.le_refl _)))))
          have HN3 := Lib.hid (show ∀ a, ob3 = some a → a ≠ sb ∧ a ≠ V2.heap.size from fun a e => by
            rcases hn3 with e2 | ⟨a', e2, ha'⟩
            · exact HOX.out a (by rw [← e2]; exact e)
            · rw [e2] at e; simp only [Option.some.injEq] at e; omega)
          have HMM := Lib.hid hmm
          have HBL := Lib.hid hbl
          have hz3 := KO.out.size
          clear hp3 hs3 hn3 hf3 hmm hbl hbX2 hzX2
          gi_wp2
          refine ⟨KO.out, ⟨hz3, KQ.out⟩, ⟨⟨⟨_, _, _, _, _, HMM.out, fun hin => ?_, fun a ha => ?_, HN3.out⟩, KS.out.trans HSX.out, by omega, by omega⟩, HJ.out _ _ _ HJX2.out hszWX HBL.out⟩, HCX.out.others KO.out⟩
          · have := (HPX.out (fun a ha => hin a (List.mem_append_left _ ha))).new HV2'.out (hin x (List.mem_append_right _ (List.mem_singleton.2 rfl))) (fun h => HNF.out (Or.inl h)) (fun h => HNF.out (Or.inr (by rw [← HXX.out]; exact h)))
            rw [HXX.out] at this
            exact this
          · rcases ha with k | k
            · exact HLX.out a k
            · rw [k, ← HXX.out]; exact x.2
      case done =>
        rintro D ys X hD rfl ⟨⟨hI, hJx⟩, hcx⟩ hKD
        obtain ⟨⟨T, n2, f2, ob2, F2, hm, hpsi, hlt, hob⟩, hspX, hszX, hszWX⟩ := hI
        have hDlt := (Array.getElem?_eq_some_iff.1 hKD).1
        obtain ⟨s0, s1, _, _⟩ := cells2P hspX
        have HMX := Lib.hid hm
        have HPX := Lib.hid (hpsi (fun a ha => ha)).finish
        have HJX2 := Lib.hid hJx
        have HCX := Lib.hid ((hcx.cons (by omega) (by omega) hKD).mono (N' := X.heap.size) (by omega))
        have HM1 := Lib.hid (hm.below ((Below.refl X.heap.size X).alloc (Nat.le_refl _) (.cells #[.int .i64 z, .int .i64 y] 93)))
        have HNW := Lib.hid (heap_alloc_new X (.cells #[.int .i64 z, .int .i64 y] 93))
        clear hm hpsi hlt hob hJx hcx hKD hspX
        gi_wp2_with fail
        refine ⟨trivial, (fun _ => by omega), ?_⟩
        gi_at_call 102
        refine (callsIn_wide.2 (pz_pop HM1.out.hp HM1.out.hs (by have := HM1.out.nle; omega))).mono ?_
        rintro e X2 ⟨ok, y2, m2, f3, T2, zy, rfl, ez, hpo⟩
        have hsX2 := hpo.fr.size
        have hsX1 : (X.alloc (.cells #[.int .i64 z, .int .i64 y] 93)).heap.size = X.heap.size + 1 := by simp
        rw [hsX1] at hsX2
        have hfar := HMX.out.hp.far
        have hw1 := HMX.out.far
        have hfd := HMX.out.fd.lt
        have hbx := lt_of_block HMX.out.bx
        have hX2 := (hpo.fr.block X.heap.size (by omega) (by omega) (fun e => by have := (hfar.2 _ e.symm).2; omega)).trans HNW.out
        have HLN := Lib.hid (HM1.out.popped (V3 := (X2.setCell ⟨X.heap.size, 0, none⟩ (.int .i64 zy)).setCell ⟨X.heap.size, 1, none⟩ (.int .i64 ((if ok then y2 else 0 : Nat) : Int))) (sb := X.heap.size) HPX.out hpo
          (fun k _ hk => by rw [Below.heap_setCell _ _ _ _ (by simpa using hk), Below.heap_setCell _ _ _ _ (by simpa using hk)]) (by simp [World.setCell]) (by rw [← ez]; exact two_set _ _ _ _ _ _ hX2) ⟨hszWX, by omega, by omega, by omega, fun a e => by have := (hfar.2 a e).2; omega⟩)
        have HBN := Lib.hid ((((Below.refl W.heap.size X).alloc hszWX (.cells #[.int .i64 z, .int .i64 y] 93)).trans (hpo.fr.below (B := W.heap.size) (by omega) (Nat.le_refl _) (fun a e => (hw1.2.2.2.2.2.2 a e).2.2))).setCell (p := ⟨X.heap.size, 0, none⟩) hszWX (.int .i64 zy) |>.setCell (p := ⟨X.heap.size, 1, none⟩) hszWX (.int .i64 ((if ok then y2 else 0 : Nat) : Int)))
        have HCN := Lib.hid ((HCX.out.below ((Below.refl X.heap.size X).alloc (Nat.le_refl _) (.cells #[.int .i64 z, .int .i64 y] 93)) (Nat.le_refl _)).others (((hpo.fr.others HM1.out.hp).trans (KeepsOthers.setCell X2 ⟨X.heap.size, 0, none⟩ (.int .i64 zy))).trans (KeepsOthers.setCell _ ⟨X.heap.size, 1, none⟩ (.int .i64 ((if ok then y2 else 0 : Nat) : Int)))))
        obtain ⟨g1, g2, g3, g4⟩ := cells2P hX2
        clear hpo ez s0 s1 hX2
        obtain ⟨yy, eyy⟩ : ∃ yy : Int, ((if ok then y2 else 0 : Nat) : Int) = yy := ⟨_, rfl⟩
        rw [eyy] at HLN HBN HCN ⊢
        clear eyy
        gi_wp2
        refine HK.out (R * C + 1 - (L ++ [(i, q)]).length) _ _ ?_ ⟨q, X.heap.size, ok, _, _, _, _, _, _, _, _, _, _, _, _, _, _, _, _, _, _, _, _, _, _, _, _, _, _, _, _, _, _, _, _, _, _, _, _, _, _, _, _, _, _, _, _, _, _, _, _, _, L ++ [(i, q)], y2, m2, _, _, _, _, _, rfl, HLN.out, HJ.out _ _ _ HJX2.out hszWX HBN.out, HCN.out.mono (by simp [World.setCell]; omega), rfl⟩
        simp only [List.length_append, List.length_cons, List.length_nil]
        omega
      case stop =>
        rintro D c pre X _ _ h _
        exact h.elim

end Go.Proofs.Ytcfeckpbjdipeaa
