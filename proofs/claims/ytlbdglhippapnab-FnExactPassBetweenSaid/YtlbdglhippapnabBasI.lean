/- The basins of the program. -/
import Derived.Test.YtlbdglhippapnabBasS
import Derived.Test.YtlbdglhippapnabOwnRow
import Derived.Test.YtlbdglhippapnabM3
namespace Go.Proofs.Ytlbdglhippapnab
open Go.RowKit Go.Shelf
set_option linter.unusedVariables false
attribute [local go_sem] Oper.semAt_some

theorem three_allocs (w : World) (o1 o2 o3 : Obj) : let W := ((w.alloc o1).alloc o2).alloc o3
    W.heap[w.heap.size]? = some o1 ∧ W.heap[w.heap.size + 1]? = some o2 ∧ W.heap[w.heap.size + 1 + 1]? = some o3 ∧ W.heap.size = w.heap.size + 3 ∧ Below w.heap.size w W := by
  intro W
  have e1 : (w.alloc o1).heap.size = w.heap.size + 1 := by simp
  have e2 : ((w.alloc o1).alloc o2).heap.size = w.heap.size + 1 + 1 := by simp
  have b2 := fun k hk => Below.heap_alloc (w.alloc o1) o2 k hk
  have b3 := fun k hk => Below.heap_alloc ((w.alloc o1).alloc o2) o3 k hk
  refine ⟨?_, ?_, ?_, by simp [W], ((Below.refl _ _).alloc (Nat.le_refl _) _).alloc (by simp) _ |>.alloc (by simp; omega) _⟩
  · exact ((b3 _ (by omega)).trans (b2 _ (by omega))).trans (heap_alloc_new w o1)
  · have := heap_alloc_new (w.alloc o1) o2
    rw [e1] at this
    exact (b3 _ (by omega)).trans this
  · have := heap_alloc_new ((w.alloc o1).alloc o2) o3
    rw [e2] at this
    exact this

theorem keep_block {β : Type} {B b : Nat} {o : Obj} (hb : b < B) : OwnFrom B (fun (_ : β) W => W.heap[b]? = some o) := fun s X Y row hs hg hrow =>
  (hg.block b (Array.getElem?_eq_some_iff.1 hs).1 (fun e => by have := (hrow b e.symm).1; omega)).trans hs

theorem lists_row {B b : Nat} {W : World} {M : Nat} {l : List (Ix M)} {f : Nat → Value} {n : Nat} (h : W.rowIs b 3 n f) (hB : B ≤ b) (hn : l.length = n) (hn2 : n ≤ 1000) (hf : ∀ j (hj : j < l.length), f j = .int .i64 (l[j].1 : Int)) : Lists B W (.slice (some ⟨b, 0, none⟩) n n) l := by
  obtain ⟨c, h1, h2, h3⟩ := h
  unfold Lists
  refine ⟨by simp [ixV], Or.inr ⟨b, n, c, by rw [hn], hB, h1, by omega, by unfold maxLen; omega, by omega, ?_⟩⟩
  apply List.ext_getElem?
  intro j
  rw [Nat.mul_one]
  by_cases hj : j < l.length
  · rw [List.getElem?_take_of_lt hj, Array.getElem?_toList, h3 j (by omega), hf j hj]
    simp [ixV, hj]
  · rw [List.getElem?_eq_none (by rw [List.length_take]; omega), List.getElem?_eq_none (by simp [ixV]; omega)]

theorem bsL_get {R C : Nat} {Z : Nat → Int} : ∀ (k j : Nat) (hj : j < (bsL R C Z k).length), k ≤ R * C → ((bsL R C Z k)[j].1 : Int) = ezV R C Z j
  | 0, j, hj, _ => by simp [bsL] at hj
  | k + 1, j, hj, hk => by
    have hl := bsL_len R C Z k (by omega)
    have hl1 := bsL_len R C Z (k + 1) hk
    have e : bsL R C Z (k + 1) = bsL R C Z k ++ [endI R C Z ⟨k, by omega⟩] := bsL_succ (Z := Z) ⟨k, by omega⟩
    by_cases h : j < k
    · have h2 : j < (bsL R C Z k).length := by omega
      have := bsL_get k j h2 (by omega)
      rw [← this]
      congr 2
      simp only [e]
      rw [List.getElem_append_left h2]
    · have ej : j = k := by omega
      subst ej
      rw [show ezV R C Z j = ((endI R C Z ⟨j, by omega⟩).1 : Int) from ezV_at (Z := Z) ⟨j, by omega⟩]
      congr 2
      simp only [e]
      rw [List.getElem_append_right (by omega)]
      simp

end Go.Proofs.Ytlbdglhippapnab
