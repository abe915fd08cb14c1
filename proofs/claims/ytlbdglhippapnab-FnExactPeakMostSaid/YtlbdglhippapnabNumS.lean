/- The numbers of the cells' regions, in the model. -/
import Derived.Test.YtlbdglhippapnabLvS
import Derived.Test.YtlbdglhippapnabBasS
import Derived.Test.YtlbdglhippapnabRgM2
import Derived.Maps.AppendAt
import Derived.Deep.AppendLies
namespace Go.Proofs.Ytlbdglhippapnab
open Go.RowKit
set_option linter.unusedVariables false

/-- a cell of a list -/
theorem Lists.atCell {B : Nat} {w : World} {M : Nat} {l : List (Ix M)} {a : Option Addr} {n c q : Nat} (h : Lists B w (.slice a n c) l) (hq : q < l.length) :
    ∃ b, a = some ⟨b, 0, none⟩ ∧ w.cell? ⟨b, q, none⟩ = some (.int .i64 (l[q]).1) ∧ l.length ≤ c ∧ c ≤ maxLen := by
  obtain ⟨hlen, ⟨e, h0⟩ | ⟨b, cap, cur, e, hB, hb, hc, hcap, hcs, ht⟩⟩ := h
  · omega
  · simp only [Value.slice.injEq] at e
    obtain ⟨rfl, rfl, rfl⟩ := e
    refine ⟨b, rfl, ?_, hc, hcap⟩
    have e1 : cur.toList[q]? = (ixV l)[q]? := by rw [← ht, List.getElem?_take_of_lt (by omega)]
    have e2 : cur[q]? = some (.int .i64 (l[q]).1) := by rw [← Array.getElem?_toList, e1]; simp [ixV, hq]
    simp [World.cell?, hb, e2]

/-- a list of the call's own is a row -/
theorem own_row {B n b cap : Nat} {w : World} {xs : List Value} (h : w.ownsRow B 3 1 (.slice (some ⟨b, 0, none⟩) n cap) n xs) :
    ∃ F : Nat → Value, w.rowIs b 3 cap F ∧ (∀ i x, i < n → xs[i]? = some x → F i = x) ∧ n ≤ cap ∧ cap ≤ maxLen := by
  obtain ⟨hlen, ⟨e, h0⟩ | ⟨b', cap', cur, e, hB, hb, hc, hcap, hcs, ht⟩⟩ := h
  · cases e
  · simp only [Value.slice.injEq, Option.some.injEq, Addr.mk.injEq, and_true, true_and] at e
    obtain ⟨rfl, rfl⟩ := e
    refine ⟨fun i => cur[i]?.getD (.int .i64 0), ⟨cur, hb, by omega, fun i hi => ?_⟩, fun i x hi hx => ?_, hc, hcap⟩
    · have hi' : i < cur.size := by omega
      simp [hi']
    · show cur[i]?.getD _ = x
      rw [← ht, List.getElem?_take_of_lt (by omega)] at hx
      rw [← Array.getElem?_toList, hx]; rfl

/-- a row whose first N cells hold numbers -/
def ouF (N : Nat) (T : Nat → Value) (Y : Nat → Int) (j : Nat) : Value := if j < N then .int .i64 (Y j) else T j
theorem ouF_at {N : Nat} {T : Nat → Value} {Y : Nat → Int} {j : Nat} (h : j < N) : ouF N T Y j = .int .i64 (Y j) := by unfold ouF; rw [if_pos h]
theorem ouF_set {N : Nat} {T : Nat → Value} {Y Y' : Nat → Int} {y : Nat} {v : Int} (hy : y < N) (h : ∀ j, (if j = y then v else Y j) = Y' j) (j : Nat) : (if j = y then Value.int .i64 v else ouF N T Y j) = ouF N T Y' j := by
  have h1 := h j
  unfold ouF
  by_cases e : j = y
  · subst e
    simp only [if_true] at h1 ⊢
    rw [if_pos hy, h1]
  · simp only [if_neg e] at h1 ⊢
    rw [h1]
theorem ouF_congr {N : Nat} {T : Nat → Value} {Y Y' : Nat → Int} (h : ∀ j, j < N → Y j = Y' j) (j : Nat) : ouF N T Y j = ouF N T Y' j := by
  unfold ouF
  by_cases e : j < N
  · rw [if_pos e, if_pos e, h j e]
  · rw [if_neg e, if_neg e]

theorem lists_one' {w : World} {B M : Nat} (i : Ix M) (hB : w.heap.size = B) : Lists B (w.alloc (.cells #[.int .i64 i.1] 3)) (.slice (some ⟨B, 0, none⟩) 1 1) [i] := by subst hB; exact lists_one i

/-- the state of the search: the row of numbers, the list, the neighbors that are being looked at -/
structure NQ (w wr : World) (b cap N LB B1 B2 : Nat) (T : Nat → Value) {M : Nat} (Y : Nat → Int) (L : List (Ix M)) (v nv : Value) (l : List (Ix M)) : Prop where
  row : wr.rowIs b 3 cap (ouF N T Y)
  li : Lists LB wr v L
  far : ∀ kk, v.ownBlock = some kk → kk < B1 ∨ B2 ≤ kk
  nr : RdI B1 B2 wr nv l.length (ixZ l)
  sz : B2 ≤ wr.heap.size
  bel : Below w.heap.size w wr

theorem NQ.drewN {w wr : World} {b cap N LB B1 B2 : Nat} {T : Nat → Value} {M : Nat} {Y : Nat → Int} {L : List (Ix M)} {v nv : Value} {l : List (Ix M)} (h : NQ w wr b cap N LB B1 B2 T Y L v nv l) (n : Nat) : NQ w (wr.drewN n) b cap N LB B1 B2 T Y L v nv l :=
  ⟨h.row.of_block rfl, h.li.below (below_drewN (Below.refl wr.heap.size _) _) (Nat.le_refl _), h.far, h.nr.same (fun _ _ _ => rfl), h.sz, below_drewN h.bel n⟩

theorem NQ.push {w wr w5 : World} {b cap N LB B1 B2 : Nat} {T : Nat → Value} {M : Nat} {Y Y' : Nat → Int} {L : List (Ix M)} {v v' nv : Value} {l : List (Ix M)} (h : NQ w wr b cap N LB B1 B2 T Y L v nv l) (y : Ix M) (z : Int) (hyN : y.1 < N)
    (hY : ∀ j, (if j = y.1 then z else Y j) = Y' j) (hb1 : b < LB) (hb2 : b < B1) (hwb : w.heap.size ≤ b) (hlb : w.heap.size ≤ LB) {o : Obj} {yy : Nat} (ey : y.1 = yy)
    (hown : w5.ownsRow LB 3 1 v' (L.length + 1) (ixV L ++ [.int .i64 yy])) (hg : ((wr.setCell ⟨b, yy, none⟩ (.int .i64 z)).alloc o).grownBy w5 v.ownBlock) (hat : v'.ownBlock = v.ownBlock ∨ v'.ownBlock = some ((wr.setCell ⟨b, yy, none⟩ (.int .i64 z)).alloc o).heap.size) :
    NQ w w5 b cap N LB B1 B2 T Y' (L ++ [y]) v' nv l := by
  subst ey
  obtain ⟨h1, h2, h3, h4, h5, h6⟩ := h
  have hs : ((wr.setCell ⟨b, y.1, none⟩ (.int .i64 z)).alloc o).heap.size = wr.heap.size + 1 := by simp [World.setCell]
  have hblt := h1.lt
  have hne : ∀ kk, v.ownBlock = some kk → LB ≤ kk := fun kk hk => (h2.lt kk hk).1
  have r1 := ((h1.set y.1 (.int .i64 z)).congr (fun j _ => ouF_set hyN hY j)).alloc o
  have blk : ∀ kk, kk < wr.heap.size → kk ≠ b → some kk ≠ v.ownBlock → w5.heap[kk]? = wr.heap[kk]? := fun kk hk hn hf => by
    rw [hg.block kk (by omega) hf, Below.heap_alloc _ o kk (by simpa [World.setCell] using hk)]
    exact Below.heap_setCell wr ⟨b, y.1, none⟩ _ kk (by simpa using hn)
  refine ⟨r1.of_block (hg.block b (by omega) (fun e => ?_)), ?_, fun kk hk => ?_, h4.same (fun kk hk1 hk2 => blk kk (by omega) (by omega) (fun e => ?_)), ?_, ?_⟩
  · have := hne b e.symm; omega
  · unfold Lists
    have e : ixV (L ++ [y]) = ixV L ++ [.int .i64 y.1] := by simp [ixV]
    rw [e, List.length_append]
    exact hown
  · rcases hat with e | e
    · exact h3 kk (e ▸ hk)
    · rw [hk] at e
      simp only [Option.some.injEq] at e
      omega
  · rcases h3 kk e.symm with h | h <;> omega
  · have := hg.size; omega
  · have hb3 := ((h6.setCell (p := ⟨b, y.1, none⟩) hwb (.int .i64 z)).alloc (by have := h6.size; simpa [World.setCell] using this) o)
    exact hb3.grown hg (by have := h6.size; omega) (fun kk hk => Nat.le_trans hlb (hne kk hk))

theorem own_setCell {w : World} {B n : Nat} {v : Value} {xs : List Value} (h : w.ownsRow B 3 1 v n xs) {p : Addr} (hp : p.block < B) (u : Value) (k : Nat) : ((w.drewN k).setCell p u).ownsRow B 3 1 v n xs := by
  have hg : w.grownBy ((w.drewN k).setCell p u) (some p.block) := ⟨rfl, rfl, rfl, by simp [World.setCell], fun kk hk hn => Below.heap_setCell (w.drewN k) p u kk (fun e => hn (by rw [e]))⟩
  exact h.kept hg (Or.inr (fun e => by have := (h.lt p.block e).1; omega))

/-- what the numbers leave -/
def NumSPost (R C : Nat) (Z : Nat → Int) (lv : Int) (w : World) (e : Ending) (w' : World) : Prop :=
  ∃ q cap F, e = .returned (.tuple #[.slice (some ⟨q, 0, none⟩) (R * C) cap, .int .i64 (rgN R C Z lv (R * C) : Nat)]) ∧ w.heap.size ≤ q ∧ (R * C ≤ cap ∧ cap ≤ maxLen) ∧ w'.rowIs q 3 cap F ∧ (∀ j, j < R * C → F j = .int .i64 (numZ R C Z lv j)) ∧ Below w.heap.size w w'

end Go.Proofs.Ytlbdglhippapnab
