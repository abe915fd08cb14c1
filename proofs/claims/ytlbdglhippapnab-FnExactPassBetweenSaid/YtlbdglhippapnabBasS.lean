/- WaterBasins of the model. -/
import Derived.Test.YtlbdglhippapnabM3
import Derived.Test.YtlbdglhippapnabRunE
import Derived.Test.YtlbdglhippapnabRunS
namespace Go.Proofs.Ytlbdglhippapnab
open Go.RowKit
set_option linter.unusedVariables false

open Classical in
noncomputable def G.bsV (g : G) : List (Ix (g.n * g.len 0)) := if g.Valid then bsL g.n (g.len 0) g.flat (g.n * g.len 0) else []
theorem G.bsV_yes {g : G} (h : g.Valid) : g.bsV = bsL g.n (g.len 0) g.flat (g.n * g.len 0) := by unfold G.bsV; rw [if_pos h]
theorem G.bsV_no {g : G} (h : ¬ g.Valid) : g.bsV = [] := by unfold G.bsV; rw [if_neg h]

/-- the last cell of a list -/
theorem Lists.lastCell {B : Nat} {w : World} {M : Nat} {l : List (Ix M)} {x : Ix M} {a : Option Addr} {n c : Nat} (h : Lists B w (.slice a n c) l) (hM : M ≤ 49) (hx : l[l.length - 1]? = some x) :
    ∃ b, a = some ⟨b, 0, none⟩ ∧ n = l.length ∧ w.cell? ⟨b, l.length - 1, none⟩ = some (.int .i64 x.1) ∧ l.length ≤ c := by
  obtain ⟨hlen, ⟨e, h0⟩ | ⟨b, cap, cur, e, hB, hb, hc, hcap, hcs, ht⟩⟩ := h
  · have : l = [] := List.eq_nil_of_length_eq_zero h0
    subst this
    simp at hx
  · simp only [Value.slice.injEq] at e
    obtain ⟨rfl, rfl, rfl⟩ := e
    have hpos : l.length - 1 < l.length := by
      rcases Nat.lt_or_ge (l.length - 1) l.length with h | h
      · exact h
      · rw [List.getElem?_eq_none h] at hx; cases hx
    refine ⟨b, rfl, rfl, ?_, hc⟩
    have e1 : cur.toList[l.length - 1]? = (ixV l)[l.length - 1]? := by rw [← ht, List.getElem?_take_of_lt (by omega)]
    have e2 : cur[l.length - 1]? = some (.int .i64 x.1) := by rw [← Array.getElem?_toList, e1]; simp [ixV, hx]
    simp [World.cell?, hb, e2]

end Go.Proofs.Ytlbdglhippapnab
