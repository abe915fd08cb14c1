/- The model's GridAt and GridSet. -/
import Derived.Test.YtdjlobppnhokoaaSpecD
namespace Go.Proofs.Ytdjlobppnhokoaa
open Go.RowKit
set_option linter.unusedVariables false

/-- there is such a cell of a grid -/
def G.Cell (g : G) (r c : Int) : Prop := g.Valid ∧ (0 ≤ r ∧ r ≤ (g.n : Int) - 1) ∧ 0 ≤ c ∧ c ≤ (g.len 0 : Int) - 1
noncomputable def G.cB (g : G) (r c : Int) : Bool := @decide (g.Cell r c) (Classical.propDecidable _)
theorem G.cB_yes {g : G} {r c : Int} (h : g.Cell r c) : g.cB r c = true := by simp [G.cB, h]
theorem G.cB_no {g : G} {r c : Int} (h : ¬ g.Cell r c) : g.cB r c = false := by simp [G.cB, h]

noncomputable def G.atV (g : G) (r c : Int) : Int := if g.cB r c = true then g.z r.toNat c.toNat else -1
theorem G.atV_yes {g : G} {r c : Nat} (h : g.Cell r c) : g.atV r c = g.z r c := by simp [G.atV, G.cB_yes h]
theorem G.atV_no {g : G} {r c : Int} (h : ¬ g.Cell r c) : g.atV r c = -1 := by simp [G.atV, G.cB_no h]

/-- a cell of a grid, opened -/
theorem RdM.cellAt {lo hi : Nat} {w : World} {v : Value} {g : G} (h : RdM lo hi w v g) {r c : Nat} (hr : r < g.n) (hc : c < g.len r) :
    ∃ b off cap b1 off1 cp, v = .slice (some ⟨b, off, none⟩) g.n cap ∧ w.cell? ⟨b, off + r, none⟩ = some (.slice (some ⟨b1, off1, none⟩) (g.len r) cp) ∧ w.cell? ⟨b1, off1 + c, none⟩ = some (.int .i64 (g.z r c)) ∧ b < hi ∧ b1 < hi := by
  obtain ⟨ao, cap, b, off, Ao, Cp, rfl, a2, a3, a5, a6, a7⟩ := h
  obtain ⟨rfl, _, hb⟩ := a5 (by omega)
  obtain ⟨ao1, cap1, b1, off1, e1, i2, i3, i4, i5, i6⟩ := a7 r hr
  have i5' := i5 (by omega)
  have ea : Ao r = ao1 := by simp only [Value.slice.injEq] at e1; exact e1.1
  exact ⟨b, off, cap, b1, off1, Cp r, rfl, by rw [← i5'.1, ← ea]; exact a6 r hr, i6 c hc, hb, i5'.2.2⟩

/-- the grid with another number at a cell -/
def G.upd (g : G) (r c : Nat) (x : Int) : G := { n := g.n, len := g.len, z := fun i j => if i = r ∧ j = c then x else g.z i j }

theorem Gr.store {w wr : World} {v : Value} {n B : Nat} {RV : Nat → Value} {g : G} (h : Gr w wr v n B RV g) {r c bq cq : Nat} (hr : r < n) (hc : c < g.len r) (hRV : RV r = .slice (some ⟨bq, 0, none⟩) (g.len r) cq) (x : Int) :
    Gr w (wr.setCell ⟨bq, c, none⟩ (.int .i64 x)) v n B RV (g.upd r c x) := by
  obtain ⟨a1, a2, a3, a4, a5, a6, a7⟩ := h
  obtain ⟨yr, k1, k2, k3⟩ := a6 r hr
  have hob : (RV r).ownBlock = some bq := by rw [hRV]; rfl
  have hbw := (k1.lt bq hob)
  refine ⟨a1.setCell (by show w.heap.size ≤ bq; omega) _, a2, by simpa [World.setCell] using a3, ?_, a5, fun s hs => ?_, a7⟩
  · refine ownsRow_setCell_other a4 ?_ _
    have hap := ownsRow_apart a4 k1 (by decide)
    rcases hap with h1 | h1
    · rw [h1]; simp
    · rw [hob] at h1; exact h1
  · by_cases e : s = r
    · subst e
      rw [hRV] at k1 ⊢
      have hst := (k1.stored c (.int .i64 x)).1
      refine ⟨_, hst, fun b hb => k2 b (by rw [hRV]; exact hb), fun j hj => ?_⟩
      have hl : yr.length = g.len s := by have := k1.1; omega
      have hj' : j < g.len s := hj
      simp only [G.upd, true_and]
      by_cases ej : j = c
      · subst ej
        rw [if_pos rfl, List.getElem?_set_self (by omega)]
      · rw [if_neg ej, List.getElem?_set_ne (by omega)]
        exact k3 j hj'
    · obtain ⟨ys, c1, c2, c3⟩ := a6 s hs
      refine ⟨ys, ownsRow_setCell_other c1 ?_ _, c2, fun j hj => ?_⟩
      · intro e'
        exact e (a7 s r hs hr bq e' hob)
      · have : ¬ (s = r ∧ j = c) := fun h => e h.1
        simp only [G.upd, this, if_false]
        exact c3 j hj

/-- the row of a built grid, opened for a store -/
theorem Gr.cellAt {w wr : World} {v : Value} {n B : Nat} {RV : Nat → Value} {g : G} (h : Gr w wr v n B RV g) {r c : Nat} (hr : r < n) (hc : c < g.len r) :
    ∃ b cap bq cq, v = .slice (some ⟨b, 0, none⟩) n cap ∧ RV r = .slice (some ⟨bq, 0, none⟩) (g.len r) cq ∧ wr.cell? ⟨b, r, none⟩ = some (.slice (some ⟨bq, 0, none⟩) (g.len r) cq) ∧ wr.cell? ⟨bq, c, none⟩ = some (.int .i64 (g.z r c)) ∧ wr.frozen? ⟨bq, c, none⟩ = false := by
  obtain ⟨a1, a2, a3, a4, a5, a6, a7⟩ := h
  obtain ⟨yr, k1, k2, k3⟩ := a6 r hr
  obtain ⟨b, cap, _, _, h3⟩ := own_slice a4
  obtain ⟨bq, cq, _, _, h4⟩ := own_slice k1
  rcases h3 with ⟨hv, _, _, _, hcell⟩ | ⟨_, h0⟩
  · rcases h4 with ⟨hq, _, _, _, hcq⟩ | ⟨_, h0⟩
    · refine ⟨b, cap, bq, cq, hv, hq, ?_, ?_, (hcq c hc).2⟩
      · rw [(hcell r hr).1, ← hq]; simp [hr]
      · rw [(hcq c hc).1]; exact k3 c hc
    · omega
  · omega

theorem upd_range {g : G} (h : g.Valid) {r c : Nat} {x : Int} (hx : 0 ≤ x ∧ x ≤ 99) : (g.upd r c x).Valid := by
  refine ⟨h.1, h.2.1, fun i hi => ⟨(h.2.2 i hi).1, fun j hj => ?_⟩⟩
  simp only [G.upd]
  split
  · exact hx
  · exact (h.2.2 i hi).2 j hj

/-- what GridSet asks -/
def G.SetOk (g : G) (r c x : Int) : Prop := g.Cell r c ∧ 0 ≤ x ∧ x ≤ 99

end Go.Proofs.Ytdjlobppnhokoaa
