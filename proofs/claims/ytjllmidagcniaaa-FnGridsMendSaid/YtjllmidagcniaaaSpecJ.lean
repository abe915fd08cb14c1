/- The model's GridBelow. -/
import Derived.Test.YtjllmidagcniaaaSpecI
namespace Go.Proofs.Ytjllmidagcniaaa
open Go.RowKit
set_option linter.unusedVariables false

/-- what GridBelow asks -/
def BelowOk (a b : G) : Prop := a.Valid ∧ b.Valid ∧ (belowG a b).Valid

theorem below_valid {a b : G} (ha : a.Valid) (hb : b.Valid) : (belowG a b).Valid ↔ a.len 0 = b.len 0 ∧ a.n + b.n ≤ 7 := by
  have han : 1 ≤ a.n := ha.1.1
  have hbn : 1 ≤ b.n := hb.1.1
  have e0 : (belowG a b).len 0 = a.len 0 := by simp only [belowG]; rw [if_pos (by omega)]
  constructor
  · intro h
    refine ⟨?_, h.1.2⟩
    have h1 := (h.2.2 a.n (by show a.n < a.n + b.n; omega)).1
    rw [e0] at h1
    simp only [belowG, Nat.lt_irrefl, if_false, Nat.sub_self] at h1
    exact h1.symm
  · rintro ⟨h1, h2⟩
    refine ⟨⟨by show 1 ≤ a.n + b.n; omega, h2⟩, by rw [e0]; exact ha.2.1, fun r hr => ?_⟩
    have hr' : r < a.n + b.n := hr
    rw [e0]
    simp only [belowG]
    by_cases h3 : r < a.n
    · simp only [h3, if_true]; exact ha.2.2 r h3
    · simp only [h3, if_false, h1]; exact hb.2.2 (r - a.n) (by omega)

theorem below_range {a b : G} (ha : ∀ r, r < a.n → ∀ c, c < a.len r → -9223372036854775808 ≤ a.z r c ∧ a.z r c ≤ 9223372036854775807) (hb : ∀ r, r < b.n → ∀ c, c < b.len r → -9223372036854775808 ≤ b.z r c ∧ b.z r c ≤ 9223372036854775807) :
    ∀ r, r < (belowG a b).n → ∀ c, c < (belowG a b).len r → -9223372036854775808 ≤ (belowG a b).z r c ∧ (belowG a b).z r c ≤ 9223372036854775807 := by
  intro r hr c hc
  have hr' : r < a.n + b.n := hr
  by_cases h3 : r < a.n
  · simp only [belowG, h3, if_true] at hc ⊢; exact ha r h3 c hc
  · simp only [belowG, h3, if_false] at hc ⊢; exact hb (r - a.n) (by omega) c hc

theorem Gr.newsTop {w wr : World} {b n c B : Nat} {RV : Nat → Value} {g : G} (h : Gr w wr (.slice (some ⟨b, 0, none⟩) n c) n B RV g) :
    ∀ j u, ((List.range n).map RV)[j]? = some u → wr.cell? ((⟨b, 0, none⟩ : Addr).add j) = some u := by
  intro j u hj
  have hjn : j < n := by
    have := (List.getElem?_eq_some_iff.1 hj).1
    simpa using this
  have e : (⟨b, 0, none⟩ : Addr).add j = ⟨b, j, none⟩ := by unfold Addr.add; split <;> simp_all
  rw [e, h.top.cellAt j (by omega)]
  exact hj

theorem Gr.oneRow {w wr : World} {v : Value} {n B : Nat} {RV : Nat → Value} {g : G} (h : Gr w wr v n B RV g) : ∀ u ∈ (List.range n).map RV, u.oneCell' = true := by
  intro u hu
  obtain ⟨r, hr, rfl⟩ := List.mem_map.1 hu
  obtain ⟨ys, c1, _, _⟩ := h.rows r (List.mem_range.1 hr)
  obtain ⟨a, c, e⟩ := own_shape c1
  rw [e]; rfl

def BlwPost (a b : G) (w : World) (e : Ending) (w' : World) : Prop := (BelowOk a b → SPost true (belowG a b) w e w') ∧ (¬ BelowOk a b → SPost false G0 w e w')

end Go.Proofs.Ytjllmidagcniaaa
