/- The model's GridBeside. -/
import Derived.Test.YtjllmidagcniaaaRange
namespace Go.Proofs.Ytjllmidagcniaaa
open Go.RowKit
set_option linter.unusedVariables false

def besideG (a b : G) : G := { n := a.n, len := fun _ => a.len 0 + b.len 0, z := fun r c => if c < a.len 0 then a.z r c else b.z r (c - a.len 0) }
/-- what GridBeside asks -/
def BesideOk (a b : G) : Prop := a.Valid ∧ b.Valid ∧ a.n = b.n ∧ a.len 0 + b.len 0 ≤ 7

theorem beside_valid {a b : G} (ha : a.Valid) (hb : b.Valid) (hn : a.n = b.n) : (besideG a b).Valid ↔ a.len 0 + b.len 0 ≤ 7 := by
  constructor
  · intro h; exact h.2.1.2
  · intro h
    refine ⟨ha.1, ⟨by have := ha.2.1; simp only [besideG]; omega, h⟩, fun r hr => ⟨rfl, fun c hc => ?_⟩⟩
    simp only [besideG] at hr hc ⊢
    split
    · exact valid_at ha hr (by omega)
    · exact valid_at hb (by omega) (by omega)

theorem beside_range {a b : G} (ha : a.Valid) (hb : b.Valid) (hn : a.n = b.n) : ∀ r, r < (besideG a b).n → ∀ c, c < (besideG a b).len r → -9223372036854775808 ≤ (besideG a b).z r c ∧ (besideG a b).z r c ≤ 9223372036854775807 := by
  intro r hr c hc
  simp only [besideG] at hr hc ⊢
  split
  · have := valid_at ha hr (c := c) (by omega); omega
  · have := valid_at hb (r := r) (c := c - a.len 0) (by omega) (by omega); omega

theorem news_of {W : World} {b1 off1 n : Nat} {Z : Nat → Int} (hc : ∀ j, j < n → W.cell? ⟨b1, off1 + j, none⟩ = some (.int .i64 (Z j))) :
    ∀ j u, ((List.range n).map fun c => Value.int .i64 (Z c))[j]? = some u → W.cell? ((⟨b1, off1, none⟩ : Addr).add j) = some u := by
  intro j u hj
  rw [List.getElem?_map, Option.map_eq_some_iff] at hj
  obtain ⟨c, hc1, rfl⟩ := hj
  rw [List.getElem?_eq_some_iff] at hc1
  obtain ⟨hc2, hc3⟩ := hc1
  simp at hc2 hc3
  subst hc3
  have : (⟨b1, off1, none⟩ : Addr).add j = ⟨b1, off1 + j, none⟩ := by unfold Addr.add; split <;> simp_all
  rw [this]
  exact hc j hc2

/-- a row of a grid that is no empty row, opened -/
theorem RdM.rowAt {lo hi : Nat} {w : World} {v : Value} {g : G} (h : RdM lo hi w v g) {r : Nat} (hr : r < g.n) (hl : 0 < g.len r) :
    ∃ b off cap b1 off1 cp, v = .slice (some ⟨b, off, none⟩) g.n cap ∧ w.cell? ⟨b, off + r, none⟩ = some (.slice (some ⟨b1, off1, none⟩) (g.len r) cp) ∧ (∀ c, c < g.len r → w.cell? ⟨b1, off1 + c, none⟩ = some (.int .i64 (g.z r c))) ∧ b < hi ∧ b1 < hi ∧ g.len r ≤ cp := by
  obtain ⟨ao, cap, b, off, Ao, Cp, rfl, a2, a3, a5, a6, a7⟩ := h
  obtain ⟨rfl, _, hb⟩ := a5 (by omega)
  obtain ⟨ao1, cap1, b1, off1, e1, i2, i3, i4, i5, i6⟩ := a7 r hr
  have i5' := i5 hl
  have ea : Ao r = ao1 ∧ Cp r = cap1 := by simp only [Value.slice.injEq] at e1; exact ⟨e1.1, e1.2.2⟩
  exact ⟨b, off, cap, b1, off1, Cp r, rfl, by rw [← i5'.1, ← ea.1]; exact a6 r hr, i6, hb, i5'.2.2, by omega⟩

theorem beside_row {a b : G} {k B0 g2 cq2 : Nat} {w2 : World} (ha : a.len k = a.len 0) (hb : b.len k = b.len 0)
    (h : w2.ownsRow B0 3 1 (.slice (some ⟨g2, 0, none⟩) (a.len k + b.len k) cq2) (a.len k + b.len k) (((List.range (a.len k)).map fun c => Value.int .i64 (a.z k c)) ++ (List.range (b.len k)).map fun c => Value.int .i64 (b.z k c))) :
    Rw B0 w2 (.slice (some ⟨g2, 0, none⟩) (a.len k + b.len k) cq2) ((besideG a b).len k) ((besideG a b).z k) := by
  have e : (besideG a b).len k = a.len k + b.len k := by simp only [besideG]; omega
  rw [e]
  refine ⟨_, h, fun i hi => ?_⟩
  simp only [besideG]
  by_cases h1 : i < a.len k
  · rw [List.getElem?_append_left (by simpa using h1), if_pos (by omega)]; simp [h1]
  · rw [List.getElem?_append_right (by simpa using Nat.le_of_not_lt h1), if_neg (by omega)]
    have h3 : i - a.len 0 < b.len k := by omega
    simp [h3, ha]

def BsPost (a b : G) (w : World) (e : Ending) (w' : World) : Prop := (BesideOk a b → SPost true (besideG a b) w e w') ∧ (¬ BesideOk a b → SPost false G0 w e w')

end Go.Proofs.Ytjllmidagcniaaa
