/- The setting made label by label from the greatest weight on: mathematics, and the model's SettingGreedy. -/
import Derived.Test.YthelaffjpmcdbaaStQ
namespace Go.Proofs.Ythelaffjpmcdbaa
open Go.RowKit
set_option linter.unusedVariables false

/-- map and sides, side s of label k tried -/
noncomputable def gs1 (Z : Nat → Int) (k : Nat) (p : (Nat → Int) × (Nat → Int)) (s : Nat) : (Nat → Int) × (Nat → Int) :=
  if p.2 k < 0 ∧ ftB Z p.1 k s = true then (stp Z p.1 k s, upS p.2 k s) else p
noncomputable def g4 (Z : Nat → Int) (k : Nat) (p : (Nat → Int) × (Nat → Int)) : Nat → (Nat → Int) × (Nat → Int)
  | 0 => p
  | j + 1 => gs1 Z k (g4 Z k p j) j
/-- label k at its turn -/
noncomputable def gI (Z : Nat → Int) (wt : Int) (k : Nat) (p : (Nat → Int) × (Nat → Int)) (j : Nat) : (Nat → Int) × (Nat → Int) := if Z (k * 4 + 3) = wt then g4 Z k p j else p
noncomputable def gR (Z : Nat → Int) (wt : Int) (p : (Nat → Int) × (Nat → Int)) : Nat → (Nat → Int) × (Nat → Int)
  | 0 => p
  | i + 1 => gI Z wt i (gR Z wt p i) 4
noncomputable def gW (Z : Nat → Int) (n : Nat) : Nat → (Nat → Int) × (Nat → Int)
  | 0 => (mpK Z n, fun _ => -1)
  | t + 1 => gR Z (9 - (t : Int)) (gW Z n t) n
def GOk (p : (Nat → Int) × (Nat → Int)) : Prop := MpOk p.1 ∧ ∀ i, -1 ≤ p.2 i ∧ p.2 i ≤ 3

theorem gs1_set {Z : Nat → Int} {k : Nat} {p : (Nat → Int) × (Nat → Int)} {s : Nat} (h : p.2 k < 0) (hf : Fit Z p.1 k s) : gs1 Z k p s = (stp Z p.1 k s, upS p.2 k s) := by unfold gs1; rw [if_pos ⟨h, ftB_yes hf⟩]
theorem gs1_not {Z : Nat → Int} {k : Nat} {p : (Nat → Int) × (Nat → Int)} {s : Nat} (hf : ¬ Fit Z p.1 k s) : gs1 Z k p s = p := by unfold gs1; rw [if_neg (fun h => by rw [ftB_no hf] at h; exact absurd h.2 (by simp))]
theorem gs1_full {Z : Nat → Int} {k : Nat} {p : (Nat → Int) × (Nat → Int)} {s : Nat} (h : ¬ p.2 k < 0) : gs1 Z k p s = p := by unfold gs1; rw [if_neg (fun g => h g.1)]
theorem gs1_ok {Z : Nat → Int} {k : Nat} {p : (Nat → Int) × (Nat → Int)} {s : Nat} (h : GOk p) (hk : k < 6) (hs : s ≤ 3) : GOk (gs1 Z k p s) := by
  unfold gs1
  split
  · refine ⟨stp_ok h.1 hk, fun i => ?_⟩
    show -1 ≤ upS p.2 k s i ∧ upS p.2 k s i ≤ 3
    unfold upS
    split
    · omega
    · exact h.2 i
  · exact h
theorem g4_ok {Z : Nat → Int} {k : Nat} {p : (Nat → Int) × (Nat → Int)} (h : GOk p) (hk : k < 6) : ∀ j, j ≤ 4 → GOk (g4 Z k p j)
  | 0, _ => h
  | j + 1, hj => gs1_ok (g4_ok h hk j (by omega)) hk (by omega)
theorem gI_ok {Z : Nat → Int} {wt : Int} {k : Nat} {p : (Nat → Int) × (Nat → Int)} (h : GOk p) (hk : k < 6) (j : Nat) (hj : j ≤ 4) : GOk (gI Z wt k p j) := by
  unfold gI
  split
  · exact g4_ok h hk j hj
  · exact h
theorem gR_ok {Z : Nat → Int} {wt : Int} {p : (Nat → Int) × (Nat → Int)} (h : GOk p) : ∀ i, i ≤ 6 → GOk (gR Z wt p i)
  | 0, _ => h
  | i + 1, hi => gI_ok (gR_ok h i (by omega)) (by omega) 4 (by omega)
theorem gW_ok (Z : Nat → Int) (n : Nat) (hn : n ≤ 6) : ∀ t, GOk (gW Z n t)
  | 0 => ⟨mpK_ok Z n, fun _ => ⟨by show (-1 : Int) ≤ -1; omega, by show (-1 : Int) ≤ 3; omega⟩⟩
  | t + 1 => gR_ok (gW_ok Z n hn t) n hn
theorem g4_stay {Z : Nat → Int} {k : Nat} {p : (Nat → Int) × (Nat → Int)} {j : Nat} (h : ¬ (g4 Z k p j).2 k < 0) : ∀ d, g4 Z k p (j + d) = g4 Z k p j
  | 0 => rfl
  | d + 1 => by
    have := g4_stay h d
    show gs1 Z k (g4 Z k p (j + d)) (j + d) = _
    rw [this]
    exact gs1_full h
theorem gI_stay {Z : Nat → Int} {wt : Int} {k : Nat} {p : (Nat → Int) × (Nat → Int)} {j : Nat} (hj : j ≤ 4) (h : ¬ (gI Z wt k p j).2 k < 0) : gI Z wt k p 4 = gI Z wt k p j := by
  unfold gI at h ⊢
  split
  · rename_i e
    rw [if_pos e] at h
    have h4 := g4_stay h (4 - j)
    rw [show j + (4 - j) = 4 by omega] at h4
    exact h4
  · rfl
theorem gI_other {Z : Nat → Int} {wt : Int} {k : Nat} {p : (Nat → Int) × (Nat → Int)} {j : Nat} (h : ¬ Z (k * 4 + 3) = wt) : gI Z wt k p 4 = gI Z wt k p j := by unfold gI; rw [if_neg h, if_neg h]
theorem gI_step {Z : Nat → Int} {wt : Int} {k : Nat} {p : (Nat → Int) × (Nat → Int)} {j : Nat} (h : Z (k * 4 + 3) = wt) : gI Z wt k p (j + 1) = gs1 Z k (gI Z wt k p j) j := by unfold gI; rw [if_pos h, if_pos h]; rfl
theorem gI_zero {Z : Nat → Int} {wt : Int} {k : Nat} {p : (Nat → Int) × (Nat → Int)} : gI Z wt k p 0 = p := by unfold gI; split <;> rfl

theorem owG_open {lo hi : Nat} {w : World} {v : Value} {n : Nat} {Z : Nat → Int} (h : OwI lo hi w v n Z) (h0 : 0 < n) : ∃ b cap, v = .slice (some ⟨b, 0, none⟩) n cap ∧ lo ≤ b ∧ b < hi ∧ n ≤ cap ∧ (∀ j, j < n → w.cell? ⟨b, j, none⟩ = some (.int .i64 (Z j))) ∧ (∀ j, w.frozen? ⟨b, j, none⟩ = false) ∧
    ∀ j x, j < n → (-9223372036854775808 ≤ x ∧ x ≤ 9223372036854775807) → OwI lo hi (w.setCell ⟨b, j, none⟩ (.int .i64 x)) v n (upS Z j x) := by
  rcases h with ⟨rfl, h1⟩ | ⟨b, N, cap, F, rfl, h1, h2, h3, h4, h5, h6, h7, h8⟩
  · omega
  · refine ⟨b, cap, rfl, h1, h2, h5, fun j hj => by rw [h3.cell (by omega), h7 j hj], fun j => h3.frozen j, fun j x hj hx => Or.inr ⟨b, N, cap, _, rfl, h1, h2, h3.set j (.int .i64 x), h4, h5, h6, fun i hi => ?_, fun i hi => ?_⟩⟩
    · show (if i = j then _ else _) = _
      unfold upS
      split
      · rfl
      · exact h7 i hi
    · unfold upS
      split
      · exact hx
      · exact h8 i hi

theorem owG_congr {lo hi : Nat} {w : World} {v : Value} {n : Nat} {Z Z' : Nat → Int} (h : OwI lo hi w v n Z) (e : ∀ i, i < n → Z i = Z' i) : OwI lo hi w v n Z' := by
  rcases h with ⟨rfl, h1⟩ | ⟨b, N, cap, F, rfl, h1, h2, h3, h4, h5, h6, h7, h8⟩
  · exact Or.inl ⟨rfl, h1⟩
  · exact Or.inr ⟨b, N, cap, F, rfl, h1, h2, h3, h4, h5, h6, fun i hi => by rw [h7 i hi, e i hi], fun i hi => by rw [← e i hi]; exact h8 i hi⟩
theorem rdG_none {lo hi : Nat} {w : World} {v : Value} {Z Z' : Nat → Int} (h : RdI lo hi w v 0 Z) : RdI lo hi w v 0 Z' := by
  obtain ⟨ao, cap, b, off, rfl, a2, a3, a4, a5, a6⟩ := h
  exact ⟨ao, cap, b, off, rfl, a2, a3, fun i hi => by omega, a5, fun i hi => by omega⟩
/-- sides and map in the model's memory, one behind the other -/
def Gm (B : Nat) (w : World) (o u : Value) (n : Nat) (p : (Nat → Int) × (Nat → Int)) : Prop := ∃ t, B ≤ t ∧ t ≤ w.heap.size ∧ OwI B t w o n p.2 ∧ RdI t w.heap.size w u 100 p.1
theorem Gm.below {B : Nat} {w w' : World} {o u : Value} {n : Nat} {p : (Nat → Int) × (Nat → Int)} (h : Gm B w o u n p) (hb : Below w.heap.size w w') : Gm B w' o u n p := by
  obtain ⟨t, h1, h2, h3, h4⟩ := h
  have := hb.size
  exact ⟨t, h1, by omega, h3.same (SameIn.below hb h2), (h4.same (SameIn.below hb (Nat.le_refl _))).mono (Nat.le_refl _) this⟩
/-- a new map, a side written -/
theorem Gm.next {B : Nat} {w w' : World} {o u u' : Value} {n : Nat} {p : (Nat → Int) × (Nat → Int)} (h : Gm B w o u n p) (hb : Below w.heap.size w w') {M : Nat → Int} (hM : RdI w.heap.size w'.heap.size w' u' 100 M) (k : Nat) (hk : k < n) (s : Int) (hs : 0 ≤ s ∧ s ≤ 3) :
    ∃ b cap, o = .slice (some ⟨b, 0, none⟩) n cap ∧ B ≤ b ∧ b < w.heap.size ∧ n ≤ cap ∧ w'.frozen? ⟨b, k, none⟩ = false ∧ (∃ y, w'.cell? ⟨b, k, none⟩ = some y) ∧ Gm B (w'.setCell ⟨b, k, none⟩ (.int .i64 s)) o u' n (M, upS p.2 k s) := by
  obtain ⟨t, h1, h2, h3, h4⟩ := h
  have hz := hb.size
  obtain ⟨b, cap, rfl, g1, g2, g3, g4, g5, g6⟩ := owG_open (h3.same (SameIn.below hb h2)) (by omega)
  refine ⟨b, cap, rfl, g1, by omega, g3, g5 k, ⟨_, g4 k hk⟩, t, h1, by rw [setCell_size]; omega, g6 k s hk (by omega), ?_⟩
  rw [setCell_size]
  exact (hM.mono h2 (Nat.le_refl _)).same (fun j j1 _ => Below.heap_setCell _ _ _ _ (by show j ≠ b; omega))
end Go.Proofs.Ythelaffjpmcdbaa
