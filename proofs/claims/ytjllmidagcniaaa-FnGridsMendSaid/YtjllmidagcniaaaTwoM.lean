/- Grids beside and below each other, and their parts: what is reckoned. -/
import Derived.Test.YtjllmidagcniaaaPBase
import Derived.Test.YtjllmidagcniaaaImplJ
import Derived.Test.YtjllmidagcniaaaImplL
import Derived.Test.YtjllmidagcniaaaSpecG
import Derived.Test.YtjllmidagcniaaaSpecH
import Derived.Test.YtjllmidagcniaaaSpecJ
namespace Go.Proofs.Ytjllmidagcniaaa
open Go.RowKit
set_option linter.unusedVariables false

/-- a part, by numbers that are told apart from their values -/
theorem part_at (v : Value) (lo hi : Nat) (g : G) (t b l r : Int) (t' b' l' r' : Nat) (w : World) (hv : RdM lo hi w v g) (hh : hi ≤ w.heap.size) (h : g.PartOk t' b' l' r') (e1 : t = t') (e2 : b = b') (e3 : l = l') (e4 : r = r') :
    Calls Try.prog 22 #[v, .int .i64 t, .int .i64 b, .int .i64 l, .int .i64 r] w (GPost true (partG g t' b' l' r') w) := by
  subst e1 e2 e3 e4
  exact implGridPart_yes v lo hi g t' b' l' r' w hv hh h
theorem part_ok {g : G} (h : g.Valid) {t b l r : Nat} (h1 : t ≤ b) (h2 : b < g.n) (h3 : l ≤ r) (h4 : r < g.len 0) : g.PartOk t b l r :=
  ⟨⟨h, ⟨by omega, by omega⟩, by omega, by omega⟩, ⟨h, ⟨by omega, by omega⟩, by omega, by omega⟩, by omega, by omega⟩
theorem bes_ok {a b : G} (h : BesideOk a b) : (besideG a b).Valid := (beside_valid h.1 h.2.1 h.2.2.1).2 h.2.2.2
theorem bes_west {a b : G} (h : BesideOk a b) : G.Eqv (partG (besideG a b) 0 (a.n - 1) 0 (a.len 0 - 1)) a := by
  have h1 := h.1.1.1
  have h2 := h.1.2.1.1
  refine ⟨by simp only [partG]; omega, fun r hr => ?_⟩
  simp only [partG] at hr
  have hl := (h.1.2.2 r (by omega)).1
  refine ⟨by simp only [partG]; omega, fun c hc => ?_⟩
  simp only [partG] at hc
  simp only [partG, besideG, Nat.zero_add]
  rw [if_pos (by omega)]
theorem bes_east {a b : G} (h : BesideOk a b) : G.Eqv (partG (besideG a b) 0 (a.n - 1) (a.len 0) (a.len 0 + b.len 0 - 1)) b := by
  have h1 := h.1.1.1
  have h2 := h.2.1.2.1.1
  have h3 := h.2.2.1
  refine ⟨by simp only [partG]; omega, fun r hr => ?_⟩
  simp only [partG] at hr
  have hl := (h.2.1.2.2 r (by omega)).1
  refine ⟨by simp only [partG]; omega, fun c hc => ?_⟩
  simp only [partG] at hc
  simp only [partG, besideG, Nat.zero_add]
  rw [if_neg (by omega)]
  congr 1; omega
theorem bes_mirror_ok {a b : G} (h : BesideOk a b) : BesideOk (mirrorG b) (mirrorG a) := ⟨mirror_valid h.2.1, mirror_valid h.1, h.2.2.1.symm, by have := h.2.2.2; simp only [mirrorG]; omega⟩
theorem bes_mirror {a b : G} (h : BesideOk a b) : G.Eqv (besideG (mirrorG b) (mirrorG a)) (mirrorG (besideG a b)) := by
  have h3 := h.2.2.1
  refine ⟨by simp only [besideG, mirrorG]; omega, fun r hr => ⟨by simp only [besideG, mirrorG]; omega, fun c hc => ?_⟩⟩
  simp only [besideG, mirrorG] at hc
  show (if c < b.len 0 then b.z r (b.len 0 - 1 - c) else a.z r (a.len 0 - 1 - (c - b.len 0))) = (if a.len 0 + b.len 0 - 1 - c < a.len 0 then a.z r (a.len 0 + b.len 0 - 1 - c) else b.z r (a.len 0 + b.len 0 - 1 - c - a.len 0))
  by_cases e : c < b.len 0
  · rw [if_pos e, if_neg (by omega)]
    congr 1; omega
  · rw [if_neg e, if_pos (by omega)]
    congr 1; omega

theorem blw_facts {a b : G} (h : BelowOk a b) : a.len 0 = b.len 0 ∧ a.n + b.n ≤ 7 := (below_valid h.1 h.2.1).1 h.2.2
theorem blw_len0 {a b : G} (h : BelowOk a b) : (belowG a b).len 0 = a.len 0 := by
  have := h.1.1.1
  simp only [belowG]; rw [if_pos (by omega)]
theorem blw_north {a b : G} (h : BelowOk a b) : G.Eqv (partG (belowG a b) 0 (a.n - 1) 0 (a.len 0 - 1)) a := by
  have h1 := h.1.1.1
  have h2 := h.1.2.1.1
  refine ⟨by simp only [partG]; omega, fun r hr => ?_⟩
  simp only [partG] at hr
  have hl := (h.1.2.2 r (by omega)).1
  refine ⟨by simp only [partG]; omega, fun c hc => ?_⟩
  simp only [partG] at hc
  simp only [partG, belowG, Nat.zero_add]
  rw [if_pos (by omega)]
theorem blw_south {a b : G} (h : BelowOk a b) : G.Eqv (partG (belowG a b) a.n (a.n + b.n - 1) 0 (a.len 0 - 1)) b := by
  have h1 := h.1.1.1
  have h2 := h.2.1.1.1
  have h3 := (blw_facts h).1
  have h4 := h.1.2.1.1
  refine ⟨by simp only [partG]; omega, fun r hr => ?_⟩
  simp only [partG] at hr
  have hl := (h.2.1.2.2 r (by omega)).1
  refine ⟨by simp only [partG]; omega, fun c hc => ?_⟩
  simp only [partG] at hc
  simp only [partG, belowG, Nat.zero_add]
  rw [if_neg (by omega)]
  congr 1; omega
theorem blw_turn_ok {a b : G} (h : BelowOk a b) : BesideOk (turnG b) (turnG a) := ⟨turn_valid h.2.1, turn_valid h.1, by have := (blw_facts h).1; simp only [turnG]; omega, by have := (blw_facts h).2; simp only [turnG]; omega⟩
theorem blw_turn {a b : G} (h : BelowOk a b) : G.Eqv (besideG (turnG b) (turnG a)) (turnG (belowG a b)) := by
  have h3 := (blw_facts h).1
  have h0 := blw_len0 h
  refine ⟨by show b.len 0 = (belowG a b).len 0; omega, fun r hr => ⟨by simp only [besideG, turnG, belowG]; omega, fun c hc => ?_⟩⟩
  simp only [besideG, turnG] at hc
  show (if c < b.n then b.z (b.n - 1 - c) r else a.z (a.n - 1 - (c - b.n)) r) = (if (a.n + b.n) - 1 - c < a.n then a.z ((a.n + b.n) - 1 - c) r else b.z ((a.n + b.n) - 1 - c - a.n) r)
  by_cases e : c < b.n
  · rw [if_pos e, if_neg (by omega)]
    congr 1; omega
  · rw [if_neg e, if_pos (by omega)]
    congr 1; omega

end Go.Proofs.Ytjllmidagcniaaa
