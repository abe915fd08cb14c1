/- The program's GridTurn, GridMirror, GridInvert: what they answer. -/
import Derived.Test.YtdjlobppnhokoaaImplE
namespace Go.Proofs.Ytdjlobppnhokoaa
open Go.RowKit
set_option linter.unusedVariables false

def turnG (g : G) : G := { n := g.len 0, len := fun _ => g.n, z := fun r c => g.z (g.n - 1 - c) r }
def mirrorG (g : G) : G := { n := g.n, len := fun _ => g.len 0, z := fun r c => g.z r (g.len 0 - 1 - c) }
def invertG (g : G) : G := { n := g.n, len := fun _ => g.len 0, z := fun r c => 99 - g.z r c }

theorem relOk_of {R C n : Nat} {Z : Nat → Int} (hn : n = R * C) (hR : 1 ≤ R ∧ R ≤ 7) (hC : 1 ≤ C ∧ C ≤ 7) (h : ∀ r, r < R → ∀ c, c < C → 0 ≤ Z (r * C + c) ∧ Z (r * C + c) ≤ 99) : RelOk R C n Z := by
  refine ⟨hR, hC, fun i hi => ?_⟩
  have h0 : 0 < C := by omega
  have e1 : i / C < R := by rw [Nat.div_lt_iff_lt_mul h0]; omega
  have := h _ e1 (i % C) (Nat.mod_lt _ h0)
  rwa [Nat.mul_comm, Nat.div_add_mod] at this

theorem valid_at {g : G} (h : g.Valid) {r c : Nat} (hr : r < g.n) (hc : c < g.len 0) : 0 ≤ g.z r c ∧ g.z r c ≤ 99 :=
  (h.2.2 r hr).2 c (by rw [(h.2.2 r hr).1]; exact hc)

theorem RelYes.rv {g : G} {w w' : World} {e : Ending} (h : RelYes g w e w') : ∃ n gg cap, e = .returned (.tuple #[.agg #[.int .i64 g.n, .int .i64 (g.len 0), .slice (some ⟨gg, 0, none⟩) n cap], .bool true]) ∧ Rv w' g.n (g.len 0) n gg cap g.flat ∧ Below w.heap.size w w' := by
  obtain ⟨n, gg, cap, xs, hn, he, ho, hv, hb⟩ := h
  exact ⟨n, gg, cap, he, Rv.of_own ho hn hv, hb⟩

theorem GPost.up {b : Bool} {g g' : G} {w w1 w' : World} {e : Ending} (h : GPost b g w1 e w') (hb : Below w.heap.size w w1) (hg : G.Eqv g g') : GPost b g' w e w' := by
  obtain ⟨v, h1, h2, h3, h4⟩ := h
  exact ⟨v, h1, h2, (h3.mono hb.size (Nat.le_refl _)).congr hg, hb.trans (h4.mono hb.size)⟩

theorem z_turned {g : G} {r c : Nat} (hr : r < g.len 0) (hc : c < g.n) : (fun i => g.flat ((g.n - 1 - i % g.n) * g.len 0 + i / g.n)) (r * g.n + c) = g.z (g.n - 1 - c) r := by
  have hd := div_at r c (g.n) hc
  simp only [hd.1, hd.2]; rw [g.flat_at _ _ hr]

theorem z_mirrored {g : G} {r c : Nat} (hr : r < g.n) (hc : c < g.len 0) : (fun i => g.flat (i / g.len 0 * g.len 0 + (g.len 0 - 1 - i % g.len 0))) (r * g.len 0 + c) = g.z r (g.len 0 - 1 - c) := by
  have hd := div_at r c (g.len 0) hc
  simp only [hd.1, hd.2]; rw [g.flat_at _ _ (by omega)]

theorem z_inverted {g : G} {r c : Nat} (hr : r < g.n) (hc : c < g.len 0) : (fun i => 99 - g.flat i) (r * g.len 0 + c) = 99 - g.z r c := by
  have hd := div_at r c (g.len 0) hc
  show (99 : Int) - g.flat (r * g.len 0 + c) = _; rw [g.flat_at _ _ hc]

end Go.Proofs.Ytdjlobppnhokoaa
