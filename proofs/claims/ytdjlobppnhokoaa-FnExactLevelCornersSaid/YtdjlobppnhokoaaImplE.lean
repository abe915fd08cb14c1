/- A relief as a grid again; turned, mirrored, inverted, raised. -/
import Derived.Test.YtdjlobppnhokoaaImplD
namespace Go.Proofs.Ytdjlobppnhokoaa
open Go.RowKit
set_option linter.unusedVariables false

theorem G.Eqv.refl (g : G) : G.Eqv g g := ⟨rfl, fun _ _ => ⟨rfl, fun _ _ => rfl⟩⟩

theorem OwM.congr {lo hi : Nat} {w : World} {v : Value} {g g' : G} (h : OwM lo hi w v g) (e : G.Eqv g g') : OwM lo hi w v g' := by
  obtain ⟨e1, e2⟩ := e
  rcases h with ⟨h, h0⟩ | ⟨b, Gb, h0, hn, h1, h2, h3, h4, h5⟩
  · exact Or.inl ⟨h, by omega⟩
  · refine Or.inr ⟨b, Gb, by rw [h0, e1], by omega, h1, h2, ?_, fun r hr => ?_, fun r s hr hs => h5 r s (by omega) (by omega)⟩
    · rw [← e1]; exact h3.congr (fun i hi => by rw [(e2 i hi).1])
    · obtain ⟨a1, a2, a3, a4, a5, a6⟩ := h4 r (by omega)
      obtain ⟨c1, c2⟩ := e2 r (by omega)
      exact ⟨a1, a2, a3, by omega, by rw [← c1]; exact a5.congr (fun i hi => by rw [c2 i hi]), fun c hc => by rw [← c2 c (by omega)]; exact a6 c (by omega)⟩

/-- a relief's heights can be read -/
structure Rv (w : World) (R C n gg cap : Nat) (Z : Nat → Int) : Prop where
  n_eq : n = R * C
  lt : gg < w.heap.size
  le : n ≤ cap
  cell : ∀ i, i < n → w.cell? ⟨gg, i, none⟩ = some (.int .i64 (Z i))

theorem Rv.keep {w w' : World} {R C n gg cap : Nat} {Z : Nat → Int} (h : Rv w R C n gg cap Z) {B : Nat} (hb : Below B w w') (hB : w.heap.size ≤ B) : Rv w' R C n gg cap Z :=
  ⟨h.n_eq, Nat.lt_of_lt_of_le h.lt hb.size, h.le, fun i hi => (hb.cell (p := ⟨gg, i, none⟩) (Nat.lt_of_lt_of_le h.lt hB)).trans (h.cell i hi)⟩

theorem Rv.of_own {w : World} {base R C n gg cap : Nat} {xs : List Value} {Z : Nat → Int} (h : w.ownsRow base 3 1 (.slice (some ⟨gg, 0, none⟩) n cap) n xs) (hn : n = R * C) (hv : ∀ i, i < n → xs[i]? = some (.int .i64 (Z i))) : Rv w R C n gg cap Z := by
  refine ⟨hn, (h.lt gg rfl).2, ?_, fun i hi => by rw [h.cellAt i (by omega)]; exact hv i hi⟩
  rcases h.2 with ⟨h', _⟩ | ⟨g, c, cur, hv', _, _, hle, _⟩
  · simp at h'
  · simp at hv'; omega

/-- what a function that answers a grid and true, or none and false, leaves -/
def GPost (b : Bool) (g : G) (w : World) (e : Ending) (w' : World) : Prop :=
  ∃ v, e = .returned (.tuple #[v, .bool b]) ∧ (∃ a l c, v = .slice a l c) ∧ OwM w.heap.size w'.heap.size w' v g ∧ Below w.heap.size w w'
def G0 : G := ⟨0, fun _ => 0, fun _ _ => 0⟩
theorem OwM.none (lo hi : Nat) (w : World) : OwM lo hi w (.slice none 0 0) G0 := Or.inl ⟨rfl, rfl⟩

theorem mul_le_49 {R C : Nat} (h1 : R ≤ 7) (h2 : C ≤ 7) : R * C ≤ 49 := Nat.mul_le_mul h1 h2

theorem OwM.mono {lo hi lo' hi' : Nat} {w : World} {v : Value} {g : G} (h : OwM lo hi w v g) (h1 : lo' ≤ lo) (h2 : hi ≤ hi') : OwM lo' hi' w v g := by
  rcases h with h | ⟨b, Gb, h0, hn, a1, a2, h3, h4, h5⟩
  · exact Or.inl h
  · refine Or.inr ⟨b, Gb, h0, hn, by omega, by omega, h3, fun r hr => ?_, h5⟩
    obtain ⟨c1, c2, c3⟩ := h4 r hr
    exact ⟨by omega, by omega, c3⟩

/-- what a method that makes a relief leaves -/
def MPost (R C : Nat) (Z : Nat → Int) (w : World) (e : Ending) (w' : World) : Prop :=
  ∃ n gg cap, e = .returned (.agg #[.int .i64 R, .int .i64 C, .slice (some ⟨gg, 0, none⟩) n cap]) ∧ Rv w' R C n gg cap Z ∧ Below w.heap.size w w'

theorem div_at (r c C : Nat) (hc : c < C) : (r * C + c) / C = r ∧ (r * C + c) % C = c := by
  have h0 : 0 < C := by omega
  constructor
  · rw [Nat.add_comm, Nat.add_mul_div_right _ _ h0, Nat.div_eq_of_lt hc]; omega
  · rw [Nat.add_comm, Nat.add_mul_mod_self_right, Nat.mod_eq_of_lt hc]

theorem cell_lt {r c R C n : Nat} (hn : n = R * C) (hr : r < R) (hc : c < C) : r * C + c < n := by
  have h1 : (r + 1) * C ≤ R * C := Nat.mul_le_mul_right C hr
  rw [Nat.add_mul] at h1
  omega


end Go.Proofs.Ytdjlobppnhokoaa
