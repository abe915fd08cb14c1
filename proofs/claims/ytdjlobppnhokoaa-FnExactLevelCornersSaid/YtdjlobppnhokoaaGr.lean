/- Grids that a call builds by append, row by row: what holds of them, step by step. -/
import Derived.Test.YtdjlobppnhokoaaSpecA
import Derived.Deep.AppendLies
import Derived.Deep.Matrix
namespace Go.Proofs.Ytdjlobppnhokoaa
open Go.RowKit
set_option linter.unusedVariables false

theorem ownsRow_low {w : World} {base base' : Nat} {e : TypeId} {size : Nat} {v : Value} {n : Nat} {xs : List Value} (h : w.ownsRow base e size v n xs) (hb : base' ≤ base) : w.ownsRow base' e size v n xs := by
  obtain ⟨h1, h2⟩ := h
  refine ⟨h1, ?_⟩
  rcases h2 with h2 | ⟨g, cap, cur, hv, hg, r⟩
  · exact Or.inl h2
  · exact Or.inr ⟨g, cap, cur, hv, Nat.le_trans hb hg, r⟩

theorem ownsRow_below {w w2 : World} {base : Nat} {e : TypeId} {size : Nat} {v : Value} {n : Nat} {xs : List Value} {B : Nat} (h : w.ownsRow base e size v n xs) (hb : Below B w w2) (hB : ∀ k, v.ownBlock = some k → k < B) : w2.ownsRow base e size v n xs := by
  obtain ⟨h1, h2⟩ := h
  refine ⟨h1, ?_⟩
  rcases h2 with h2 | ⟨g, cap, cur, hv, hg, hh, r⟩
  · exact Or.inl h2
  · exact Or.inr ⟨g, cap, cur, hv, hg, by rw [hb.block _ (hB g (by rw [hv]; rfl))]; exact hh, r⟩

/-- two owned rows of different element types lie in different blocks -/
theorem ownsRow_apart {w : World} {b1 b2 e1 e2 s1 s2 n1 n2 : Nat} {v1 v2 : Value} {x1 x2 : List Value} (h1 : w.ownsRow b1 e1 s1 v1 n1 x1) (h2 : w.ownsRow b2 e2 s2 v2 n2 x2) (hne : e1 ≠ e2) : v1.ownBlock = none ∨ v1.ownBlock ≠ v2.ownBlock := by
  rcases h1.2 with ⟨rfl, _⟩ | ⟨g, cap, cur, rfl, _, hh, _⟩
  · exact Or.inl rfl
  · right
    rcases h2.2 with ⟨rfl, _⟩ | ⟨g', cap', cur', rfl, _, hh', _⟩
    · simp [Value.ownBlock]
    · intro e
      simp only [Value.ownBlock, Option.some.injEq] at e
      subst e
      rw [hh] at hh'
      simp only [Option.some.injEq, Obj.cells.injEq] at hh'
      exact hne hh'.2.1

/-- a row of m numbers that the call is making, in a block from B on -/
def Rw (B : Nat) (wr : World) (v : Value) (m : Nat) (Z : Nat → Int) : Prop :=
  ∃ ys, wr.ownsRow B 3 1 v m ys ∧ ∀ i, i < m → ys[i]? = some (.int .i64 (Z i))

/-- k rows of g are made -/
structure Gr (w wr : World) (v : Value) (k B : Nat) (RV : Nat → Value) (g : G) : Prop where
  below : Below w.heap.size w wr
  lo : w.heap.size ≤ B
  hi : B ≤ wr.heap.size
  top : wr.ownsRow w.heap.size 27 1 v k ((List.range k).map RV)
  topB : ∀ b, v.ownBlock = some b → b < B
  rows : ∀ r, r < k → ∃ ys, wr.ownsRow w.heap.size 3 1 (RV r) (g.len r) ys ∧ (∀ b, (RV r).ownBlock = some b → b < B) ∧ ∀ c, c < g.len r → ys[c]? = some (.int .i64 (g.z r c))
  inj : ∀ r s, r < k → s < k → ∀ b, (RV r).ownBlock = some b → (RV s).ownBlock = some b → r = s

theorem Gr.keep {w wr w1 : World} {v : Value} {k B : Nat} {RV : Nat → Value} {g : G} (h : Gr w wr v k B RV g) (hb : Below B wr w1) : Gr w w1 v k B RV g := by
  obtain ⟨h1, h2, h3, h4, h5, h6, h7⟩ := h
  refine ⟨h1.trans (hb.mono h2), h2, Nat.le_trans h3 hb.size, ownsRow_below h4 hb h5, h5, fun r hr => ?_, h7⟩
  obtain ⟨ys, a1, a2, a3⟩ := h6 r hr
  exact ⟨ys, ownsRow_below a1 hb a2, a2, a3⟩

theorem Gr.raise {w wr : World} {v : Value} {k B B' : Nat} {RV : Nat → Value} {g : G} (h : Gr w wr v k B RV g) (h1 : B ≤ B') (h2 : B' ≤ wr.heap.size) : Gr w wr v k B' RV g := by
  obtain ⟨a1, a2, a3, a4, a5, a6, a7⟩ := h
  refine ⟨a1, by omega, h2, a4, fun b hb => by have := a5 b hb; omega, fun r hr => ?_, a7⟩
  obtain ⟨ys, c1, c2, c3⟩ := a6 r hr
  exact ⟨ys, c1, fun b hb => by have := c2 b hb; omega, c3⟩

theorem Rw.keep {B B' : Nat} {wr w1 : World} {v : Value} {m : Nat} {Z : Nat → Int} (h : Rw B wr v m Z) (hb : Below B' wr w1) (hB : wr.heap.size ≤ B') : Rw B w1 v m Z := by
  obtain ⟨ys, h1, h2⟩ := h
  exact ⟨ys, ownsRow_below h1 hb (fun k hk => by have := (h1.lt k hk).2; omega), h2⟩

theorem Rw.push {B : Nat} {w1 : World} {v' : Value} {m : Nat} {Z : Nat → Int} {ys : List Value} (hy : ys.length = m) (hv : ∀ i, i < m → ys[i]? = some (.int .i64 (Z i))) (hown : w1.ownsRow B 3 1 v' (m + 1) (ys ++ [.int .i64 (Z m)])) : Rw B w1 v' (m + 1) Z := by
  refine ⟨_, hown, fun i hi => ?_⟩
  by_cases e : i < m
  · rw [List.getElem?_append_left (by omega)]; exact hv i e
  · have : i = m := by omega
    subst this
    rw [List.getElem?_append_right (by omega), hy]; simp

theorem Gr.push {w wr w1 : World} {v v' rv : Value} {k B : Nat} {RV : Nat → Value} {g : G} {o : Obj} (h : Gr w wr v k B RV g) (hr : Rw B wr rv (g.len k) (g.z k)) (hown : w1.ownsRow w.heap.size 27 1 v' (k + 1) ((List.range k).map RV ++ [rv])) (hg : (wr.alloc o).grownBy w1 v.ownBlock) :
    Gr w w1 v' (k + 1) w1.heap.size (fun r => if r = k then rv else RV r) g := by
  obtain ⟨a1, a2, a3, a4, a5, a6, a7⟩ := h
  have hsz : wr.heap.size + 1 ≤ w1.heap.size := by have := hg.size; simp at this; omega
  have hlow : ∀ b, v.ownBlock = some b → w.heap.size ≤ b := fun b hb => (a4.lt b hb).1
  obtain ⟨yk, k1, k2⟩ := hr
  refine ⟨(a1.alloc (by omega) o).grown hg (by simp; omega) hlow, by omega, Nat.le_refl _, ?_, fun b hb => (hown.lt b hb).2, fun r hr' => ?_, fun r s hr' hs b e1 e2 => ?_⟩
  · have e : (List.range (k + 1)).map (fun r => if r = k then rv else RV r) = (List.range k).map RV ++ [rv] := by
      rw [List.range_succ, List.map_append]
      simp only [List.map_cons, List.map_nil, if_true]
      congr 1
      exact List.map_congr_left (fun r hr => by
        have := List.mem_range.1 hr
        rw [if_neg (by omega)])
    rw [e]; exact hown
  · by_cases e : r = k
    · subst e
      simp only [if_true]
      have hap := ownsRow_apart k1 a4 (by decide)
      have k3 := ((k1.alloc o).kept hg hap)
      exact ⟨yk, ownsRow_low k3 a2, fun b hb => (k3.lt b hb).2, k2⟩
    · obtain ⟨ys, c1, c2, c3⟩ := a6 r (by omega)
      simp only [e, if_false]
      have hap := ownsRow_apart c1 a4 (by decide)
      exact ⟨ys, (c1.alloc o).kept hg hap, fun b hb => by have := c2 b hb; omega, c3⟩
  · by_cases e3 : r = k
    · by_cases e4 : s = k
      · omega
      · simp only [e3, if_true] at e1
        simp only [e4, if_false] at e2
        have h5 := (k1.lt b e1).1
        obtain ⟨ys, c1, c2, c3⟩ := a6 s (by omega)
        have := c2 b e2
        omega
    · by_cases e4 : s = k
      · simp only [e4, if_true] at e2
        simp only [e3, if_false] at e1
        have h5 := (k1.lt b e2).1
        obtain ⟨ys, c1, c2, c3⟩ := a6 r (by omega)
        have := c2 b e1
        omega
      · simp only [e3, e4, if_false] at e1 e2
        exact a7 r s (by omega) (by omega) b e1 e2

theorem own_slice {w : World} {base e n : Nat} {v : Value} {xs : List Value} (h : w.ownsRow base e 1 v n xs) : ∃ b cap, n ≤ cap ∧ cap ≤ 9223372036854775807 ∧ ((v = .slice (some ⟨b, 0, none⟩) n cap ∧ v.ownBlock = some b ∧ base ≤ b ∧ b < w.heap.size ∧ ∀ i, i < n → w.cell? ⟨b, i, none⟩ = xs[i]? ∧ w.frozen? ⟨b, i, none⟩ = false) ∨ (v = .slice none n cap ∧ n = 0)) := by
  rcases h.2 with ⟨rfl, rfl⟩ | ⟨g, cap, cur, rfl, hb, hh, hn, hm, _⟩
  · exact ⟨0, 0, by omega, by omega, Or.inr ⟨rfl, rfl⟩⟩
  · refine ⟨g, cap, hn, by unfold maxLen at hm; omega, Or.inl ⟨rfl, rfl, hb, lt_of_block hh, fun i hi => ⟨h.cellAt i (by omega), h.frozenAt i⟩⟩⟩

theorem own_shape {w : World} {base e n : Nat} {v : Value} {xs : List Value} (h : w.ownsRow base e 1 v n xs) : ∃ (a : Option Addr) (c : Nat), v = .slice a n c := by
  obtain ⟨b, cap, _, _, h3⟩ := own_slice h
  rcases h3 with h3 | h3
  · exact ⟨_, _, h3.1⟩
  · exact ⟨_, _, h3.1⟩

theorem Rw.rdI {B : Nat} {w : World} {v : Value} {m : Nat} {Z : Nat → Int} (h : Rw B w v m Z) (hz : ∀ i, i < m → -9223372036854775808 ≤ Z i ∧ Z i ≤ 9223372036854775807) : RdI B w.heap.size w v m Z := by
  obtain ⟨ys, h1, h2⟩ := h
  obtain ⟨b, cap, hn, hm, h3⟩ := own_slice h1
  rcases h3 with ⟨hv, _, hb, hlt, hc⟩ | ⟨hv, h0⟩
  · exact ⟨_, cap, b, 0, hv, hn, hm, hz, fun _ => ⟨rfl, hb, hlt⟩, fun i hi => by rw [Nat.zero_add, (hc i hi).1]; exact h2 i hi⟩
  · exact ⟨_, cap, 0, 0, hv, hn, hm, hz, fun h => by omega, fun i hi => by omega⟩

theorem Gr.rdM {w wr : World} {v : Value} {B : Nat} {RV : Nat → Value} {g : G} (h : Gr w wr v g.n B RV g) (hz : ∀ r, r < g.n → ∀ c, c < g.len r → -9223372036854775808 ≤ g.z r c ∧ g.z r c ≤ 9223372036854775807) : RdM w.heap.size wr.heap.size wr v g := by
  obtain ⟨a1, a2, a3, a4, a5, a6, a7⟩ := h
  have hrow : ∀ r, r < g.n → ∃ y : Option Addr × Nat, RV r = .slice y.1 (g.len r) y.2 ∧ RdI w.heap.size wr.heap.size wr (RV r) (g.len r) (g.z r) := fun r hr => by
    obtain ⟨ys, c1, c2, c3⟩ := a6 r hr
    have hR : RdI w.heap.size wr.heap.size wr (RV r) (g.len r) (g.z r) := Rw.rdI ⟨ys, c1, c3⟩ (hz r hr)
    obtain ⟨ao, cap, _, _, e, _⟩ := id hR
    exact ⟨(ao, cap), e, hR⟩
  obtain ⟨y, hy⟩ := Go.Deep.choose_lt hrow
  obtain ⟨b, cap, hn, hm, h3⟩ := own_slice a4
  rcases h3 with ⟨hv, _, hb, hlt, hc⟩ | ⟨hv, h0⟩
  · refine ⟨_, cap, b, 0, fun r => (y r).1, fun r => (y r).2, hv, hn, hm, fun _ => ⟨rfl, hb, hlt⟩, fun r hr => ?_, fun r hr => by rw [← (hy r hr).1]; exact (hy r hr).2⟩
    rw [Nat.zero_add, (hc r hr).1, ← (hy r hr).1]
    simp [hr]
  · exact ⟨_, cap, 0, 0, fun _ => none, fun _ => 0, hv, hn, hm, fun h => by omega, fun r hr => by omega, fun r hr => by omega⟩

end Go.Proofs.Ytdjlobppnhokoaa
