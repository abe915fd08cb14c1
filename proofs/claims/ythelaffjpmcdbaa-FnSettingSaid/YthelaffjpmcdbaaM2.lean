/- Several texts of this family in one. -/
import Derived.Test.YthelaffjpmcdbaaM1
import Derived.Laws.CopyOwn
import Derived.Deep.AppendLies
import Derived.Deep.Matrix
import Derived.StillTailTactics

/- A relief's own methods: a cell, its place; the lists of a relief. -/
namespace Go.Proofs.Ythelaffjpmcdbaa
open Go.RowKit
set_option linter.unusedVariables false

theorem ret_int {k : IntKind} {a b : Int} (h : a = b) : Ending.returned (.int k a) = .returned (.int k b) := by rw [h]

def IntPost (m : Int) (w : World) (e : Ending) (w' : World) : Prop := e = .returned (.int .i64 m) ∧ Below w.heap.size w w'

theorem madeCells_replicate (z : Value) (n : Nat) : madeCells #[z] n = (List.replicate n z).toArray := by
  apply Array.ext'
  rw [toList_madeCells_one]

/-- the grid of R rows of C numbers that lie flat -/
def gridOf (R C : Nat) (Z : Nat → Int) : G := { n := R, len := fun _ => C, z := fun r c => Z (r * C + c) }

def ListsPost (R C : Nat) (Z : Nat → Int) (w : World) (e : Ending) (w' : World) : Prop :=
  ∃ v, e = .returned v ∧ (∃ a l c, v = .slice a l c) ∧ OwM w.heap.size w'.heap.size w' v (gridOf R C Z) ∧ Below w.heap.size w w'

theorem Try.sizeI : (Try.prog.info? 3).map (·.size) = some 1 := by kernel_rfl

theorem keep4 {b : Nat} {w w2 : World} {x k y : Nat} {p q r s : Value} (h : Below b w w2) (hx : x < b) (hy : y < b) (h0 : w.cell? ⟨x, k, none⟩ = some p) (h1 : w.cell? ⟨y, 0, none⟩ = some q) (h2 : w.cell? ⟨y, 1, none⟩ = some r) (h3 : w.cell? ⟨y, 2, none⟩ = some s) :
    w2.cell? ⟨x, k, none⟩ = some p ∧ w2.cell? ⟨y, 0, none⟩ = some q ∧ w2.cell? ⟨y, 1, none⟩ = some r ∧ w2.cell? ⟨y, 2, none⟩ = some s :=
  ⟨(h.cell (p := ⟨x, k, none⟩) hx).trans h0, (h.cell (p := ⟨y, 0, none⟩) hy).trans h1, (h.cell (p := ⟨y, 1, none⟩) hy).trans h2, (h.cell (p := ⟨y, 2, none⟩) hy).trans h3⟩

theorem lists_src {w w3 : World} {gg n m k C : Nat} {Z : Nat → Int} (hm : m = k * C) (hmn : m + C ≤ n) (hc : ∀ i, i < n → w.cell? ⟨gg, i, none⟩ = some (.int .i64 (Z i))) (he : ∀ i, i < n → w3.cell? ⟨gg, i, none⟩ = w.cell? ⟨gg, i, none⟩) :
    ∀ j v, ((List.range C).map fun c => Value.int .i64 (Z (k * C + c)))[j]? = some v → w3.cell? ((⟨gg, m, none⟩ : Addr).add j) = some v := by
  intro j v hj
  rw [List.getElem?_map, Option.map_eq_some_iff] at hj
  obtain ⟨c, h1, rfl⟩ := hj
  rw [List.getElem?_eq_some_iff] at h1
  obtain ⟨h2, h3⟩ := h1
  simp at h2 h3
  subst h3
  have : (⟨gg, m, none⟩ : Addr).add j = ⟨gg, m + j, none⟩ := by unfold Addr.add; split <;> simp_all
  rw [this, he _ (by omega), hc _ (by omega), hm]

end Go.Proofs.Ythelaffjpmcdbaa

/- A relief as a grid again; turned, mirrored, inverted, raised. -/
namespace Go.Proofs.Ythelaffjpmcdbaa
open Go.RowKit
set_option linter.unusedVariables false

theorem G.Eqv.refl (g : G) : G.Eqv g g := ⟨rfl, fun _ _ => ⟨rfl, fun _ _ => rfl⟩⟩

theorem OwM.congr {lo hi : Nat} {w : World} {v : Value} {g g' : G} (h : OwM lo hi w v g) (e : G.Eqv g g') : OwM lo hi w v g' := by
  obtain ⟨e1, e2⟩ := e
  rcases h with ⟨h, h0⟩ | ⟨b, Gb, h0, hn, h1, h2, h3, h4, h5⟩
  · exact Or.inl ⟨h, by omega⟩
  · refine Or.inr ⟨b, Gb, by rw [h0, e1], by omega, h1, h2, ?_, fun r hr => ?_, fun r s hr hs => h5 r s (by omega) (by omega)⟩
    · rw [← e1]; exact h3.congr (fun i hi => by rw [(e2 i hi).1])
    · obtain ⟨a1, a2, a3, a4, a5, a6⟩ := h4 r (by omega)
      obtain ⟨c1, c2⟩ := e2 r (by omega)
      exact ⟨a1, a2, a3, by omega, by rw [← c1]; exact a5.congr (fun i hi => by rw [c2 i hi]), fun c hc => by rw [← c2 c (by omega)]; exact a6 c (by omega)⟩

/-- a relief's heights can be read -/
structure Rv (w : World) (R C n gg cap : Nat) (Z : Nat → Int) : Prop where
  n_eq : n = R * C
  lt : gg < w.heap.size
  le : n ≤ cap
  cell : ∀ i, i < n → w.cell? ⟨gg, i, none⟩ = some (.int .i64 (Z i))

theorem Rv.keep {w w' : World} {R C n gg cap : Nat} {Z : Nat → Int} (h : Rv w R C n gg cap Z) {B : Nat} (hb : Below B w w') (hB : w.heap.size ≤ B) : Rv w' R C n gg cap Z :=
  ⟨h.n_eq, Nat.lt_of_lt_of_le h.lt hb.size, h.le, fun i hi => (hb.cell (p := ⟨gg, i, none⟩) (Nat.lt_of_lt_of_le h.lt hB)).trans (h.cell i hi)⟩

theorem Rv.of_own {w : World} {base R C n gg cap : Nat} {xs : List Value} {Z : Nat → Int} (h : w.ownsRow base 3 1 (.slice (some ⟨gg, 0, none⟩) n cap) n xs) (hn : n = R * C) (hv : ∀ i, i < n → xs[i]? = some (.int .i64 (Z i))) : Rv w R C n gg cap Z := by
  refine ⟨hn, (h.lt gg rfl).2, ?_, fun i hi => by rw [h.cellAt i (by omega)]; exact hv i hi⟩
  rcases h.2 with ⟨h', _⟩ | ⟨g, c, cur, hv', _, _, hle, _⟩
  · simp at h'
  · simp at hv'; omega

/-- what a function that answers a grid and true, or none and false, leaves -/
def GPost (b : Bool) (g : G) (w : World) (e : Ending) (w' : World) : Prop :=
  ∃ v, e = .returned (.tuple #[v, .bool b]) ∧ (∃ a l c, v = .slice a l c) ∧ OwM w.heap.size w'.heap.size w' v g ∧ Below w.heap.size w w'
def G0 : G := ⟨0, fun _ => 0, fun _ _ => 0⟩
theorem OwM.none (lo hi : Nat) (w : World) : OwM lo hi w (.slice none 0 0) G0 := Or.inl ⟨rfl, rfl⟩

theorem mul_le_49 {R C : Nat} (h1 : R ≤ 7) (h2 : C ≤ 7) : R * C ≤ 49 := Nat.mul_le_mul h1 h2

theorem OwM.mono {lo hi lo' hi' : Nat} {w : World} {v : Value} {g : G} (h : OwM lo hi w v g) (h1 : lo' ≤ lo) (h2 : hi ≤ hi') : OwM lo' hi' w v g := by
  rcases h with h | ⟨b, Gb, h0, hn, a1, a2, h3, h4, h5⟩
  · exact Or.inl h
  · refine Or.inr ⟨b, Gb, h0, hn, by omega, by omega, h3, fun r hr => ?_, h5⟩
    obtain ⟨c1, c2, c3⟩ := h4 r hr
    exact ⟨by omega, by omega, c3⟩

/-- what a method that makes a relief leaves -/
def MPost (R C : Nat) (Z : Nat → Int) (w : World) (e : Ending) (w' : World) : Prop :=
  ∃ n gg cap, e = .returned (.agg #[.int .i64 R, .int .i64 C, .slice (some ⟨gg, 0, none⟩) n cap]) ∧ Rv w' R C n gg cap Z ∧ Below w.heap.size w w'

theorem div_at (r c C : Nat) (hc : c < C) : (r * C + c) / C = r ∧ (r * C + c) % C = c := by
  have h0 : 0 < C := by omega
  constructor
  · rw [Nat.add_comm, Nat.add_mul_div_right _ _ h0, Nat.div_eq_of_lt hc]; omega
  · rw [Nat.add_comm, Nat.add_mul_mod_self_right, Nat.mod_eq_of_lt hc]

theorem cell_lt {r c R C n : Nat} (hn : n = R * C) (hr : r < R) (hc : c < C) : r * C + c < n := by
  have h1 : (r + 1) * C ≤ R * C := Nat.mul_le_mul_right C hr
  rw [Nat.add_mul] at h1
  omega


end Go.Proofs.Ythelaffjpmcdbaa

/- The program's GridTurn, GridMirror, GridInvert: what they answer. -/
namespace Go.Proofs.Ythelaffjpmcdbaa
open Go.RowKit
set_option linter.unusedVariables false

def turnG (g : G) : G := { n := g.len 0, len := fun _ => g.n, z := fun r c => g.z (g.n - 1 - c) r }
def mirrorG (g : G) : G := { n := g.n, len := fun _ => g.len 0, z := fun r c => g.z r (g.len 0 - 1 - c) }
def invertG (g : G) : G := { n := g.n, len := fun _ => g.len 0, z := fun r c => 99 - g.z r c }

theorem relOk_of {R C n : Nat} {Z : Nat → Int} (hn : n = R * C) (hR : 1 ≤ R ∧ R ≤ 7) (hC : 1 ≤ C ∧ C ≤ 7) (h : ∀ r, r < R → ∀ c, c < C → 0 ≤ Z (r * C + c) ∧ Z (r * C + c) ≤ 99) : RelOk R C n Z := by
  refine ⟨hR, hC, fun i hi => ?_⟩
  have h0 : 0 < C := by omega
  have e1 : i / C < R := by rw [Nat.div_lt_iff_lt_mul h0]; omega
  have := h _ e1 (i % C) (Nat.mod_lt _ h0)
  rwa [Nat.mul_comm, Nat.div_add_mod] at this

theorem valid_at {g : G} (h : g.Valid) {r c : Nat} (hr : r < g.n) (hc : c < g.len 0) : 0 ≤ g.z r c ∧ g.z r c ≤ 99 :=
  (h.2.2 r hr).2 c (by rw [(h.2.2 r hr).1]; exact hc)

theorem RelYes.rv {g : G} {w w' : World} {e : Ending} (h : RelYes g w e w') : ∃ n gg cap, e = .returned (.tuple #[.agg #[.int .i64 g.n, .int .i64 (g.len 0), .slice (some ⟨gg, 0, none⟩) n cap], .bool true]) ∧ Rv w' g.n (g.len 0) n gg cap g.flat ∧ Below w.heap.size w w' := by
  obtain ⟨n, gg, cap, xs, hn, he, ho, hv, hb⟩ := h
  exact ⟨n, gg, cap, he, Rv.of_own ho hn hv, hb⟩

theorem GPost.up {b : Bool} {g g' : G} {w w1 w' : World} {e : Ending} (h : GPost b g w1 e w') (hb : Below w.heap.size w w1) (hg : G.Eqv g g') : GPost b g' w e w' := by
  obtain ⟨v, h1, h2, h3, h4⟩ := h
  exact ⟨v, h1, h2, (h3.mono hb.size (Nat.le_refl _)).congr hg, hb.trans (h4.mono hb.size)⟩

theorem z_turned {g : G} {r c : Nat} (hr : r < g.len 0) (hc : c < g.n) : (fun i => g.flat ((g.n - 1 - i % g.n) * g.len 0 + i / g.n)) (r * g.n + c) = g.z (g.n - 1 - c) r := by
  have hd := div_at r c (g.n) hc
  simp only [hd.1, hd.2]; rw [g.flat_at _ _ hr]

theorem z_mirrored {g : G} {r c : Nat} (hr : r < g.n) (hc : c < g.len 0) : (fun i => g.flat (i / g.len 0 * g.len 0 + (g.len 0 - 1 - i % g.len 0))) (r * g.len 0 + c) = g.z r (g.len 0 - 1 - c) := by
  have hd := div_at r c (g.len 0) hc
  simp only [hd.1, hd.2]; rw [g.flat_at _ _ (by omega)]

theorem z_inverted {g : G} {r c : Nat} (hr : r < g.n) (hc : c < g.len 0) : (fun i => 99 - g.flat i) (r * g.len 0 + c) = 99 - g.z r c := by
  have hd := div_at r c (g.len 0) hc
  show (99 : Int) - g.flat (r * g.len 0 + c) = _; rw [g.flat_at _ _ hc]

end Go.Proofs.Ythelaffjpmcdbaa

/- Grids that a call builds by append, row by row: what holds of them, step by step. -/
namespace Go.Proofs.Ythelaffjpmcdbaa
open Go.RowKit
set_option linter.unusedVariables false

theorem ownsRow_low {w : World} {base base' : Nat} {e : TypeId} {size : Nat} {v : Value} {n : Nat} {xs : List Value} (h : w.ownsRow base e size v n xs) (hb : base' ≤ base) : w.ownsRow base' e size v n xs := by
  obtain ⟨h1, h2⟩ := h
  refine ⟨h1, ?_⟩
  rcases h2 with h2 | ⟨g, cap, cur, hv, hg, r⟩
  · exact Or.inl h2
  · exact Or.inr ⟨g, cap, cur, hv, Nat.le_trans hb hg, r⟩

theorem ownsRow_below {w w2 : World} {base : Nat} {e : TypeId} {size : Nat} {v : Value} {n : Nat} {xs : List Value} {B : Nat} (h : w.ownsRow base e size v n xs) (hb : Below B w w2) (hB : ∀ k, v.ownBlock = some k → k < B) : w2.ownsRow base e size v n xs := by
  obtain ⟨h1, h2⟩ := h
  refine ⟨h1, ?_⟩
  rcases h2 with h2 | ⟨g, cap, cur, hv, hg, hh, r⟩
  · exact Or.inl h2
  · exact Or.inr ⟨g, cap, cur, hv, hg, by rw [hb.block _ (hB g (by rw [hv]; rfl))]; exact hh, r⟩

/-- two owned rows of different element types lie in different blocks -/
theorem ownsRow_apart {w : World} {b1 b2 e1 e2 s1 s2 n1 n2 : Nat} {v1 v2 : Value} {x1 x2 : List Value} (h1 : w.ownsRow b1 e1 s1 v1 n1 x1) (h2 : w.ownsRow b2 e2 s2 v2 n2 x2) (hne : e1 ≠ e2) : v1.ownBlock = none ∨ v1.ownBlock ≠ v2.ownBlock := by
  rcases h1.2 with ⟨rfl, _⟩ | ⟨g, cap, cur, rfl, _, hh, _⟩
  · exact Or.inl rfl
  · right
    rcases h2.2 with ⟨rfl, _⟩ | ⟨g', cap', cur', rfl, _, hh', _⟩
    · simp [Value.ownBlock]
    · intro e
      simp only [Value.ownBlock, Option.some.injEq] at e
      subst e
      rw [hh] at hh'
      simp only [Option.some.injEq, Obj.cells.injEq] at hh'
      exact hne hh'.2.1

/-- a row of m numbers that the call is making, in a block from B on -/
def Rw (B : Nat) (wr : World) (v : Value) (m : Nat) (Z : Nat → Int) : Prop :=
  ∃ ys, wr.ownsRow B 3 1 v m ys ∧ ∀ i, i < m → ys[i]? = some (.int .i64 (Z i))

/-- k rows of g are made -/
structure Gr (w wr : World) (v : Value) (k B : Nat) (RV : Nat → Value) (g : G) : Prop where
  below : Below w.heap.size w wr
  lo : w.heap.size ≤ B
  hi : B ≤ wr.heap.size
  top : wr.ownsRow w.heap.size 26 1 v k ((List.range k).map RV)
  topB : ∀ b, v.ownBlock = some b → b < B
  rows : ∀ r, r < k → ∃ ys, wr.ownsRow w.heap.size 3 1 (RV r) (g.len r) ys ∧ (∀ b, (RV r).ownBlock = some b → b < B) ∧ ∀ c, c < g.len r → ys[c]? = some (.int .i64 (g.z r c))
  inj : ∀ r s, r < k → s < k → ∀ b, (RV r).ownBlock = some b → (RV s).ownBlock = some b → r = s

theorem Gr.keep {w wr w1 : World} {v : Value} {k B : Nat} {RV : Nat → Value} {g : G} (h : Gr w wr v k B RV g) (hb : Below B wr w1) : Gr w w1 v k B RV g := by
  obtain ⟨h1, h2, h3, h4, h5, h6, h7⟩ := h
  refine ⟨h1.trans (hb.mono h2), h2, Nat.le_trans h3 hb.size, ownsRow_below h4 hb h5, h5, fun r hr => ?_, h7⟩
  obtain ⟨ys, a1, a2, a3⟩ := h6 r hr
  exact ⟨ys, ownsRow_below a1 hb a2, a2, a3⟩

theorem Gr.raise {w wr : World} {v : Value} {k B B' : Nat} {RV : Nat → Value} {g : G} (h : Gr w wr v k B RV g) (h1 : B ≤ B') (h2 : B' ≤ wr.heap.size) : Gr w wr v k B' RV g := by
  obtain ⟨a1, a2, a3, a4, a5, a6, a7⟩ := h
  refine ⟨a1, by omega, h2, a4, fun b hb => by have := a5 b hb; omega, fun r hr => ?_, a7⟩
  obtain ⟨ys, c1, c2, c3⟩ := a6 r hr
  exact ⟨ys, c1, fun b hb => by have := c2 b hb; omega, c3⟩

theorem Rw.keep {B B' : Nat} {wr w1 : World} {v : Value} {m : Nat} {Z : Nat → Int} (h : Rw B wr v m Z) (hb : Below B' wr w1) (hB : wr.heap.size ≤ B') : Rw B w1 v m Z := by
  obtain ⟨ys, h1, h2⟩ := h
  exact ⟨ys, ownsRow_below h1 hb (fun k hk => by have := (h1.lt k hk).2; omega), h2⟩

theorem Rw.push {B : Nat} {w1 : World} {v' : Value} {m : Nat} {Z : Nat → Int} {ys : List Value} (hy : ys.length = m) (hv : ∀ i, i < m → ys[i]? = some (.int .i64 (Z i))) (hown : w1.ownsRow B 3 1 v' (m + 1) (ys ++ [.int .i64 (Z m)])) : Rw B w1 v' (m + 1) Z := by
  refine ⟨_, hown, fun i hi => ?_⟩
  by_cases e : i < m
  · rw [List.getElem?_append_left (by omega)]; exact hv i e
  · have : i = m := by omega
    subst this
    rw [List.getElem?_append_right (by omega), hy]; simp

theorem Gr.push {w wr w1 : World} {v v' rv : Value} {k B : Nat} {RV : Nat → Value} {g : G} {o : Obj} (h : Gr w wr v k B RV g) (hr : Rw B wr rv (g.len k) (g.z k)) (hown : w1.ownsRow w.heap.size 26 1 v' (k + 1) ((List.range k).map RV ++ [rv])) (hg : (wr.alloc o).grownBy w1 v.ownBlock) :
    Gr w w1 v' (k + 1) w1.heap.size (fun r => if r = k then rv else RV r) g := by
  obtain ⟨a1, a2, a3, a4, a5, a6, a7⟩ := h
  have hsz : wr.heap.size + 1 ≤ w1.heap.size := by have := hg.size; simp at this; omega
  have hlow : ∀ b, v.ownBlock = some b → w.heap.size ≤ b := fun b hb => (a4.lt b hb).1
  obtain ⟨yk, k1, k2⟩ := hr
  refine ⟨(a1.alloc (by omega) o).grown hg (by simp; omega) hlow, by omega, Nat.le_refl _, ?_, fun b hb => (hown.lt b hb).2, fun r hr' => ?_, fun r s hr' hs b e1 e2 => ?_⟩
  · have e : (List.range (k + 1)).map (fun r => if r = k then rv else RV r) = (List.range k).map RV ++ [rv] := by
      rw [List.range_succ, List.map_append]
      simp only [List.map_cons, List.map_nil, if_true]
      congr 1
      exact List.map_congr_left (fun r hr => by
        have := List.mem_range.1 hr
        rw [if_neg (by omega)])
    rw [e]; exact hown
  · by_cases e : r = k
    · subst e
      simp only [if_true]
      have hap := ownsRow_apart k1 a4 (by decide)
      have k3 := ((k1.alloc o).kept hg hap)
      exact ⟨yk, ownsRow_low k3 a2, fun b hb => (k3.lt b hb).2, k2⟩
    · obtain ⟨ys, c1, c2, c3⟩ := a6 r (by omega)
      simp only [e, if_false]
      have hap := ownsRow_apart c1 a4 (by decide)
      exact ⟨ys, (c1.alloc o).kept hg hap, fun b hb => by have := c2 b hb; omega, c3⟩
  · by_cases e3 : r = k
    · by_cases e4 : s = k
      · omega
      · simp only [e3, if_true] at e1
        simp only [e4, if_false] at e2
        have h5 := (k1.lt b e1).1
        obtain ⟨ys, c1, c2, c3⟩ := a6 s (by omega)
        have := c2 b e2
        omega
    · by_cases e4 : s = k
      · simp only [e4, if_true] at e2
        simp only [e3, if_false] at e1
        have h5 := (k1.lt b e2).1
        obtain ⟨ys, c1, c2, c3⟩ := a6 r (by omega)
        have := c2 b e1
        omega
      · simp only [e3, e4, if_false] at e1 e2
        exact a7 r s (by omega) (by omega) b e1 e2

theorem own_slice {w : World} {base e n : Nat} {v : Value} {xs : List Value} (h : w.ownsRow base e 1 v n xs) : ∃ b cap, n ≤ cap ∧ cap ≤ 9223372036854775807 ∧ ((v = .slice (some ⟨b, 0, none⟩) n cap ∧ v.ownBlock = some b ∧ base ≤ b ∧ b < w.heap.size ∧ ∀ i, i < n → w.cell? ⟨b, i, none⟩ = xs[i]? ∧ w.frozen? ⟨b, i, none⟩ = false) ∨ (v = .slice none n cap ∧ n = 0)) := by
  rcases h.2 with ⟨rfl, rfl⟩ | ⟨g, cap, cur, rfl, hb, hh, hn, hm, _⟩
  · exact ⟨0, 0, by omega, by omega, Or.inr ⟨rfl, rfl⟩⟩
  · refine ⟨g, cap, hn, by unfold maxLen at hm; omega, Or.inl ⟨rfl, rfl, hb, lt_of_block hh, fun i hi => ⟨h.cellAt i (by omega), h.frozenAt i⟩⟩⟩

theorem own_shape {w : World} {base e n : Nat} {v : Value} {xs : List Value} (h : w.ownsRow base e 1 v n xs) : ∃ (a : Option Addr) (c : Nat), v = .slice a n c := by
  obtain ⟨b, cap, _, _, h3⟩ := own_slice h
  rcases h3 with h3 | h3
  · exact ⟨_, _, h3.1⟩
  · exact ⟨_, _, h3.1⟩

theorem Rw.rdI {B : Nat} {w : World} {v : Value} {m : Nat} {Z : Nat → Int} (h : Rw B w v m Z) (hz : ∀ i, i < m → -9223372036854775808 ≤ Z i ∧ Z i ≤ 9223372036854775807) : RdI B w.heap.size w v m Z := by
  obtain ⟨ys, h1, h2⟩ := h
  obtain ⟨b, cap, hn, hm, h3⟩ := own_slice h1
  rcases h3 with ⟨hv, _, hb, hlt, hc⟩ | ⟨hv, h0⟩
  · exact ⟨_, cap, b, 0, hv, hn, hm, hz, fun _ => ⟨rfl, hb, hlt⟩, fun i hi => by rw [Nat.zero_add, (hc i hi).1]; exact h2 i hi⟩
  · exact ⟨_, cap, 0, 0, hv, hn, hm, hz, fun h => by omega, fun i hi => by omega⟩

theorem Gr.rdM {w wr : World} {v : Value} {B : Nat} {RV : Nat → Value} {g : G} (h : Gr w wr v g.n B RV g) (hz : ∀ r, r < g.n → ∀ c, c < g.len r → -9223372036854775808 ≤ g.z r c ∧ g.z r c ≤ 9223372036854775807) : RdM w.heap.size wr.heap.size wr v g := by
  obtain ⟨a1, a2, a3, a4, a5, a6, a7⟩ := h
  have hrow : ∀ r, r < g.n → ∃ y : Option Addr × Nat, RV r = .slice y.1 (g.len r) y.2 ∧ RdI w.heap.size wr.heap.size wr (RV r) (g.len r) (g.z r) := fun r hr => by
    obtain ⟨ys, c1, c2, c3⟩ := a6 r hr
    have hR : RdI w.heap.size wr.heap.size wr (RV r) (g.len r) (g.z r) := Rw.rdI ⟨ys, c1, c3⟩ (hz r hr)
    obtain ⟨ao, cap, _, _, e, _⟩ := id hR
    exact ⟨(ao, cap), e, hR⟩
  obtain ⟨y, hy⟩ := Go.Deep.choose_lt hrow
  obtain ⟨b, cap, hn, hm, h3⟩ := own_slice a4
  rcases h3 with ⟨hv, _, hb, hlt, hc⟩ | ⟨hv, h0⟩
  · refine ⟨_, cap, b, 0, fun r => (y r).1, fun r => (y r).2, hv, hn, hm, fun _ => ⟨rfl, hb, hlt⟩, fun r hr => ?_, fun r hr => by rw [← (hy r hr).1]; exact (hy r hr).2⟩
    rw [Nat.zero_add, (hc r hr).1, ← (hy r hr).1]
    simp [hr]
  · exact ⟨_, cap, 0, 0, fun _ => none, fun _ => 0, hv, hn, hm, fun h => by omega, fun r hr => by omega, fun r hr => by omega⟩

end Go.Proofs.Ythelaffjpmcdbaa

/- The model's functions that make a grid of a grid. -/
namespace Go.Proofs.Ythelaffjpmcdbaa
open Go.RowKit
set_option linter.unusedVariables false

/-- what a function of the model that answers a grid and a bool leaves -/
def SPost (b : Bool) (g : G) (w : World) (e : Ending) (w' : World) : Prop :=
  ∃ v, e = .returned (.tuple #[v, .bool b]) ∧ (∃ a l c, v = .slice a l c) ∧ RdM w.heap.size w'.heap.size w' v g ∧ Below w.heap.size w w'

theorem RdM.empty (lo hi : Nat) (w : World) (a : Option Addr) (c : Nat) (hc : c ≤ 9223372036854775807) : RdM lo hi w (.slice a 0 c) G0 :=
  ⟨a, c, 0, 0, fun _ => none, fun _ => 0, rfl, by simp [G0], hc, fun h => by simp [G0] at h, fun r hr => by simp [G0] at hr, fun r hr => by simp [G0] at hr⟩

theorem G.off_marked (g : G) (k : Int) : ∀ r, (g.mark k).off r = g.off r := by
  intro r
  induction r with
  | zero => rfl
  | succ r ih => simp only [G.off, ih]; rfl

theorem Gr.start (w : World) (RV : Nat → Value) (g : G) : Gr w (w.alloc (.cells #[] 26)) (.slice (some ⟨w.heap.size, 0, none⟩) 0 0) 0 (w.heap.size + 1) RV g := by
  refine ⟨(Below.refl _ _).alloc (Nat.le_refl _) _, by omega, by simp, ?_, fun b hb => by simp [Value.ownBlock] at hb; omega, fun r hr => by omega, fun r s hr => by omega⟩
  exact World.ownsRow_lit w #[] 0 (Nat.le_refl _) (Nat.zero_le _) (by simp)

theorem Rw.start (wr : World) (Z : Nat → Int) : Rw wr.heap.size (wr.alloc (.cells #[] 3)) (.slice (some ⟨wr.heap.size, 0, none⟩) 0 0) 0 Z :=
  ⟨[], World.ownsRow_lit wr #[] 0 (Nat.le_refl _) (Nat.zero_le _) (by simp), fun i hi => by omega⟩

theorem G.range_of {g : G} (h : g.Valid) : ∀ r, r < g.n → ∀ c, c < g.len r → -9223372036854775808 ≤ g.z r c ∧ g.z r c ≤ 9223372036854775807 := fun r hr c hc => by
  have := (h.2.2 r hr).2 c hc
  omega

theorem turn_valid {g : G} (h : g.Valid) : (turnG g).Valid :=
  ⟨h.2.1, h.1, fun r hr => ⟨rfl, fun c hc => valid_at h (by simp only [turnG] at hc; omega) hr⟩⟩
theorem mirror_valid {g : G} (h : g.Valid) : (mirrorG g).Valid :=
  ⟨h.1, h.2.1, fun r hr => ⟨rfl, fun c hc => valid_at h hr (by simp only [mirrorG] at hc; omega)⟩⟩
theorem invert_valid {g : G} (h : g.Valid) : (invertG g).Valid :=
  ⟨h.1, h.2.1, fun r hr => ⟨rfl, fun c hc => by have := valid_at h hr hc; simp only [invertG]; omega⟩⟩

end Go.Proofs.Ythelaffjpmcdbaa

/- The model's GridMirror. -/
namespace Go.Proofs.Ythelaffjpmcdbaa
open Go.RowKit
set_option linter.unusedVariables false

end Go.Proofs.Ythelaffjpmcdbaa

/- The model's copy of a grid, a store into it, and what is built on both. -/
namespace Go.Proofs.Ythelaffjpmcdbaa
open Go.RowKit
set_option linter.unusedVariables false

/-- what the copy leaves -/
def CpPost (g : G) (w : World) (e : Ending) (w' : World) : Prop := ∃ v B RV, e = .returned v ∧ Gr w w' v g.n B RV g

end Go.Proofs.Ythelaffjpmcdbaa

/- The model's GridAt and GridSet. -/
namespace Go.Proofs.Ythelaffjpmcdbaa
open Go.RowKit
set_option linter.unusedVariables false

/-- there is such a cell of a grid -/
def G.Cell (g : G) (r c : Int) : Prop := g.Valid ∧ (0 ≤ r ∧ r ≤ (g.n : Int) - 1) ∧ 0 ≤ c ∧ c ≤ (g.len 0 : Int) - 1
noncomputable def G.cB (g : G) (r c : Int) : Bool := @decide (g.Cell r c) (Classical.propDecidable _)
theorem G.cB_yes {g : G} {r c : Int} (h : g.Cell r c) : g.cB r c = true := by simp [G.cB, h]
theorem G.cB_no {g : G} {r c : Int} (h : ¬ g.Cell r c) : g.cB r c = false := by simp [G.cB, h]

noncomputable def G.atV (g : G) (r c : Int) : Int := if g.cB r c = true then g.z r.toNat c.toNat else -1
theorem G.atV_yes {g : G} {r c : Nat} (h : g.Cell r c) : g.atV r c = g.z r c := by simp [G.atV, G.cB_yes h]
theorem G.atV_no {g : G} {r c : Int} (h : ¬ g.Cell r c) : g.atV r c = -1 := by simp [G.atV, G.cB_no h]

/-- a cell of a grid, opened -/
theorem RdM.cellAt {lo hi : Nat} {w : World} {v : Value} {g : G} (h : RdM lo hi w v g) {r c : Nat} (hr : r < g.n) (hc : c < g.len r) :
    ∃ b off cap b1 off1 cp, v = .slice (some ⟨b, off, none⟩) g.n cap ∧ w.cell? ⟨b, off + r, none⟩ = some (.slice (some ⟨b1, off1, none⟩) (g.len r) cp) ∧ w.cell? ⟨b1, off1 + c, none⟩ = some (.int .i64 (g.z r c)) ∧ b < hi ∧ b1 < hi := by
  obtain ⟨ao, cap, b, off, Ao, Cp, rfl, a2, a3, a5, a6, a7⟩ := h
  obtain ⟨rfl, _, hb⟩ := a5 (by omega)
  obtain ⟨ao1, cap1, b1, off1, e1, i2, i3, i4, i5, i6⟩ := a7 r hr
  have i5' := i5 (by omega)
  have ea : Ao r = ao1 := by simp only [Value.slice.injEq] at e1; exact e1.1
  exact ⟨b, off, cap, b1, off1, Cp r, rfl, by rw [← i5'.1, ← ea]; exact a6 r hr, i6 c hc, hb, i5'.2.2⟩

/-- the grid with another number at a cell -/
def G.upd (g : G) (r c : Nat) (x : Int) : G := { n := g.n, len := g.len, z := fun i j => if i = r ∧ j = c then x else g.z i j }

theorem Gr.store {w wr : World} {v : Value} {n B : Nat} {RV : Nat → Value} {g : G} (h : Gr w wr v n B RV g) {r c bq cq : Nat} (hr : r < n) (hc : c < g.len r) (hRV : RV r = .slice (some ⟨bq, 0, none⟩) (g.len r) cq) (x : Int) :
    Gr w (wr.setCell ⟨bq, c, none⟩ (.int .i64 x)) v n B RV (g.upd r c x) := by
  obtain ⟨a1, a2, a3, a4, a5, a6, a7⟩ := h
  obtain ⟨yr, k1, k2, k3⟩ := a6 r hr
  have hob : (RV r).ownBlock = some bq := by rw [hRV]; rfl
  have hbw := (k1.lt bq hob)
  refine ⟨a1.setCell (by show w.heap.size ≤ bq; omega) _, a2, by simpa [World.setCell] using a3, ?_, a5, fun s hs => ?_, a7⟩
  · refine ownsRow_setCell_other a4 ?_ _
    have hap := ownsRow_apart a4 k1 (by decide)
    rcases hap with h1 | h1
    · rw [h1]; simp
    · rw [hob] at h1; exact h1
  · by_cases e : s = r
    · subst e
      rw [hRV] at k1 ⊢
      have hst := (k1.stored c (.int .i64 x)).1
      refine ⟨_, hst, fun b hb => k2 b (by rw [hRV]; exact hb), fun j hj => ?_⟩
      have hl : yr.length = g.len s := by have := k1.1; omega
      have hj' : j < g.len s := hj
      simp only [G.upd, true_and]
      by_cases ej : j = c
      · subst ej
        rw [if_pos rfl, List.getElem?_set_self (by omega)]
      · rw [if_neg ej, List.getElem?_set_ne (by omega)]
        exact k3 j hj'
    · obtain ⟨ys, c1, c2, c3⟩ := a6 s hs
      refine ⟨ys, ownsRow_setCell_other c1 ?_ _, c2, fun j hj => ?_⟩
      · intro e'
        exact e (a7 s r hs hr bq e' hob)
      · have : ¬ (s = r ∧ j = c) := fun h => e h.1
        simp only [G.upd, this, if_false]
        exact c3 j hj

/-- the row of a built grid, opened for a store -/
theorem Gr.cellAt {w wr : World} {v : Value} {n B : Nat} {RV : Nat → Value} {g : G} (h : Gr w wr v n B RV g) {r c : Nat} (hr : r < n) (hc : c < g.len r) :
    ∃ b cap bq cq, v = .slice (some ⟨b, 0, none⟩) n cap ∧ RV r = .slice (some ⟨bq, 0, none⟩) (g.len r) cq ∧ wr.cell? ⟨b, r, none⟩ = some (.slice (some ⟨bq, 0, none⟩) (g.len r) cq) ∧ wr.cell? ⟨bq, c, none⟩ = some (.int .i64 (g.z r c)) ∧ wr.frozen? ⟨bq, c, none⟩ = false := by
  obtain ⟨a1, a2, a3, a4, a5, a6, a7⟩ := h
  obtain ⟨yr, k1, k2, k3⟩ := a6 r hr
  obtain ⟨b, cap, _, _, h3⟩ := own_slice a4
  obtain ⟨bq, cq, _, _, h4⟩ := own_slice k1
  rcases h3 with ⟨hv, _, _, _, hcell⟩ | ⟨_, h0⟩
  · rcases h4 with ⟨hq, _, _, _, hcq⟩ | ⟨_, h0⟩
    · refine ⟨b, cap, bq, cq, hv, hq, ?_, ?_, (hcq c hc).2⟩
      · rw [(hcell r hr).1, ← hq]; simp [hr]
      · rw [(hcq c hc).1]; exact k3 c hc
    · omega
  · omega

theorem upd_range {g : G} (h : g.Valid) {r c : Nat} {x : Int} (hx : 0 ≤ x ∧ x ≤ 99) : (g.upd r c x).Valid := by
  refine ⟨h.1, h.2.1, fun i hi => ⟨(h.2.2 i hi).1, fun j hj => ?_⟩⟩
  simp only [G.upd]
  split
  · exact hx
  · exact (h.2.2 i hi).2 j hj

/-- what GridSet asks -/
def G.SetOk (g : G) (r c x : Int) : Prop := g.Cell r c ∧ 0 ≤ x ∧ x ≤ 99

end Go.Proofs.Ythelaffjpmcdbaa
