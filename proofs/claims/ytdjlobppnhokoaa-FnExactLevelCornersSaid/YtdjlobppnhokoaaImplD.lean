/- A relief's own methods: a cell, its place; the lists of a relief. -/
import Derived.Test.YtdjlobppnhokoaaLawV
import Derived.Laws.CopyOwn
namespace Go.Proofs.Ytdjlobppnhokoaa
open Go.RowKit
set_option linter.unusedVariables false

theorem ret_int {k : IntKind} {a b : Int} (h : a = b) : Ending.returned (.int k a) = .returned (.int k b) := by rw [h]

def IntPost (m : Int) (w : World) (e : Ending) (w' : World) : Prop := e = .returned (.int .i64 m) ∧ Below w.heap.size w w'

set_option maxHeartbeats 1000000 in
set_option maxRecDepth 20000 in
theorem index_any (R C n gg cap : Nat) (r c : Int) (m : Nat) (w : World) (hm : r * C + c = m) (h0 : 0 ≤ r * C) (h1 : r * C ≤ 1000) (h2 : m ≤ 1000) :
    Calls Try.prog 88 #[.agg #[.int .i64 R, .int .i64 C, .slice (some ⟨gg, 0, none⟩) n cap], .int .i64 r, .int .i64 c] w (IntPost m w) := by
  have hs0 : 0 ≤ r * C + c := by omega
  have hs1 : r * C + c ≤ 1000 := by omega
  have HM := Lib.hid hm
  clear hm
  go_enter Try.func88, Try.ntmps88
  go_wp2
  go_ret
  exact ⟨ret_int HM.out, (Below.refl _ _).alloc (Nat.le_refl _) _⟩

/-- the state of the loop that makes the lists: k rows are made -/
structure LInv (w wr : World) (R C n gg cap : Nat) (Z : Nat → Int) (k : Nat) (Gb : Nat → Nat) : Prop where
  below : Below w.heap.size w wr
  size : w.heap.size + 2 ≤ wr.heap.size
  box : wr.heap[w.heap.size]? = some (.cells #[.int .i64 R, .int .i64 C, .slice (some ⟨gg, 0, none⟩) n cap] 39 (0, 0))
  outer : wr.rowIs (w.heap.size + 1) 27 R (fun r => if r < k then .slice (some ⟨Gb r, 0, none⟩) C C else .slice none 0 0)
  rows : ∀ r, r < k → w.heap.size + 1 < Gb r ∧ Gb r < wr.heap.size ∧ wr.rowIs (Gb r) 3 C (fun c => .int .i64 (Z (r * C + c)))
  inj : ∀ r s, r < k → s < k → Gb r = Gb s → r = s

/-- behind the making of row k -/
structure LMid (w wr : World) (R C n gg cap : Nat) (Z : Nat → Int) (k : Nat) (Gb : Nat → Nat) (g : Nat) : Prop where
  below : Below w.heap.size w wr
  lt : w.heap.size + 1 < g ∧ g < wr.heap.size
  box : wr.heap[w.heap.size]? = some (.cells #[.int .i64 R, .int .i64 C, .slice (some ⟨gg, 0, none⟩) n cap] 39 (0, 0))
  outer : wr.rowIs (w.heap.size + 1) 27 R (fun r => if r = k then .slice (some ⟨g, 0, none⟩) C C else if r < k then .slice (some ⟨Gb r, 0, none⟩) C C else .slice none 0 0)
  rows : ∀ r, r < k → w.heap.size + 1 < Gb r ∧ Gb r < g ∧ wr.rowIs (Gb r) 3 C (fun c => .int .i64 (Z (r * C + c)))
  inj : ∀ r s, r < k → s < k → Gb r = Gb s → r = s
  row : wr.heap[g]? = some (.cells (List.replicate C (Value.int .i64 0)).toArray 3 (0, 0))

theorem madeCells_replicate (z : Value) (n : Nat) : madeCells #[z] n = (List.replicate n z).toArray := by
  apply Array.ext'
  rw [toList_madeCells_one]

theorem LInv.mid {w wr : World} {R C n gg cap : Nat} {Z : Nat → Int} {k : Nat} {Gb : Nat → Nat} (h : LInv w wr R C n gg cap Z k Gb) :
    LMid w ((wr.alloc (.cells (madeCells #[.int .i64 0] C) 3)).setCell ⟨w.heap.size + 1, k, none⟩ (.slice (some ⟨wr.heap.size, 0, none⟩) C C)) R C n gg cap Z k Gb wr.heap.size := by
  obtain ⟨h1, h2, h3, h4, h5, h6⟩ := h
  refine ⟨(h1.alloc (by omega) _).setCell (by show w.heap.size ≤ w.heap.size + 1; omega) _, ⟨by omega, by simp [World.setCell]⟩, ?_, ?_, fun r hr => ?_, h6, ?_⟩
  · rw [Below.heap_setCell _ _ _ _ (by show w.heap.size ≠ w.heap.size + 1; omega), Below.heap_alloc _ _ _ (by omega)]; exact h3
  · exact ((h4.alloc _).set k _).congr (fun j _ => rfl)
  · obtain ⟨a1, a2, a3⟩ := h5 r hr
    exact ⟨a1, a2, (a3.alloc _).setOther (by show Gb r ≠ w.heap.size + 1; omega) _⟩
  · rw [Below.heap_setCell _ _ _ _ (by show wr.heap.size ≠ w.heap.size + 1; omega), heap_alloc_new, madeCells_replicate]

theorem LMid.fill {w wr w3 w4 : World} {R C n gg cap : Nat} {Z : Nat → Int} {k : Nat} {Gb : Nat → Nat} {g : Nat} (h : LMid w wr R C n gg cap Z k Gb g) (hb : Below wr.heap.size wr w3) (hb4 : Below g w3 w4)
    (hrow : w4.heap[g]? = some (.cells (splice (List.replicate C (Value.int .i64 0)) 0 ((List.range C).map fun c => Value.int .i64 (Z (k * C + c)))).toArray 3 (0, 0))) :
    LInv w w4 R C n gg cap Z (k + 1) (fun r => if r = k then g else Gb r) := by
  obtain ⟨h1, ⟨h2, h2'⟩, h3, h4, h5, h6, h7⟩ := h
  have hs := hb.size
  have hs4 := hb4.size
  have old : ∀ b, b < g → w4.heap[b]? = wr.heap[b]? := fun b hbg => (hb4.block b hbg).trans (hb.block b (by omega))
  have hg4 : g < w4.heap.size := by omega
  refine ⟨(h1.trans (hb.mono (by omega))).trans (hb4.mono (by omega)), by omega, (old _ (by omega)).trans h3, ?_, fun r hr => ?_, fun r s hr hs' e => ?_⟩
  · refine (h4.of_block (old _ h2)).congr (fun j _ => ?_)
    by_cases e : j = k
    · subst e; simp
    · by_cases e2 : j < k
      · simp [e, e2, Nat.lt_succ_of_lt e2]
      · have : ¬ j < k + 1 := by omega
        simp [e, e2, this]
  · by_cases e : r = k
    · subst e
      simp only [if_true]
      refine ⟨h2, hg4, _, hrow, ?_, fun c hc => ?_⟩
      · simp [splice]
      · simp [splice, hc]
    · obtain ⟨a1, a2, a3⟩ := h5 r (by omega)
      simp only [e, if_false]
      exact ⟨a1, by omega, a3.of_block (old _ a2)⟩
  · by_cases e1 : r = k
    · by_cases e2 : s = k
      · omega
      · have := (h5 s (by omega)).2.1
        simp only [e1, e2, if_true, if_false] at e
        omega
    · by_cases e2 : s = k
      · have := (h5 r (by omega)).2.1
        simp only [e1, e2, if_true, if_false] at e
        omega
      · simp only [e1, e2, if_false] at e
        exact h6 r s (by omega) (by omega) e

/-- the grid of R rows of C numbers that lie flat -/
def gridOf (R C : Nat) (Z : Nat → Int) : G := { n := R, len := fun _ => C, z := fun r c => Z (r * C + c) }

def ListsPost (R C : Nat) (Z : Nat → Int) (w : World) (e : Ending) (w' : World) : Prop :=
  ∃ v, e = .returned v ∧ (∃ a l c, v = .slice a l c) ∧ OwM w.heap.size w'.heap.size w' v (gridOf R C Z) ∧ Below w.heap.size w w'

theorem LInv.done {w wr : World} {R C n gg cap : Nat} {Z : Nat → Int} {Gb : Nat → Nat} (h : LInv w wr R C n gg cap Z R Gb) (hR : R ≤ 7) (hC : C ≤ 7) (hZ : ∀ r, r < R → ∀ c, c < C → -9223372036854775808 ≤ Z (r * C + c) ∧ Z (r * C + c) ≤ 9223372036854775807) :
    ListsPost R C Z w (.returned (.slice (some ⟨w.heap.size + 1, 0, none⟩) R R)) wr := by
  obtain ⟨h1, h2, h3, h4, h5, h6⟩ := h
  refine ⟨_, rfl, ⟨_, _, _, rfl⟩, Or.inr ⟨w.heap.size + 1, Gb, rfl, by simp only [gridOf]; omega, by omega, by omega, h4.congr (fun i hi => by simp [hi, gridOf]), fun r hr => ?_, fun r s hr hs => h6 r s hr hs⟩, h1⟩
  obtain ⟨a1, a2, a3⟩ := h5 r hr
  exact ⟨by omega, a2, by omega, by simp only [gridOf]; omega, a3, fun c hc => hZ r hr c hc⟩

theorem Try.sizeI : (Try.prog.info? 3).map (·.size) = some 1 := by kernel_rfl

theorem keep4 {b : Nat} {w w2 : World} {x k y : Nat} {p q r s : Value} (h : Below b w w2) (hx : x < b) (hy : y < b) (h0 : w.cell? ⟨x, k, none⟩ = some p) (h1 : w.cell? ⟨y, 0, none⟩ = some q) (h2 : w.cell? ⟨y, 1, none⟩ = some r) (h3 : w.cell? ⟨y, 2, none⟩ = some s) :
    w2.cell? ⟨x, k, none⟩ = some p ∧ w2.cell? ⟨y, 0, none⟩ = some q ∧ w2.cell? ⟨y, 1, none⟩ = some r ∧ w2.cell? ⟨y, 2, none⟩ = some s :=
  ⟨(h.cell (p := ⟨x, k, none⟩) hx).trans h0, (h.cell (p := ⟨y, 0, none⟩) hy).trans h1, (h.cell (p := ⟨y, 1, none⟩) hy).trans h2, (h.cell (p := ⟨y, 2, none⟩) hy).trans h3⟩

theorem lists_src {w w3 : World} {gg n m k C : Nat} {Z : Nat → Int} (hm : m = k * C) (hmn : m + C ≤ n) (hc : ∀ i, i < n → w.cell? ⟨gg, i, none⟩ = some (.int .i64 (Z i))) (he : ∀ i, i < n → w3.cell? ⟨gg, i, none⟩ = w.cell? ⟨gg, i, none⟩) :
    ∀ j v, ((List.range C).map fun c => Value.int .i64 (Z (k * C + c)))[j]? = some v → w3.cell? ((⟨gg, m, none⟩ : Addr).add j) = some v := by
  intro j v hj
  rw [List.getElem?_map, Option.map_eq_some_iff] at hj
  obtain ⟨c, h1, rfl⟩ := hj
  rw [List.getElem?_eq_some_iff] at h1
  obtain ⟨h2, h3⟩ := h1
  simp at h2 h3
  subst h3
  have : (⟨gg, m, none⟩ : Addr).add j = ⟨gg, m + j, none⟩ := by unfold Addr.add; split <;> simp_all
  rw [this, he _ (by omega), hc _ (by omega), hm]

end Go.Proofs.Ytdjlobppnhokoaa
