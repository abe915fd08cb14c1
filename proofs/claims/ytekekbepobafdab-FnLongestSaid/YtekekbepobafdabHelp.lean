/- The small functions of the exact laws: sizes, copies, comparisons. -/
import Derived.Test.YtekekbepobafdabBase
import Derived.Test.YtekekbepobafdabRows
namespace Go.Proofs.Ytekekbepobafdab
open Go.RowKit
set_option linter.unusedVariables false

def SzIPost (n : Nat) (l : Int) (w : World) (e : Ending) (w' : World) : Prop := ((l < n ∧ e = .returned (.int .i64 (-1))) ∨ (n ≤ l ∧ e = .returned (.int .i64 (l - n)))) ∧ w = w'

theorem Try.infoI : (Try.prog.info? 3).map (fun i => (i.zero, i.size, i.bytes)) = some (some (.int .i64 0), 1, 8) := by kernel_rfl
theorem Try.infoR : (Try.prog.info? 28).map (fun i => (i.zero, i.size, i.bytes)) = some (some (.slice none 0 0), 1, 24) := by kernel_rfl

/-- what the size of a grid leaves -/
def SzPost (g : G) (w : World) (e : Ending) (w' : World) : Prop :=
  (e = .returned (.int .i64 (-1)) ∨ ∃ l : Int, 0 ≤ l ∧ l ≤ 1048576 ∧ e = .returned (.int .i64 l) ∧ g.n ≤ 1048576 ∧ ∀ r, r < g.n → g.len r ≤ 1048576) ∧ w = w'

/-- the new grid of toIntSS: the outer row, then a block a row -/
def Made (N : Nat) (w : World) (g : G) (k : Nat) : Prop :=
  w.heap.size = N + 1 + k ∧ w.rowIs N 28 g.n (fun r => if r < k then .slice (some ⟨N + 1 + r, 0, none⟩) (g.len r) (g.len r) else .slice none 0 0) ∧
    ∀ r, r < k → w.rowIs (N + 1 + r) 3 (g.len r) (fun c => .int .i64 (g.z r c))

theorem Made.ow {N : Nat} {w : World} {g : G} (h : Made N w g g.n) (hn : g.n ≤ 1048576) (hl : ∀ r, r < g.n → g.len r ≤ 1048576) (hz : ∀ r, r < g.n → ∀ c, c < g.len r → -9223372036854775808 ≤ g.z r c ∧ g.z r c ≤ 9223372036854775807) :
    OwM N w.heap.size w (.slice (some ⟨N, 0, none⟩) g.n g.n) g := by
  obtain ⟨h1, h2, h3⟩ := h
  refine Or.inr ⟨N, fun r => N + 1 + r, rfl, by omega, Nat.le_refl _, by omega, h2.congr (fun i hi => by simp [hi]), fun r hr => ⟨?_, ?_, ?_, by have := hl r hr; omega, h3 r hr, hz r hr⟩, fun r s _ _ e => ?_⟩ <;> dsimp only at * <;> omega

theorem RdM.range {lo hi : Nat} {w : World} {v : Value} {g : G} (h : RdM lo hi w v g) : ∀ r, r < g.n → ∀ c, c < g.len r → -9223372036854775808 ≤ g.z r c ∧ g.z r c ≤ 9223372036854775807 := by
  obtain ⟨_, _, _, _, _, _, _, _, _, _, _, h7⟩ := h
  intro r hr c hc
  obtain ⟨_, _, _, _, _, _, _, h4, _⟩ := h7 r hr
  exact h4 c hc

theorem made_step {w wr w1 : World} {g : G} {k : Nat} (hk : k < g.n) (hm : Made w.heap.size wr g k) (hbel : Below w.heap.size w wr) (hsz : w1.heap.size = wr.heap.size + 1) (hrow : w1.rowIs wr.heap.size 3 (g.len k) (fun c => .int .i64 (g.z k c))) (hb1 : Below wr.heap.size wr w1) :
    Made w.heap.size (w1.setCell ⟨w.heap.size, k, none⟩ (.slice (some ⟨wr.heap.size, 0, none⟩) (g.len k) (g.len k))) g (k + 1) ∧ Below w.heap.size w (w1.setCell ⟨w.heap.size, k, none⟩ (.slice (some ⟨wr.heap.size, 0, none⟩) (g.len k) (g.len k))) ∧
      w1.cell? ⟨w.heap.size, k, none⟩ = some (.slice none 0 0) ∧ w1.frozen? ⟨w.heap.size, k, none⟩ = false := by
  obtain ⟨m1, m2, m3⟩ := hm
  have hN : w.heap.size < wr.heap.size := by omega
  have m2' := m2.of_block (hb1.block w.heap.size hN)
  refine ⟨⟨by simp [World.setCell]; omega, ?_, fun r hr => ?_⟩, ?_, ?_, ?_⟩
  · refine (m2'.set k _).congr (fun j hj => ?_)
    by_cases e : j = k
    · subst e; simp [m1]
    · by_cases e2 : j < k
      · simp [e, e2, Nat.lt_succ_of_lt e2]
      · have : ¬ j < k + 1 := by omega
        simp [e, e2, this]
  · refine World.rowIs.setOther ?_ (by show w.heap.size + 1 + r ≠ w.heap.size; omega) _
    by_cases e : r = k
    · subst e; rw [m1] at hrow; exact hrow
    · exact (m3 r (by omega)).of_block (hb1.block _ (by omega))
  · exact (hbel.trans (hb1.mono hbel.size)).setCell (Nat.le_refl _) _
  · simpa using m2'.cell hk
  · exact m2'.frozen k

/-- what toIntSS leaves -/
def ToPost (g : G) (w : World) (e : Ending) (w' : World) : Prop :=
  e = .returned (.slice (some ⟨w.heap.size, 0, none⟩) g.n g.n) ∧ OwM w.heap.size w'.heap.size w' (.slice (some ⟨w.heap.size, 0, none⟩) g.n g.n) g ∧ Below w.heap.size w w'

/-- what a comparison leaves -/
def EqPost (b : Bool) (w : World) (e : Ending) (w' : World) : Prop := e = .returned (.bool b) ∧ ∃ n, w' = w.drewN n

theorem _root_.Go.Calls.quiet_of' {P : Program} {f : FuncId} {args : Array Value} {w : World} {a n : Nat} {b : Bool}
    (h : Calls P f args (w.drewN (a + n)) (EqPost b (w.drewN (a + n)))) : Calls P f args (w.drewN (a + n)) fun e w'' => e = .returned (.bool b) ∧ ∃ m, w'' = w.drewN (a + m) :=
  h.mono fun _ _ ⟨he, m, hm⟩ => ⟨he, n + m, by rw [hm, World.drewN_drewN, Nat.add_assoc]⟩

/-- how many numbers lie ahead of row r -/
def G.off (g : G) : Nat → Nat
  | 0 => 0
  | r + 1 => g.off r + g.len r

theorem G.off_le (g : G) (hl : ∀ r, r < g.n → g.len r ≤ 1048576) : ∀ r, r ≤ g.n → g.off r ≤ r * 1048576 := by
  intro r
  induction r with
  | zero => intro _; simp [G.off]
  | succ r ih =>
    intro h
    have h1 := ih (by omega)
    have h2 := hl r (by omega)
    simp only [G.off]
    omega

theorem G.off_mono (g : G) : ∀ r s, r ≤ s → g.off r ≤ g.off s := by
  intro r s h
  induction h with
  | refl => exact Nat.le_refl _
  | step _ ih => exact Nat.le_trans ih (Nat.le_add_right _ _)

/-- the grid that has been marked from k on -/
def G.mark (g : G) (k : Int) : G := { n := g.n, len := g.len, z := fun r c => k + g.off r + c }

def MkIPost (b n : Nat) (k : Int) (w : World) (e : Ending) (w' : World) : Prop :=
  e = .returned (.int .i64 (k + n)) ∧ w'.rowIs b 3 n (fun i => .int .i64 (k + i)) ∧ Chg b (b + 1) w w' ∧ w'.heap.size = w.heap.size

def MkPost (lo hi : Nat) (v : Value) (g : G) (k : Int) (w : World) (e : Ending) (w' : World) : Prop :=
  e = .returned (.int .i64 (k + g.off g.n)) ∧ OwM lo hi w' v (g.mark k) ∧ Chg lo hi w w' ∧ w'.heap.size = w.heap.size

/-- the rows below r are marked -/
def MkRows (w : World) (g : G) (Gb : Nat → Nat) (k : Int) (r : Nat) : Prop :=
  ∀ s, s < g.n → w.rowIs (Gb s) 3 (g.len s) (fun c => .int .i64 (if s < r then k + g.off s + c else g.z s c))

theorem MkRows.step {w w1 : World} {g : G} {Gb : Nat → Nat} {k : Int} {r : Nat} (h : MkRows w g Gb k r) (hr : r < g.n) (hinj : ∀ r s, r < g.n → s < g.n → Gb r = Gb s → r = s) (hlt : ∀ s, s < g.n → Gb s < w.heap.size)
    (hrow : w1.rowIs (Gb r) 3 (g.len r) (fun i => .int .i64 (k + g.off r + i))) (hc : Chg (Gb r) (Gb r + 1) w w1) : MkRows w1 g Gb k (r + 1) := by
  intro s hs
  by_cases e : s = r
  · subst e
    exact hrow.congr (fun i _ => by simp)
  · have hne : Gb s ≠ Gb r := fun e' => e (hinj s r hs hr e')
    refine ((h s hs).of_block (hc.block _ (hlt s hs) (by omega))).congr (fun i _ => ?_)
    by_cases e2 : s < r
    · simp [e2, Nat.lt_succ_of_lt e2]
    · have : ¬ s < r + 1 := by omega
      simp [e2, this]

def HePost (q : Int) (w : World) (e : Ending) (w' : World) : Prop := e = .returned (.int .i64 q) ∧ w = w'

end Go.Proofs.Ytekekbepobafdab
