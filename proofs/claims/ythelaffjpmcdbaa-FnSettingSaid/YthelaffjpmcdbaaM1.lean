/- Several texts of this family in one. -/
import Derived.WalkKit
import Derived.WalkSpells
import Derived.WalkLawsBesides
import Derived.Deep.OwnRows
import Derived.Deep.QuietTactic
import Derived.BigQuiet
import Derived.Lib.Hide
import Derived.Deep.LoopGhost
import Derived.Deep.DeepCutAuto
import Derived.Deep.RegionHeld3
import Derived.Test.YthelaffjpmcdbaaRows
import Derived.ProofKit
import Derived.OpenShut
import Derived.ChangeOld
import Derived.Deep.Matrix
import Derived.Deep.AppendLies
import Derived.Deep.RegionLaw

/- The words of this family: what it means that a value reads as a list of numbers or as a grid, and how such readings are carried over. No program is named here. -/
namespace Go.Proofs.Ythelaffjpmcdbaa
open Go.RowKit

/-- a grid: rows, their lengths, their numbers -/
structure G where
  n : Nat
  len : Nat → Nat
  z : Nat → Nat → Int

def G.Eqv (a b : G) : Prop := a.n = b.n ∧ ∀ r, r < a.n → a.len r = b.len r ∧ ∀ c, c < a.len r → a.z r c = b.z r c

/-- the value reads as n numbers, in blocks from lo on, below hi -/
def RdI (lo hi : Nat) (w : World) (v : Value) (n : Nat) (Z : Nat → Int) : Prop :=
  ∃ (ao : Option Addr) (cap b off : Nat), v = .slice ao n cap ∧ n ≤ cap ∧ cap ≤ 9223372036854775807 ∧ (∀ i, i < n → -9223372036854775808 ≤ Z i ∧ Z i ≤ 9223372036854775807) ∧
    (0 < n → ao = some ⟨b, off, none⟩ ∧ lo ≤ b ∧ b < hi) ∧ ∀ i, i < n → w.cell? ⟨b, off + i, none⟩ = some (.int .i64 (Z i))

def RdM (lo hi : Nat) (w : World) (v : Value) (g : G) : Prop :=
  ∃ (ao : Option Addr) (cap b off : Nat) (Ao : Nat → Option Addr) (Cp : Nat → Nat), v = .slice ao g.n cap ∧ g.n ≤ cap ∧ cap ≤ 9223372036854775807 ∧ (0 < g.n → ao = some ⟨b, off, none⟩ ∧ lo ≤ b ∧ b < hi) ∧
    (∀ r, r < g.n → w.cell? ⟨b, off + r, none⟩ = some (.slice (Ao r) (g.len r) (Cp r))) ∧ ∀ r, r < g.n → RdI lo hi w (.slice (Ao r) (g.len r) (Cp r)) (g.len r) (g.z r)

/-- the same blocks between lo and hi -/
def SameIn (lo hi : Nat) (w w' : World) : Prop := ∀ k, lo ≤ k → k < hi → w'.heap[k]? = w.heap[k]?

theorem RdI.same {lo hi : Nat} {w w' : World} {v : Value} {n : Nat} {Z : Nat → Int} (h : RdI lo hi w v n Z) (hs : SameIn lo hi w w') : RdI lo hi w' v n Z := by
  obtain ⟨ao, cap, b, off, h1, h2, h3, h4, h5, h6⟩ := h
  refine ⟨ao, cap, b, off, h1, h2, h3, h4, h5, fun i hi' => ?_⟩
  have h0 : 0 < n := by omega
  exact (World.cell?_of_block (a := ⟨b, off + i, none⟩) (hs b (h5 h0).2.1 (h5 h0).2.2)).trans (h6 i hi')

theorem RdI.mono {lo hi lo' hi' : Nat} {w : World} {v : Value} {n : Nat} {Z : Nat → Int} (h : RdI lo hi w v n Z) (h1 : lo' ≤ lo) (h2 : hi ≤ hi') : RdI lo' hi' w v n Z := by
  obtain ⟨ao, cap, b, off, a1, a2, a3, a4, a5, a6⟩ := h
  exact ⟨ao, cap, b, off, a1, a2, a3, a4, fun h0 => ⟨(a5 h0).1, Nat.le_trans h1 (a5 h0).2.1, Nat.lt_of_lt_of_le (a5 h0).2.2 h2⟩, a6⟩

theorem RdI.congr {lo hi : Nat} {w : World} {v : Value} {n : Nat} {Z Z' : Nat → Int} (h : RdI lo hi w v n Z) (e : ∀ i, i < n → Z i = Z' i) : RdI lo hi w v n Z' := by
  obtain ⟨ao, cap, b, off, a1, a2, a3, a4, a5, a6⟩ := h
  exact ⟨ao, cap, b, off, a1, a2, a3, fun i hi => by rw [← e i hi]; exact a4 i hi, a5, fun i hi => by rw [← e i hi]; exact a6 i hi⟩

theorem RdM.same {lo hi : Nat} {w w' : World} {v : Value} {g : G} (h : RdM lo hi w v g) (hs : SameIn lo hi w w') : RdM lo hi w' v g := by
  obtain ⟨ao, cap, b, off, Ao, Cp, h1, h2, h3, h5, h6, h7⟩ := h
  refine ⟨ao, cap, b, off, Ao, Cp, h1, h2, h3, h5, fun i hi' => ?_, fun r hr => (h7 r hr).same hs⟩
  have h0 : 0 < g.n := by omega
  exact (World.cell?_of_block (a := ⟨b, off + i, none⟩) (hs b (h5 h0).2.1 (h5 h0).2.2)).trans (h6 i hi')

theorem RdM.mono {lo hi lo' hi' : Nat} {w : World} {v : Value} {g : G} (h : RdM lo hi w v g) (h1 : lo' ≤ lo) (h2 : hi ≤ hi') : RdM lo' hi' w v g := by
  obtain ⟨ao, cap, b, off, Ao, Cp, a1, a2, a3, a5, a6, a7⟩ := h
  exact ⟨ao, cap, b, off, Ao, Cp, a1, a2, a3, fun h0 => ⟨(a5 h0).1, Nat.le_trans h1 (a5 h0).2.1, Nat.lt_of_lt_of_le (a5 h0).2.2 h2⟩, a6, fun r hr => (a7 r hr).mono h1 h2⟩

theorem RdM.congr {lo hi : Nat} {w : World} {v : Value} {g g' : G} (h : RdM lo hi w v g) (e : G.Eqv g g') : RdM lo hi w v g' := by
  obtain ⟨ao, cap, b, off, Ao, Cp, a1, a2, a3, a5, a6, a7⟩ := h
  obtain ⟨e1, e2⟩ := e
  refine ⟨ao, cap, b, off, Ao, Cp, by rw [← e1]; exact a1, by rw [← e1]; exact a2, a3, fun h0 => a5 (by omega), fun r hr => ?_, fun r hr => ?_⟩
  · rw [← (e2 r (by omega)).1]; exact a6 r (by omega)
  · rw [← (e2 r (by omega)).1]; exact (a7 r (by omega)).congr (e2 r (by omega)).2

theorem SameIn.refl (lo hi : Nat) (w : World) : SameIn lo hi w w := fun _ _ _ => rfl
theorem SameIn.trans {lo hi : Nat} {a b c : World} (h : SameIn lo hi a b) (k : SameIn lo hi b c) : SameIn lo hi a c := fun i h1 h2 => (k i h1 h2).trans (h i h1 h2)
theorem SameIn.below {lo hi B : Nat} {a b : World} (h : Below B a b) (hh : hi ≤ B) : SameIn lo hi a b := fun i _ h2 => h.block i (by omega)

theorem below_drewN {B : Nat} {a w : World} (h : Below B a w) (n : Nat) : Below B a (w.drewN n) := ⟨h.os, h.tape, h.output, h.size, h.block⟩

/-- the value is a grid whose rows are rows of their own, which can be written -/
def OwM (lo hi : Nat) (w : World) (v : Value) (g : G) : Prop :=
  (v = .slice none 0 0 ∧ g.n = 0) ∨ ∃ (b : Nat) (Gb : Nat → Nat), v = .slice (some ⟨b, 0, none⟩) g.n g.n ∧ g.n ≤ 9223372036854775807 ∧ lo ≤ b ∧ b < hi ∧ w.rowIs b 26 g.n (fun r => .slice (some ⟨Gb r, 0, none⟩) (g.len r) (g.len r)) ∧
    (∀ r, r < g.n → lo ≤ Gb r ∧ Gb r < hi ∧ Gb r ≠ b ∧ g.len r ≤ 9223372036854775807 ∧ w.rowIs (Gb r) 3 (g.len r) (fun c => .int .i64 (g.z r c)) ∧ ∀ c, c < g.len r → -9223372036854775808 ≤ g.z r c ∧ g.z r c ≤ 9223372036854775807) ∧
    ∀ r s, r < g.n → s < g.n → Gb r = Gb s → r = s

theorem OwM.rd {lo hi : Nat} {w : World} {v : Value} {g : G} (h : OwM lo hi w v g) : RdM lo hi w v g := by
  rcases h with ⟨rfl, h0⟩ | ⟨b, Gb, rfl, hn, h1, h2, h3, h4, _⟩
  · exact ⟨none, 0, 0, 0, fun _ => none, fun _ => 0, by rw [h0], by omega, by omega, fun h => by omega, fun r hr => by omega, fun r hr => by omega⟩
  · refine ⟨_, g.n, b, 0, fun r => some ⟨Gb r, 0, none⟩, g.len, rfl, Nat.le_refl _, hn, fun _ => ⟨rfl, h1, h2⟩, fun r hr => by simpa using h3.cell hr, fun r hr => ?_⟩
    obtain ⟨a1, a2, a3, a4, a5, a6⟩ := h4 r hr
    exact ⟨_, g.len r, Gb r, 0, rfl, Nat.le_refl _, a4, a6, fun _ => ⟨rfl, a1, a2⟩, fun c hc => by simpa using a5.cell hc⟩

theorem OwM.same {lo hi : Nat} {w w' : World} {v : Value} {g : G} (h : OwM lo hi w v g) (hs : SameIn lo hi w w') : OwM lo hi w' v g := by
  rcases h with h | ⟨b, Gb, h0, hn, h1, h2, h3, h4, h5⟩
  · exact Or.inl h
  · exact Or.inr ⟨b, Gb, h0, hn, h1, h2, h3.of_block (hs b h1 h2), fun r hr => by
      obtain ⟨a1, a2, a3, a4, a5, a6⟩ := h4 r hr
      exact ⟨a1, a2, a3, a4, a5.of_block (hs _ a1 a2), a6⟩, h5⟩

/-- what a call that writes only between lo and hi leaves -/
structure Chg (lo hi : Nat) (w w' : World) : Prop where
  os : w'.os = w.os
  tape : w'.tape = w.tape
  output : w'.output = w.output
  size : w.heap.size ≤ w'.heap.size
  block : ∀ k, k < w.heap.size → ¬ (lo ≤ k ∧ k < hi) → w'.heap[k]? = w.heap[k]?

theorem Chg.refl (lo hi : Nat) (w : World) : Chg lo hi w w := ⟨rfl, rfl, rfl, Nat.le_refl _, fun _ _ _ => rfl⟩
theorem Chg.trans {lo hi : Nat} {a b c : World} (h : Chg lo hi a b) (k : Chg lo hi b c) : Chg lo hi a c :=
  ⟨k.os.trans h.os, k.tape.trans h.tape, k.output.trans h.output, Nat.le_trans h.size k.size, fun i h1 h2 => (k.block i (Nat.lt_of_lt_of_le h1 h.size) h2).trans (h.block i h1 h2)⟩
theorem Chg.setCell {lo hi : Nat} {a w : World} (h : Chg lo hi a w) {p : Addr} (h1 : lo ≤ p.block) (h2 : p.block < hi) (u : Value) : Chg lo hi a (w.setCell p u) :=
  h.trans ⟨rfl, rfl, rfl, by simp [World.setCell], fun k _ hn => Below.heap_setCell _ _ _ _ (by intro e; subst e; exact hn ⟨h1, h2⟩)⟩
theorem Chg.below {lo hi B : Nat} {a b : World} (h : Chg lo hi a b) (hB : B ≤ lo) (hs : B ≤ a.heap.size) : Below B a b :=
  ⟨h.os, h.tape, h.output, h.size, fun k hk => h.block k (by omega) (by omega)⟩
theorem Chg.mono {lo hi lo' hi' : Nat} {a b : World} (h : Chg lo hi a b) (h1 : lo' ≤ lo) (h2 : hi ≤ hi') : Chg lo' hi' a b :=
  ⟨h.os, h.tape, h.output, h.size, fun k hk hn => h.block k hk (by omega)⟩
theorem Chg.sameIn {lo hi lo' hi' : Nat} {a b : World} (h : Chg lo hi a b) (hs : hi' ≤ a.heap.size) (hd : hi' ≤ lo ∨ hi ≤ lo') : SameIn lo' hi' a b :=
  fun k h1 h2 => h.block k (by omega) (by omega)

end Go.Proofs.Ythelaffjpmcdbaa

/- The arguments of a law, opened: a list of lists of numbers reads as a grid. -/
namespace Go.Proofs.Ythelaffjpmcdbaa
open Go.ChangeShapes Go.WideShapes Go.ChangeAt Go.RowKit Go.Deep
set_option linter.unusedVariables false

theorem own : ownKnob Try.prog.godebug = none := by kernel_rfl
theorem laidOut : laidOutB Try.prog = true := by kernel_rfl
theorem Try.cellsR : Try.prog.cellsOf 26 = 1 := by kernel_rfl
theorem Try.cellsI : Try.prog.cellsOf 3 = 1 := by kernel_rfl

theorem wf_range {n : Int} (h : (Lit.int .i64 n).wf = true) : -9223372036854775808 ≤ n ∧ n ≤ 9223372036854775807 := by
  simpa [Lit.wf, IntKind.min, IntKind.max, IntKind.signed, IntKind.bits] using h

theorem add_none {b off : Nat} (r : Nat) : (⟨b, off, none⟩ : Addr).add r = ⟨b, off + r, none⟩ := by
  unfold Addr.add; split <;> simp_all

end Go.Proofs.Ythelaffjpmcdbaa

/- The small functions of the exact laws: sizes, copies, comparisons. -/
namespace Go.Proofs.Ythelaffjpmcdbaa
open Go.RowKit
set_option linter.unusedVariables false

def SzIPost (n : Nat) (l : Int) (w : World) (e : Ending) (w' : World) : Prop := ((l < n ∧ e = .returned (.int .i64 (-1))) ∨ (n ≤ l ∧ e = .returned (.int .i64 (l - n)))) ∧ w = w'

theorem Try.infoI : (Try.prog.info? 3).map (fun i => (i.zero, i.size, i.bytes)) = some (some (.int .i64 0), 1, 8) := by kernel_rfl
theorem Try.infoR : (Try.prog.info? 26).map (fun i => (i.zero, i.size, i.bytes)) = some (some (.slice none 0 0), 1, 24) := by kernel_rfl

/-- what the size of a grid leaves -/
def SzPost (g : G) (w : World) (e : Ending) (w' : World) : Prop :=
  (e = .returned (.int .i64 (-1)) ∨ ∃ l : Int, 0 ≤ l ∧ l ≤ 1048576 ∧ e = .returned (.int .i64 l) ∧ g.n ≤ 1048576 ∧ ∀ r, r < g.n → g.len r ≤ 1048576) ∧ w = w'

/-- the new grid of toIntSS: the outer row, then a block a row -/
def Made (N : Nat) (w : World) (g : G) (k : Nat) : Prop :=
  w.heap.size = N + 1 + k ∧ w.rowIs N 26 g.n (fun r => if r < k then .slice (some ⟨N + 1 + r, 0, none⟩) (g.len r) (g.len r) else .slice none 0 0) ∧
    ∀ r, r < k → w.rowIs (N + 1 + r) 3 (g.len r) (fun c => .int .i64 (g.z r c))

theorem Made.ow {N : Nat} {w : World} {g : G} (h : Made N w g g.n) (hn : g.n ≤ 1048576) (hl : ∀ r, r < g.n → g.len r ≤ 1048576) (hz : ∀ r, r < g.n → ∀ c, c < g.len r → -9223372036854775808 ≤ g.z r c ∧ g.z r c ≤ 9223372036854775807) :
    OwM N w.heap.size w (.slice (some ⟨N, 0, none⟩) g.n g.n) g := by
  obtain ⟨h1, h2, h3⟩ := h
  refine Or.inr ⟨N, fun r => N + 1 + r, rfl, by omega, Nat.le_refl _, by omega, h2.congr (fun i hi => by simp [hi]), fun r hr => ⟨?_, ?_, ?_, by have := hl r hr; omega, h3 r hr, hz r hr⟩, fun r s _ _ e => ?_⟩ <;> dsimp only at * <;> omega

theorem RdM.range {lo hi : Nat} {w : World} {v : Value} {g : G} (h : RdM lo hi w v g) : ∀ r, r < g.n → ∀ c, c < g.len r → -9223372036854775808 ≤ g.z r c ∧ g.z r c ≤ 9223372036854775807 := by
  obtain ⟨_, _, _, _, _, _, _, _, _, _, _, h7⟩ := h
  intro r hr c hc
  obtain ⟨_, _, _, _, _, _, _, h4, _⟩ := h7 r hr
  exact h4 c hc

theorem made_step {w wr w1 : World} {g : G} {k : Nat} (hk : k < g.n) (hm : Made w.heap.size wr g k) (hbel : Below w.heap.size w wr) (hsz : w1.heap.size = wr.heap.size + 1) (hrow : w1.rowIs wr.heap.size 3 (g.len k) (fun c => .int .i64 (g.z k c))) (hb1 : Below wr.heap.size wr w1) :
    Made w.heap.size (w1.setCell ⟨w.heap.size, k, none⟩ (.slice (some ⟨wr.heap.size, 0, none⟩) (g.len k) (g.len k))) g (k + 1) ∧ Below w.heap.size w (w1.setCell ⟨w.heap.size, k, none⟩ (.slice (some ⟨wr.heap.size, 0, none⟩) (g.len k) (g.len k))) ∧
      w1.cell? ⟨w.heap.size, k, none⟩ = some (.slice none 0 0) ∧ w1.frozen? ⟨w.heap.size, k, none⟩ = false := by
  obtain ⟨m1, m2, m3⟩ := hm
  have hN : w.heap.size < wr.heap.size := by omega
  have m2' := m2.of_block (hb1.block w.heap.size hN)
  refine ⟨⟨by simp [World.setCell]; omega, ?_, fun r hr => ?_⟩, ?_, ?_, ?_⟩
  · refine (m2'.set k _).congr (fun j hj => ?_)
    by_cases e : j = k
    · subst e; simp [m1]
    · by_cases e2 : j < k
      · simp [e, e2, Nat.lt_succ_of_lt e2]
      · have : ¬ j < k + 1 := by omega
        simp [e, e2, this]
  · refine World.rowIs.setOther ?_ (by show w.heap.size + 1 + r ≠ w.heap.size; omega) _
    by_cases e : r = k
    · subst e; rw [m1] at hrow; exact hrow
    · exact (m3 r (by omega)).of_block (hb1.block _ (by omega))
  · exact (hbel.trans (hb1.mono hbel.size)).setCell (Nat.le_refl _) _
  · simpa using m2'.cell hk
  · exact m2'.frozen k

/-- what toIntSS leaves -/
def ToPost (g : G) (w : World) (e : Ending) (w' : World) : Prop :=
  e = .returned (.slice (some ⟨w.heap.size, 0, none⟩) g.n g.n) ∧ OwM w.heap.size w'.heap.size w' (.slice (some ⟨w.heap.size, 0, none⟩) g.n g.n) g ∧ Below w.heap.size w w'

/-- what a comparison leaves -/
def EqPost (b : Bool) (w : World) (e : Ending) (w' : World) : Prop := e = .returned (.bool b) ∧ ∃ n, w' = w.drewN n

theorem _root_.Go.Calls.quiet_of' {P : Program} {f : FuncId} {args : Array Value} {w : World} {a n : Nat} {b : Bool}
    (h : Calls P f args (w.drewN (a + n)) (EqPost b (w.drewN (a + n)))) : Calls P f args (w.drewN (a + n)) fun e w'' => e = .returned (.bool b) ∧ ∃ m, w'' = w.drewN (a + m) :=
  h.mono fun _ _ ⟨he, m, hm⟩ => ⟨he, n + m, by rw [hm, World.drewN_drewN, Nat.add_assoc]⟩

/-- how many numbers lie ahead of row r -/
def G.off (g : G) : Nat → Nat
  | 0 => 0
  | r + 1 => g.off r + g.len r

theorem G.off_le (g : G) (hl : ∀ r, r < g.n → g.len r ≤ 1048576) : ∀ r, r ≤ g.n → g.off r ≤ r * 1048576 := by
  intro r
  induction r with
  | zero => intro _; simp [G.off]
  | succ r ih =>
    intro h
    have h1 := ih (by omega)
    have h2 := hl r (by omega)
    simp only [G.off]
    omega

theorem G.off_mono (g : G) : ∀ r s, r ≤ s → g.off r ≤ g.off s := by
  intro r s h
  induction h with
  | refl => exact Nat.le_refl _
  | step _ ih => exact Nat.le_trans ih (Nat.le_add_right _ _)

/-- the grid that has been marked from k on -/
def G.mark (g : G) (k : Int) : G := { n := g.n, len := g.len, z := fun r c => k + g.off r + c }

def MkIPost (b n : Nat) (k : Int) (w : World) (e : Ending) (w' : World) : Prop :=
  e = .returned (.int .i64 (k + n)) ∧ w'.rowIs b 3 n (fun i => .int .i64 (k + i)) ∧ Chg b (b + 1) w w' ∧ w'.heap.size = w.heap.size

def MkPost (lo hi : Nat) (v : Value) (g : G) (k : Int) (w : World) (e : Ending) (w' : World) : Prop :=
  e = .returned (.int .i64 (k + g.off g.n)) ∧ OwM lo hi w' v (g.mark k) ∧ Chg lo hi w w' ∧ w'.heap.size = w.heap.size

/-- the rows below r are marked -/
def MkRows (w : World) (g : G) (Gb : Nat → Nat) (k : Int) (r : Nat) : Prop :=
  ∀ s, s < g.n → w.rowIs (Gb s) 3 (g.len s) (fun c => .int .i64 (if s < r then k + g.off s + c else g.z s c))

theorem MkRows.step {w w1 : World} {g : G} {Gb : Nat → Nat} {k : Int} {r : Nat} (h : MkRows w g Gb k r) (hr : r < g.n) (hinj : ∀ r s, r < g.n → s < g.n → Gb r = Gb s → r = s) (hlt : ∀ s, s < g.n → Gb s < w.heap.size)
    (hrow : w1.rowIs (Gb r) 3 (g.len r) (fun i => .int .i64 (k + g.off r + i))) (hc : Chg (Gb r) (Gb r + 1) w w1) : MkRows w1 g Gb k (r + 1) := by
  intro s hs
  by_cases e : s = r
  · subst e
    exact hrow.congr (fun i _ => by simp)
  · have hne : Gb s ≠ Gb r := fun e' => e (hinj s r hs hr e')
    refine ((h s hs).of_block (hc.block _ (hlt s hs) (by omega))).congr (fun i _ => ?_)
    by_cases e2 : s < r
    · simp [e2, Nat.lt_succ_of_lt e2]
    · have : ¬ s < r + 1 := by omega
      simp [e2, this]

def HePost (q : Int) (w : World) (e : Ending) (w' : World) : Prop := e = .returned (.int .i64 q) ∧ w = w'

end Go.Proofs.Ythelaffjpmcdbaa

/- The model's functions on grids: which lists are grids. -/
namespace Go.Proofs.Ythelaffjpmcdbaa
open Go.RowKit
set_option linter.unusedVariables false

def G.Valid (g : G) : Prop := (1 ≤ g.n ∧ g.n ≤ 7) ∧ (1 ≤ g.len 0 ∧ g.len 0 ≤ 7) ∧ ∀ r, r < g.n → g.len r = g.len 0 ∧ ∀ c, c < g.len r → 0 ≤ g.z r c ∧ g.z r c ≤ 99

noncomputable def G.vB (g : G) : Bool := @decide g.Valid (Classical.propDecidable _)

theorem G.vB_yes {g : G} (h : g.Valid) : g.vB = true := by simp [G.vB, h]
theorem G.vB_no {g : G} (h : ¬ g.Valid) : g.vB = false := by simp [G.vB, h]

theorem eq_post {b b' : Bool} (h : b' = b) (w : World) (n : Nat) : EqPost b' w (.returned (.bool b)) (w.drewN n) := ⟨by rw [h], n, rfl⟩
theorem eq_post0 {b b' : Bool} (h : b' = b) (w : World) : EqPost b' w (.returned (.bool b)) w := ⟨by rw [h], 0, rfl⟩

theorem eq_post2 {b b' : Bool} (h : b' = b) (w : World) (m n : Nat) : EqPost b' w (.returned (.bool b)) ((w.drewN m).drewN n) := ⟨by rw [h], m + n, World.drewN_drewN ..⟩

theorem l6In_yes (x a b : Int) (w : World) (h1 : a ≤ x) (h2 : x ≤ b) : Calls Try.prog 50 #[.int .i64 x, .int .i64 a, .int .i64 b] w fun e w' => e = .returned (.bool true) ∧ w = w' := by
  go_enter Try.func50, Try.ntmps50
  go_wp2
  go_ret
  exact ⟨rfl, rfl⟩

theorem l6In_no (x a b : Int) (w : World) (h : x < a ∨ b < x) : Calls Try.prog 50 #[.int .i64 x, .int .i64 a, .int .i64 b] w fun e w' => e = .returned (.bool false) ∧ w = w' := by
  by_cases h1 : x < a
  · go_enter Try.func50, Try.ntmps50
    go_wp2
    go_ret
    exact ⟨rfl, rfl⟩
  · have h2 : b < x := by omega
    clear h
    have h3 : decide (x ≤ b) = false := by simp; omega
    go_enter Try.func50, Try.ntmps50
    go_wp2
    go_ret
    exact ⟨rfl, rfl⟩

/-- the row is all right as far as column k -/
def G.RowTo (g : G) (r k : Nat) : Prop := ∀ c, c < k → 0 ≤ g.z r c ∧ g.z r c ≤ 99

end Go.Proofs.Ythelaffjpmcdbaa

/- The program's own small functions on grids; how a relief is made of a function. -/
namespace Go.Proofs.Ythelaffjpmcdbaa
open Go.RowKit
set_option linter.unusedVariables false

theorem three_set (w : World) (b : Nat) (x y z x' y' z' : Value) {t : TypeId} (h : w.heap[b]? = some (.cells #[x, y, z] t (0, 0))) :
    (((w.setCell ⟨b, 0, none⟩ x').setCell ⟨b, 1, none⟩ y').setCell ⟨b, 2, none⟩ z').heap[b]? = some (.cells #[x', y', z'] t (0, 0)) := by
  have h1 := heap_setCell_same w b 0 #[x, y, z] t x' h
  have h2 := heap_setCell_same _ b 1 _ t y' h1
  have h3 := heap_setCell_same _ b 2 _ t z' h2
  rw [h3]
  simp

theorem ownsRow_base {w : World} {base base' : Nat} {e : TypeId} {size : Nat} {v : Value} {n : Nat} {xs : List Value} (h : w.ownsRow base e size v n xs) (hb : base' ≤ base) : w.ownsRow base' e size v n xs := by
  obtain ⟨h1, h2⟩ := h
  refine ⟨h1, ?_⟩
  rcases h2 with h2 | ⟨g, cap, cur, hv, hg, r⟩
  · exact Or.inl h2
  · exact Or.inr ⟨g, cap, cur, hv, Nat.le_trans hb hg, r⟩

def FlatPost (w : World) (R C : Nat) (Z : Nat → Int) (e : Ending) (w' : World) : Prop :=
  ∃ n gg cap xs, n = R * C ∧ e = .returned (.agg #[.int .i64 R, .int .i64 C, .slice (some ⟨gg, 0, none⟩) n cap]) ∧ w'.ownsRow w.heap.size 3 1 (.slice (some ⟨gg, 0, none⟩) n cap) n xs ∧
    (∀ i, i < n → xs[i]? = some (.int .i64 (Z i))) ∧ Below w.heap.size w w'

theorem _root_.Go.RowKit.Below.undrew {w w2 : World} (h : Below w.drew.heap.size w.drew w2) : Below w.heap.size w w2 := ⟨h.os, h.tape, h.output, h.size, h.block⟩

theorem _root_.Go.World.ownsRow.of_below {w w2 : World} {base : Nat} {e : TypeId} {size : Nat} {v : Value} {n : Nat} {xs : List Value} {B : Nat} (h : w.ownsRow base e size v n xs) (hb : Below B w w2) (hB : ∀ k, v.ownBlock = some k → k < B) : w2.ownsRow base e size v n xs := by
  obtain ⟨h1, h2⟩ := h
  refine ⟨h1, ?_⟩
  rcases h2 with h2 | ⟨g, cap, cur, hv, hg, hh, r⟩
  · exact Or.inl h2
  · exact Or.inr ⟨g, cap, cur, hv, hg, by rw [hb.block _ (hB g (by rw [hv]; rfl))]; exact hh, r⟩

end Go.Proofs.Ythelaffjpmcdbaa

/- Which lists the program takes for grids. -/
namespace Go.Proofs.Ythelaffjpmcdbaa
open Go.RowKit
set_option linter.unusedVariables false

def G.Shape (g : G) : Prop := (1 ≤ g.n ∧ g.n ≤ 7) ∧ (1 ≤ g.len 0 ∧ g.len 0 ≤ 7) ∧ ∀ r, r < g.n → g.len r = g.len 0
noncomputable def G.shB (g : G) : Bool := @decide g.Shape (Classical.propDecidable _)
theorem G.shB_yes {g : G} (h : g.Shape) : g.shB = true := by simp [G.shB, h]
theorem G.shB_no {g : G} (h : ¬ g.Shape) : g.shB = false := by simp [G.shB, h]

def SmPost (b : Bool) (w : World) (e : Ending) (w' : World) : Prop := e = .returned (.bool b) ∧ w = w'
theorem sm_post {b b' : Bool} (h : b' = b) (w : World) : SmPost b' w (.returned (.bool b)) w := ⟨by rw [h], rfl⟩

def RelOk (R C n : Nat) (Z : Nat → Int) : Prop := (1 ≤ R ∧ R ≤ 7) ∧ (1 ≤ C ∧ C ≤ 7) ∧ ∀ i, i < n → 0 ≤ Z i ∧ Z i ≤ 99
noncomputable def relB (R C n : Nat) (Z : Nat → Int) : Bool := @decide (RelOk R C n Z) (Classical.propDecidable _)
theorem relB_yes {R C n : Nat} {Z : Nat → Int} (h : RelOk R C n Z) : relB R C n Z = true := by simp [relB, h]
theorem relB_no {R C n : Nat} {Z : Nat → Int} (h : ¬ RelOk R C n Z) : relB R C n Z = false := by simp [relB, h]

def BlPost (b : Bool) (w : World) (e : Ending) (w' : World) : Prop := e = .returned (.bool b) ∧ Below w.heap.size w w'
theorem bl_post {b b' : Bool} (h : b' = b) {w w' : World} (hb : Below w.heap.size w w') : BlPost b' w (.returned (.bool b)) w' := ⟨by rw [h], hb⟩

/-- a relief as a value: so many rows and columns, and n heights in block gg -/
def relVal (R C n gg cap : Nat) : Value := .agg #[.int .i64 R, .int .i64 C, .slice (some ⟨gg, 0, none⟩) n cap]

end Go.Proofs.Ythelaffjpmcdbaa

/- How the program reads lists as a relief. -/
namespace Go.Proofs.Ythelaffjpmcdbaa
open Go.RowKit
set_option linter.unusedVariables false

/-- the flat numbers of a grid with rows of L -/
def G.flat (g : G) (i : Nat) : Int := g.z (i / g.len 0) (i % g.len 0)

theorem G.flat_at (g : G) (r c : Nat) (hc : c < g.len 0) : g.flat (r * g.len 0 + c) = g.z r c := by
  have h0 : 0 < g.len 0 := by omega
  have e1 : (r * g.len 0 + c) / g.len 0 = r := by
    rw [Nat.add_comm, Nat.add_mul_div_right _ _ h0, Nat.div_eq_of_lt hc]; omega
  have e2 : (r * g.len 0 + c) % g.len 0 = c := by
    rw [Nat.add_comm, Nat.add_mul_mod_self_right, Nat.mod_eq_of_lt hc]
  simp only [G.flat, e1, e2]

/-- what reliefOf answers for a grid -/
def RelYes (g : G) (w : World) (e : Ending) (w' : World) : Prop :=
  ∃ n gg cap xs, n = g.n * g.len 0 ∧ e = .returned (.tuple #[.agg #[.int .i64 g.n, .int .i64 (g.len 0), .slice (some ⟨gg, 0, none⟩) n cap], .bool true]) ∧ w'.ownsRow w.heap.size 3 1 (.slice (some ⟨gg, 0, none⟩) n cap) n xs ∧
    (∀ i, i < n → xs[i]? = some (.int .i64 (g.flat i))) ∧ Below w.heap.size w w'
def RelNo (w : World) (e : Ending) (w' : World) : Prop :=
  e = .returned (.tuple #[.agg #[.int .i64 0, .int .i64 0, .slice none 0 0], .bool false]) ∧ Below w.heap.size w w'

theorem results_cell_row_tmp {fn : Func} {P : Program} {p u : Tmp} {ty : TypeId} (h : fn.results = #[.cell p ty, .tmp u]) (tmps : Array Value) (w : World) (g : Nat) (t : TypeId) (cs : Array Value) (fr : Nat × Nat) (d : TypeDesc)
    (hp : tmps.getD p undef = .pointer (some ⟨g, 0, none⟩)) (hg : w.heap[g]? = some (.cells cs t fr))
    (hu : P.underlying ty = some d) (hd : (match d with | .struct _ | .array _ _ => true | _ => false) = true) (hi : (P.info? ty).map (·.size) = some cs.size) (v : Value) (hv : tmps.getD u undef = v) :
    (results fn tmps).run P w = .ok (.tuple #[.agg cs, v]) w := by
  rw [results_cell_tmp h, hp, hv]
  simp [asAddr, run_loadVar_row w g t ty cs fr d hg hu hd hi, Result.andThen]

theorem G.not_valid_shape {g : G} (h : ¬ g.Shape) : ¬ g.Valid := fun hv => h ⟨hv.1, hv.2.1, fun r hr => (hv.2.2 r hr).1⟩

theorem heap_size_alloc2 (w : World) (a b : Obj) : ((w.alloc a).alloc b).heap.size = w.heap.size + 2 := by simp

theorem heap_size_alloc3 (w : World) (a b c : Obj) : (((w.alloc a).alloc b).alloc c).heap.size = w.heap.size + 3 := by simp
theorem heap_alloc3_new (w : World) (a b c : Obj) : (((w.alloc a).alloc b).alloc c).heap[w.heap.size + 1 + 1]? = some c := by
  have := heap_alloc_new ((w.alloc a).alloc b) c
  simpa using this
theorem cells3 {w : World} {b : Nat} {x y z : Value} {t : TypeId} (h : w.heap[b]? = some (.cells #[x, y, z] t (0, 0))) :
    w.cell? ⟨b, 0, none⟩ = some x ∧ w.cell? ⟨b, 1, none⟩ = some y ∧ w.cell? ⟨b, 2, none⟩ = some z ∧ w.frozen? ⟨b, 0, none⟩ = false ∧ w.frozen? ⟨b, 1, none⟩ = false ∧ w.frozen? ⟨b, 2, none⟩ = false := by
  simp [World.cell?, World.frozen?, h]

theorem cell3_far {w : World} {x y o : Nat} (a b c : Value) (i j k : Nat) (h : y ≠ x) : (((w.setCell ⟨x, i, none⟩ a).setCell ⟨x, j, none⟩ b).setCell ⟨x, k, none⟩ c).cell? ⟨y, o, none⟩ = w.cell? ⟨y, o, none⟩ := by
  rw [World.cell?_of_block (a := ⟨y, o, none⟩) (Below.heap_setCell _ ⟨x, k, none⟩ c y h), World.cell?_of_block (a := ⟨y, o, none⟩) (Below.heap_setCell _ ⟨x, j, none⟩ b y h), World.cell?_of_block (a := ⟨y, o, none⟩) (Below.heap_setCell _ ⟨x, i, none⟩ a y h)]

theorem below_cast {B : Nat} {w w2 : World} (h : Below w.drew.heap.size w.drew w2) (e : w.heap.size = B) : Below B w w2 := by
  subst e; exact ⟨h.os, h.tape, h.output, h.size, h.block⟩

theorem rel_ok {g : G} (h : g.Valid) {n : Nat} (hn : n = g.n * g.len 0) : RelOk g.n (g.len 0) n g.flat := by
  obtain ⟨h1, h2, h3⟩ := h
  refine ⟨h1, h2, fun i hi => ?_⟩
  have h0 : 0 < g.len 0 := by omega
  have e1 : i / g.len 0 < g.n := by rw [Nat.div_lt_iff_lt_mul h0]; omega
  have := (h3 _ e1).2 (i % g.len 0) (by rw [(h3 _ e1).1]; exact Nat.mod_lt _ h0)
  exact this

theorem rel_no {g : G} (hs : g.Shape) (h : ¬ g.Valid) {n : Nat} (hn : n = g.n * g.len 0) : ¬ RelOk g.n (g.len 0) n g.flat := by
  intro hr
  apply h
  obtain ⟨h1, h2, h3⟩ := hs
  refine ⟨h1, h2, fun r hr' => ⟨h3 r hr', fun c hc => ?_⟩⟩
  rw [h3 r hr'] at hc
  have := hr.2.2 (r * g.len 0 + c) (by
    have e : (r + 1) * g.len 0 ≤ g.n * g.len 0 := Nat.mul_le_mul_right _ hr'
    rw [Nat.add_mul] at e
    omega)
  rwa [g.flat_at r c hc] at this

theorem own3 {w : World} {base : Nat} {e : TypeId} {size gg n cap m : Nat} {xs : List Value} (h : w.ownsRow base e size (.slice (some ⟨gg, 0, none⟩) n cap) m xs) {x : Nat} (hx : gg ≠ x) (a b c : Value) :
    (((w.setCell ⟨x, 0, none⟩ a).setCell ⟨x, 1, none⟩ b).setCell ⟨x, 2, none⟩ c).ownsRow base e size (.slice (some ⟨gg, 0, none⟩) n cap) m xs := by
  have hne : Value.ownBlock (.slice (some ⟨gg, 0, none⟩) n cap) ≠ some x := by simp [Value.ownBlock]; omega
  exact ownsRow_setCell_other (ownsRow_setCell_other (ownsRow_setCell_other h (a := ⟨x, 0, none⟩) hne a) (a := ⟨x, 1, none⟩) hne b) (a := ⟨x, 2, none⟩) hne c

theorem below3 {B : Nat} {a w : World} (h : Below B a w) {x : Nat} (hx : B ≤ x) (p q r : Value) : Below B a (((w.setCell ⟨x, 0, none⟩ p).setCell ⟨x, 1, none⟩ q).setCell ⟨x, 2, none⟩ r) :=
  ((h.setCell (p := ⟨x, 0, none⟩) hx p).setCell (p := ⟨x, 1, none⟩) hx q).setCell (p := ⟨x, 2, none⟩) hx r

end Go.Proofs.Ythelaffjpmcdbaa

/- The exact law of GridValid: its walk. -/
namespace Go.Proofs.Ythelaffjpmcdbaa
open Go.RowKit
set_option linter.unusedVariables false

/-- what a law leaves: true, and all that was there -/
def LawPost (w : World) (e : Ending) (w' : World) : Prop := e = .returned (.bool true) ∧ Below w.heap.size w w'

theorem EqPost.below {b : Bool} {w w' : World} {e : Ending} (h : EqPost b w e w') : e = .returned (.bool b) ∧ Below w.heap.size w w' := by
  obtain ⟨h1, n, rfl⟩ := h
  exact ⟨h1, below_drewN (Below.refl _ _) n⟩

theorem RdM.keep {lo hi : Nat} {w w' : World} {v : Value} {g : G} (h : RdM lo hi w v g) (hb : Below hi w w') : RdM lo hi w' v g := h.same (SameIn.below hb (Nat.le_refl _))
theorem OwM.keep {lo hi : Nat} {w w' : World} {v : Value} {g : G} (h : OwM lo hi w v g) (hb : Below hi w w') : OwM lo hi w' v g := h.same (SameIn.below hb (Nat.le_refl _))

end Go.Proofs.Ythelaffjpmcdbaa

/- Owned lists of numbers: marked, held, answered. -/
namespace Go.Proofs.Ythelaffjpmcdbaa
open Go.RowKit
set_option linter.unusedVariables false

/-- a list of numbers in a block of its own -/
def OwI (lo hi : Nat) (w : World) (v : Value) (n : Nat) (Z : Nat → Int) : Prop :=
  (v = .slice none 0 0 ∧ n = 0) ∨ ∃ (b N cap : Nat) (F : Nat → Value), v = .slice (some ⟨b, 0, none⟩) n cap ∧ lo ≤ b ∧ b < hi ∧ w.rowIs b 3 N F ∧ n ≤ N ∧ n ≤ cap ∧ cap ≤ 9223372036854775807 ∧ (∀ i, i < n → F i = .int .i64 (Z i)) ∧
    ∀ i, i < n → -9223372036854775808 ≤ Z i ∧ Z i ≤ 9223372036854775807

theorem OwI.rd {lo hi : Nat} {w : World} {v : Value} {n : Nat} {Z : Nat → Int} (h : OwI lo hi w v n Z) : RdI lo hi w v n Z := by
  rcases h with ⟨rfl, rfl⟩ | ⟨b, N, cap, F, rfl, h1, h2, h3, h4, h5, h6, h7, h8⟩
  · exact ⟨none, 0, 0, 0, rfl, by omega, by omega, fun i hi => by omega, fun h => by omega, fun i hi => by omega⟩
  · exact ⟨_, cap, b, 0, rfl, h5, h6, h8, fun _ => ⟨rfl, h1, h2⟩, fun i hi => by rw [Nat.zero_add, h3.cell (by omega), h7 i hi]⟩

theorem OwI.same {lo hi : Nat} {w w' : World} {v : Value} {n : Nat} {Z : Nat → Int} (h : OwI lo hi w v n Z) (hs : SameIn lo hi w w') : OwI lo hi w' v n Z := by
  rcases h with h | ⟨b, N, cap, F, h0, h1, h2, h3, h4⟩
  · exact Or.inl h
  · exact Or.inr ⟨b, N, cap, F, h0, h1, h2, h3.of_block (hs b h1 h2), h4⟩

theorem OwI.none (lo hi : Nat) (w : World) (Z : Nat → Int) : OwI lo hi w (.slice none 0 0) 0 Z := Or.inl ⟨rfl, rfl⟩

def MkLPost (lo hi : Nat) (v : Value) (n : Nat) (k : Int) (w : World) (e : Ending) (w' : World) : Prop :=
  e = .returned (.int .i64 (k + n)) ∧ OwI lo hi w' v n (fun i => k + i) ∧ Chg lo hi w w' ∧ w'.heap.size = w.heap.size

/-- a list and a bool to read, and one of its own -/
def LsPost (b : Bool) (n : Nat) (Z : Nat → Int) (w : World) (e : Ending) (w' : World) : Prop :=
  ∃ v, e = .returned (.tuple #[v, .bool b]) ∧ (∃ a l c, v = .slice a l c) ∧ RdI w.heap.size w'.heap.size w' v n Z ∧ Below w.heap.size w w'
def LgPost (b : Bool) (n : Nat) (Z : Nat → Int) (w : World) (e : Ending) (w' : World) : Prop :=
  ∃ v, e = .returned (.tuple #[v, .bool b]) ∧ (∃ a l c, v = .slice a l c) ∧ OwI w.heap.size w'.heap.size w' v n Z ∧ Below w.heap.size w w'
/-- the same without a bool -/
def LsPost1 (n : Nat) (Z : Nat → Int) (w : World) (e : Ending) (w' : World) : Prop :=
  ∃ v, e = .returned v ∧ (∃ a l c, v = .slice a l c) ∧ RdI w.heap.size w'.heap.size w' v n Z ∧ Below w.heap.size w w'
def LgPost1 (n : Nat) (Z : Nat → Int) (w : World) (e : Ending) (w' : World) : Prop :=
  ∃ v, e = .returned v ∧ (∃ a l c, v = .slice a l c) ∧ OwI w.heap.size w'.heap.size w' v n Z ∧ Below w.heap.size w w'

end Go.Proofs.Ythelaffjpmcdbaa
