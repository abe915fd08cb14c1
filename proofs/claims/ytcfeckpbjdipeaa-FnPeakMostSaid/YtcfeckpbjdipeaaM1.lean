/- Several texts of this family in one. -/
import Derived.WalkKit
import Derived.WalkSpells
import Derived.WalkLawsBesides
import Derived.Deep.OwnRows
import Derived.Deep.QuietTactic
import Derived.BigQuiet
import Derived.Lib.Hide
import Derived.Deep.LoopGhost
import Derived.Deep.DeepCutAuto
import Derived.Deep.RegionHeld3
import Derived.Test.YtcfeckpbjdipeaaRows
import Derived.ProofKit
import Derived.OpenShut
import Derived.ChangeOld
import Derived.Deep.Matrix
import Derived.Deep.AppendLies
import Derived.Deep.RegionLaw

/- The words of this family: what it means that a value reads as a list of numbers or as a grid, and how such readings are carried over. No program is named here. -/
namespace Go.Proofs.Ytcfeckpbjdipeaa
open Go.RowKit

/-- a grid: rows, their lengths, their numbers -/
structure G where
  n : Nat
  len : Nat → Nat
  z : Nat → Nat → Int

def G.Eqv (a b : G) : Prop := a.n = b.n ∧ ∀ r, r < a.n → a.len r = b.len r ∧ ∀ c, c < a.len r → a.z r c = b.z r c

/-- the value reads as n numbers, in blocks from lo on, below hi -/
def RdI (lo hi : Nat) (w : World) (v : Value) (n : Nat) (Z : Nat → Int) : Prop :=
  ∃ (ao : Option Addr) (cap b off : Nat), v = .slice ao n cap ∧ n ≤ cap ∧ cap ≤ 9223372036854775807 ∧ (∀ i, i < n → -9223372036854775808 ≤ Z i ∧ Z i ≤ 9223372036854775807) ∧
    (0 < n → ao = some ⟨b, off, none⟩ ∧ lo ≤ b ∧ b < hi) ∧ ∀ i, i < n → w.cell? ⟨b, off + i, none⟩ = some (.int .i64 (Z i))

def RdM (lo hi : Nat) (w : World) (v : Value) (g : G) : Prop :=
  ∃ (ao : Option Addr) (cap b off : Nat) (Ao : Nat → Option Addr) (Cp : Nat → Nat), v = .slice ao g.n cap ∧ g.n ≤ cap ∧ cap ≤ 9223372036854775807 ∧ (0 < g.n → ao = some ⟨b, off, none⟩ ∧ lo ≤ b ∧ b < hi) ∧
    (∀ r, r < g.n → w.cell? ⟨b, off + r, none⟩ = some (.slice (Ao r) (g.len r) (Cp r))) ∧ ∀ r, r < g.n → RdI lo hi w (.slice (Ao r) (g.len r) (Cp r)) (g.len r) (g.z r)

/-- the same blocks between lo and hi -/
def SameIn (lo hi : Nat) (w w' : World) : Prop := ∀ k, lo ≤ k → k < hi → w'.heap[k]? = w.heap[k]?

theorem RdI.same {lo hi : Nat} {w w' : World} {v : Value} {n : Nat} {Z : Nat → Int} (h : RdI lo hi w v n Z) (hs : SameIn lo hi w w') : RdI lo hi w' v n Z := by
  obtain ⟨ao, cap, b, off, h1, h2, h3, h4, h5, h6⟩ := h
  refine ⟨ao, cap, b, off, h1, h2, h3, h4, h5, fun i hi' => ?_⟩
  have h0 : 0 < n := by omega
  exact (World.cell?_of_block (a := ⟨b, off + i, none⟩) (hs b (h5 h0).2.1 (h5 h0).2.2)).trans (h6 i hi')

theorem RdI.mono {lo hi lo' hi' : Nat} {w : World} {v : Value} {n : Nat} {Z : Nat → Int} (h : RdI lo hi w v n Z) (h1 : lo' ≤ lo) (h2 : hi ≤ hi') : RdI lo' hi' w v n Z := by
  obtain ⟨ao, cap, b, off, a1, a2, a3, a4, a5, a6⟩ := h
  exact ⟨ao, cap, b, off, a1, a2, a3, a4, fun h0 => ⟨(a5 h0).1, Nat.le_trans h1 (a5 h0).2.1, Nat.lt_of_lt_of_le (a5 h0).2.2 h2⟩, a6⟩

theorem RdI.congr {lo hi : Nat} {w : World} {v : Value} {n : Nat} {Z Z' : Nat → Int} (h : RdI lo hi w v n Z) (e : ∀ i, i < n → Z i = Z' i) : RdI lo hi w v n Z' := by
  obtain ⟨ao, cap, b, off, a1, a2, a3, a4, a5, a6⟩ := h
  exact ⟨ao, cap, b, off, a1, a2, a3, fun i hi => by rw [← e i hi]; exact a4 i hi, a5, fun i hi => by rw [← e i hi]; exact a6 i hi⟩

theorem RdM.same {lo hi : Nat} {w w' : World} {v : Value} {g : G} (h : RdM lo hi w v g) (hs : SameIn lo hi w w') : RdM lo hi w' v g := by
  obtain ⟨ao, cap, b, off, Ao, Cp, h1, h2, h3, h5, h6, h7⟩ := h
  refine ⟨ao, cap, b, off, Ao, Cp, h1, h2, h3, h5, fun i hi' => ?_, fun r hr => (h7 r hr).same hs⟩
  have h0 : 0 < g.n := by omega
  exact (World.cell?_of_block (a := ⟨b, off + i, none⟩) (hs b (h5 h0).2.1 (h5 h0).2.2)).trans (h6 i hi')

theorem RdM.mono {lo hi lo' hi' : Nat} {w : World} {v : Value} {g : G} (h : RdM lo hi w v g) (h1 : lo' ≤ lo) (h2 : hi ≤ hi') : RdM lo' hi' w v g := by
  obtain ⟨ao, cap, b, off, Ao, Cp, a1, a2, a3, a5, a6, a7⟩ := h
  exact ⟨ao, cap, b, off, Ao, Cp, a1, a2, a3, fun h0 => ⟨(a5 h0).1, Nat.le_trans h1 (a5 h0).2.1, Nat.lt_of_lt_of_le (a5 h0).2.2 h2⟩, a6, fun r hr => (a7 r hr).mono h1 h2⟩

theorem RdM.congr {lo hi : Nat} {w : World} {v : Value} {g g' : G} (h : RdM lo hi w v g) (e : G.Eqv g g') : RdM lo hi w v g' := by
  obtain ⟨ao, cap, b, off, Ao, Cp, a1, a2, a3, a5, a6, a7⟩ := h
  obtain ⟨e1, e2⟩ := e
  refine ⟨ao, cap, b, off, Ao, Cp, by rw [← e1]; exact a1, by rw [← e1]; exact a2, a3, fun h0 => a5 (by omega), fun r hr => ?_, fun r hr => ?_⟩
  · rw [← (e2 r (by omega)).1]; exact a6 r (by omega)
  · rw [← (e2 r (by omega)).1]; exact (a7 r (by omega)).congr (e2 r (by omega)).2

theorem SameIn.refl (lo hi : Nat) (w : World) : SameIn lo hi w w := fun _ _ _ => rfl
theorem SameIn.trans {lo hi : Nat} {a b c : World} (h : SameIn lo hi a b) (k : SameIn lo hi b c) : SameIn lo hi a c := fun i h1 h2 => (k i h1 h2).trans (h i h1 h2)
theorem SameIn.below {lo hi B : Nat} {a b : World} (h : Below B a b) (hh : hi ≤ B) : SameIn lo hi a b := fun i _ h2 => h.block i (by omega)

theorem below_drewN {B : Nat} {a w : World} (h : Below B a w) (n : Nat) : Below B a (w.drewN n) := ⟨h.os, h.tape, h.output, h.size, h.block⟩

/-- the value is a grid whose rows are rows of their own, which can be written -/
def OwM (lo hi : Nat) (w : World) (v : Value) (g : G) : Prop :=
  (v = .slice none 0 0 ∧ g.n = 0) ∨ ∃ (b : Nat) (Gb : Nat → Nat), v = .slice (some ⟨b, 0, none⟩) g.n g.n ∧ g.n ≤ 9223372036854775807 ∧ lo ≤ b ∧ b < hi ∧ w.rowIs b 27 g.n (fun r => .slice (some ⟨Gb r, 0, none⟩) (g.len r) (g.len r)) ∧
    (∀ r, r < g.n → lo ≤ Gb r ∧ Gb r < hi ∧ Gb r ≠ b ∧ g.len r ≤ 9223372036854775807 ∧ w.rowIs (Gb r) 3 (g.len r) (fun c => .int .i64 (g.z r c)) ∧ ∀ c, c < g.len r → -9223372036854775808 ≤ g.z r c ∧ g.z r c ≤ 9223372036854775807) ∧
    ∀ r s, r < g.n → s < g.n → Gb r = Gb s → r = s

theorem OwM.rd {lo hi : Nat} {w : World} {v : Value} {g : G} (h : OwM lo hi w v g) : RdM lo hi w v g := by
  rcases h with ⟨rfl, h0⟩ | ⟨b, Gb, rfl, hn, h1, h2, h3, h4, _⟩
  · exact ⟨none, 0, 0, 0, fun _ => none, fun _ => 0, by rw [h0], by omega, by omega, fun h => by omega, fun r hr => by omega, fun r hr => by omega⟩
  · refine ⟨_, g.n, b, 0, fun r => some ⟨Gb r, 0, none⟩, g.len, rfl, Nat.le_refl _, hn, fun _ => ⟨rfl, h1, h2⟩, fun r hr => by simpa using h3.cell hr, fun r hr => ?_⟩
    obtain ⟨a1, a2, a3, a4, a5, a6⟩ := h4 r hr
    exact ⟨_, g.len r, Gb r, 0, rfl, Nat.le_refl _, a4, a6, fun _ => ⟨rfl, a1, a2⟩, fun c hc => by simpa using a5.cell hc⟩

theorem OwM.same {lo hi : Nat} {w w' : World} {v : Value} {g : G} (h : OwM lo hi w v g) (hs : SameIn lo hi w w') : OwM lo hi w' v g := by
  rcases h with h | ⟨b, Gb, h0, hn, h1, h2, h3, h4, h5⟩
  · exact Or.inl h
  · exact Or.inr ⟨b, Gb, h0, hn, h1, h2, h3.of_block (hs b h1 h2), fun r hr => by
      obtain ⟨a1, a2, a3, a4, a5, a6⟩ := h4 r hr
      exact ⟨a1, a2, a3, a4, a5.of_block (hs _ a1 a2), a6⟩, h5⟩

/-- what a call that writes only between lo and hi leaves -/
structure Chg (lo hi : Nat) (w w' : World) : Prop where
  os : w'.os = w.os
  tape : w'.tape = w.tape
  output : w'.output = w.output
  size : w.heap.size ≤ w'.heap.size
  block : ∀ k, k < w.heap.size → ¬ (lo ≤ k ∧ k < hi) → w'.heap[k]? = w.heap[k]?

theorem Chg.refl (lo hi : Nat) (w : World) : Chg lo hi w w := ⟨rfl, rfl, rfl, Nat.le_refl _, fun _ _ _ => rfl⟩
theorem Chg.trans {lo hi : Nat} {a b c : World} (h : Chg lo hi a b) (k : Chg lo hi b c) : Chg lo hi a c :=
  ⟨k.os.trans h.os, k.tape.trans h.tape, k.output.trans h.output, Nat.le_trans h.size k.size, fun i h1 h2 => (k.block i (Nat.lt_of_lt_of_le h1 h.size) h2).trans (h.block i h1 h2)⟩
theorem Chg.setCell {lo hi : Nat} {a w : World} (h : Chg lo hi a w) {p : Addr} (h1 : lo ≤ p.block) (h2 : p.block < hi) (u : Value) : Chg lo hi a (w.setCell p u) :=
  h.trans ⟨rfl, rfl, rfl, by simp [World.setCell], fun k _ hn => Below.heap_setCell _ _ _ _ (by intro e; subst e; exact hn ⟨h1, h2⟩)⟩
theorem Chg.below {lo hi B : Nat} {a b : World} (h : Chg lo hi a b) (hB : B ≤ lo) (hs : B ≤ a.heap.size) : Below B a b :=
  ⟨h.os, h.tape, h.output, h.size, fun k hk => h.block k (by omega) (by omega)⟩
theorem Chg.mono {lo hi lo' hi' : Nat} {a b : World} (h : Chg lo hi a b) (h1 : lo' ≤ lo) (h2 : hi ≤ hi') : Chg lo' hi' a b :=
  ⟨h.os, h.tape, h.output, h.size, fun k hk hn => h.block k hk (by omega)⟩
theorem Chg.sameIn {lo hi lo' hi' : Nat} {a b : World} (h : Chg lo hi a b) (hs : hi' ≤ a.heap.size) (hd : hi' ≤ lo ∨ hi ≤ lo') : SameIn lo' hi' a b :=
  fun k h1 h2 => h.block k (by omega) (by omega)

end Go.Proofs.Ytcfeckpbjdipeaa

/- The arguments of a law, opened: a list of lists of numbers reads as a grid. -/
namespace Go.Proofs.Ytcfeckpbjdipeaa
open Go.ChangeShapes Go.WideShapes Go.ChangeAt Go.RowKit Go.Deep
set_option linter.unusedVariables false

theorem own : ownKnob Try.prog.godebug = none := by kernel_rfl
theorem laidOut : laidOutB Try.prog = true := by kernel_rfl
theorem Try.cellsR : Try.prog.cellsOf 27 = 1 := by kernel_rfl
theorem Try.cellsI : Try.prog.cellsOf 3 = 1 := by kernel_rfl

theorem wf_range {n : Int} (h : (Lit.int .i64 n).wf = true) : -9223372036854775808 ≤ n ∧ n ≤ 9223372036854775807 := by
  simpa [Lit.wf, IntKind.min, IntKind.max, IntKind.signed, IntKind.bits] using h

theorem add_none {b off : Nat} (r : Nat) : (⟨b, off, none⟩ : Addr).add r = ⟨b, off + r, none⟩ := by
  unfold Addr.add; split <;> simp_all

theorem open_grid {H : Type} {enc : TypeId × Value → H} {W : World} {held : Bool} {v : Value} {d : DataW H} {ps : List MemPlace} (hv : ∃ a l c, v = .slice a l c) (h : DataW.Trod enc Try.prog W 0 (fun _ => true) held 23 v d ps) :
    ∃ g, RdM 0 W.heap.size W v g := by
  obtain ⟨a, l, c, rfl⟩ := hv
  obtain ⟨fuel, hf⟩ := h
  rcases open_int_rows Try.underlying23 Try.underlying27 Try.underlying3 Try.cellsR Try.cellsI hf with ⟨hcs, _⟩ | ⟨x, len, cap, A, L, C, Z, hcs, _, hl, hm, _, hr⟩
  · simp [Value.cells] at hcs
    obtain ⟨rfl, rfl, rfl⟩ := hcs
    exact ⟨⟨0, fun _ => 0, fun _ _ => 0⟩, none, 0, 0, 0, fun _ => none, fun _ => 0, rfl, by simp, by omega, fun h => by simp at h, fun r hr => by simp at hr, fun r hr => by simp at hr⟩
  · simp [Value.cells] at hcs
    obtain ⟨rfl, rfl, rfl⟩ := hcs
    have hmm : c ≤ 9223372036854775807 := by unfold maxLen at hm; omega
    by_cases h0 : 0 < l
    · obtain ⟨b, off, spot⟩ := x
      have hc0 := (hr 0 (by omega)).1
      have hspot : spot = none := by simpa [Addr.add] using World.cell?_spot hc0
      subst hspot
      refine ⟨⟨l, L, fun r c => (Z r).getD c 0⟩, _, c, b, off, A, C, rfl, hl, hmm, fun _ => ⟨rfl, Nat.zero_le _, ?_⟩, fun r hr' => ?_, fun r hr' => ?_⟩
      · exact World.block_lt_of_cell? _ _ hc0
      · have := (hr r (by simp only at hr'; omega)).1
        rwa [add_none] at this
      · obtain ⟨_, e1, e2, e3, e4, e5, e6⟩ := hr r (by simp only at hr'; omega)
        have e2' : C r ≤ 9223372036854775807 := by unfold maxLen at e2; omega
        have hrange : ∀ i, i < L r → -9223372036854775808 ≤ (Z r).getD i 0 ∧ (Z r).getD i 0 ≤ 9223372036854775807 := fun i hi => by
          refine wf_range (e4 _ ?_)
          rw [List.getD_eq_getElem?_getD, List.getElem?_eq_getElem (by omega)]
          exact List.getElem_mem _
        rcases hA : A r with _ | a'
        · have := e5 hA
          exact ⟨_, C r, 0, 0, rfl, e1, e2', hrange, fun h => by simp only at h; omega, fun i hi => by simp only at hi; omega⟩
        · by_cases hL : 0 < L r
          · obtain ⟨b', off', spot'⟩ := a'
            have k0 := (e6 _ hA).2 0 (by omega)
            have hspot' : spot' = none := by simpa [Addr.add] using World.cell?_spot k0
            subst hspot'
            refine ⟨_, C r, b', off', rfl, e1, e2', hrange, fun _ => ⟨rfl, Nat.zero_le _, ?_⟩, fun i hi => ?_⟩
            · exact World.block_lt_of_cell? _ _ k0
            · have := (e6 _ hA).2 i (by simp only at hi; omega)
              rwa [add_none] at this
          · exact ⟨_, C r, 0, 0, rfl, e1, e2', hrange, fun h => by simp only at h; omega, fun i hi => by simp only at hi; omega⟩
    · obtain rfl : l = 0 := by omega
      exact ⟨⟨0, fun _ => 0, fun _ _ => 0⟩, _, c, 0, 0, fun _ => none, fun _ => 0, rfl, by simp, hmm, fun h => by simp at h, fun r hr => by simp at hr, fun r hr => by simp at hr⟩

end Go.Proofs.Ytcfeckpbjdipeaa

/- The small functions of the exact laws: sizes, copies, comparisons. -/
namespace Go.Proofs.Ytcfeckpbjdipeaa
open Go.RowKit
set_option linter.unusedVariables false

def SzIPost (n : Nat) (l : Int) (w : World) (e : Ending) (w' : World) : Prop := ((l < n ∧ e = .returned (.int .i64 (-1))) ∨ (n ≤ l ∧ e = .returned (.int .i64 (l - n)))) ∧ w = w'

theorem Try.infoI : (Try.prog.info? 3).map (fun i => (i.zero, i.size, i.bytes)) = some (some (.int .i64 0), 1, 8) := by kernel_rfl
theorem Try.infoR : (Try.prog.info? 27).map (fun i => (i.zero, i.size, i.bytes)) = some (some (.slice none 0 0), 1, 24) := by kernel_rfl

/-- what the size of a grid leaves -/
def SzPost (g : G) (w : World) (e : Ending) (w' : World) : Prop :=
  (e = .returned (.int .i64 (-1)) ∨ ∃ l : Int, 0 ≤ l ∧ l ≤ 1048576 ∧ e = .returned (.int .i64 l) ∧ g.n ≤ 1048576 ∧ ∀ r, r < g.n → g.len r ≤ 1048576) ∧ w = w'

/-- the new grid of toIntSS: the outer row, then a block a row -/
def Made (N : Nat) (w : World) (g : G) (k : Nat) : Prop :=
  w.heap.size = N + 1 + k ∧ w.rowIs N 27 g.n (fun r => if r < k then .slice (some ⟨N + 1 + r, 0, none⟩) (g.len r) (g.len r) else .slice none 0 0) ∧
    ∀ r, r < k → w.rowIs (N + 1 + r) 3 (g.len r) (fun c => .int .i64 (g.z r c))

theorem Made.ow {N : Nat} {w : World} {g : G} (h : Made N w g g.n) (hn : g.n ≤ 1048576) (hl : ∀ r, r < g.n → g.len r ≤ 1048576) (hz : ∀ r, r < g.n → ∀ c, c < g.len r → -9223372036854775808 ≤ g.z r c ∧ g.z r c ≤ 9223372036854775807) :
    OwM N w.heap.size w (.slice (some ⟨N, 0, none⟩) g.n g.n) g := by
  obtain ⟨h1, h2, h3⟩ := h
  refine Or.inr ⟨N, fun r => N + 1 + r, rfl, by omega, Nat.le_refl _, by omega, h2.congr (fun i hi => by simp [hi]), fun r hr => ⟨?_, ?_, ?_, by have := hl r hr; omega, h3 r hr, hz r hr⟩, fun r s _ _ e => ?_⟩ <;> dsimp only at * <;> omega

theorem RdM.range {lo hi : Nat} {w : World} {v : Value} {g : G} (h : RdM lo hi w v g) : ∀ r, r < g.n → ∀ c, c < g.len r → -9223372036854775808 ≤ g.z r c ∧ g.z r c ≤ 9223372036854775807 := by
  obtain ⟨_, _, _, _, _, _, _, _, _, _, _, h7⟩ := h
  intro r hr c hc
  obtain ⟨_, _, _, _, _, _, _, h4, _⟩ := h7 r hr
  exact h4 c hc

theorem made_step {w wr w1 : World} {g : G} {k : Nat} (hk : k < g.n) (hm : Made w.heap.size wr g k) (hbel : Below w.heap.size w wr) (hsz : w1.heap.size = wr.heap.size + 1) (hrow : w1.rowIs wr.heap.size 3 (g.len k) (fun c => .int .i64 (g.z k c))) (hb1 : Below wr.heap.size wr w1) :
    Made w.heap.size (w1.setCell ⟨w.heap.size, k, none⟩ (.slice (some ⟨wr.heap.size, 0, none⟩) (g.len k) (g.len k))) g (k + 1) ∧ Below w.heap.size w (w1.setCell ⟨w.heap.size, k, none⟩ (.slice (some ⟨wr.heap.size, 0, none⟩) (g.len k) (g.len k))) ∧
      w1.cell? ⟨w.heap.size, k, none⟩ = some (.slice none 0 0) ∧ w1.frozen? ⟨w.heap.size, k, none⟩ = false := by
  obtain ⟨m1, m2, m3⟩ := hm
  have hN : w.heap.size < wr.heap.size := by omega
  have m2' := m2.of_block (hb1.block w.heap.size hN)
  refine ⟨⟨by simp [World.setCell]; omega, ?_, fun r hr => ?_⟩, ?_, ?_, ?_⟩
  · refine (m2'.set k _).congr (fun j hj => ?_)
    by_cases e : j = k
    · subst e; simp [m1]
    · by_cases e2 : j < k
      · simp [e, e2, Nat.lt_succ_of_lt e2]
      · have : ¬ j < k + 1 := by omega
        simp [e, e2, this]
  · refine World.rowIs.setOther ?_ (by show w.heap.size + 1 + r ≠ w.heap.size; omega) _
    by_cases e : r = k
    · subst e; rw [m1] at hrow; exact hrow
    · exact (m3 r (by omega)).of_block (hb1.block _ (by omega))
  · exact (hbel.trans (hb1.mono hbel.size)).setCell (Nat.le_refl _) _
  · simpa using m2'.cell hk
  · exact m2'.frozen k

/-- what toIntSS leaves -/
def ToPost (g : G) (w : World) (e : Ending) (w' : World) : Prop :=
  e = .returned (.slice (some ⟨w.heap.size, 0, none⟩) g.n g.n) ∧ OwM w.heap.size w'.heap.size w' (.slice (some ⟨w.heap.size, 0, none⟩) g.n g.n) g ∧ Below w.heap.size w w'

/-- what a comparison leaves -/
def EqPost (b : Bool) (w : World) (e : Ending) (w' : World) : Prop := e = .returned (.bool b) ∧ ∃ n, w' = w.drewN n

theorem _root_.Go.Calls.quiet_of' {P : Program} {f : FuncId} {args : Array Value} {w : World} {a n : Nat} {b : Bool}
    (h : Calls P f args (w.drewN (a + n)) (EqPost b (w.drewN (a + n)))) : Calls P f args (w.drewN (a + n)) fun e w'' => e = .returned (.bool b) ∧ ∃ m, w'' = w.drewN (a + m) :=
  h.mono fun _ _ ⟨he, m, hm⟩ => ⟨he, n + m, by rw [hm, World.drewN_drewN, Nat.add_assoc]⟩

/-- how many numbers lie ahead of row r -/
def G.off (g : G) : Nat → Nat
  | 0 => 0
  | r + 1 => g.off r + g.len r

theorem G.off_le (g : G) (hl : ∀ r, r < g.n → g.len r ≤ 1048576) : ∀ r, r ≤ g.n → g.off r ≤ r * 1048576 := by
  intro r
  induction r with
  | zero => intro _; simp [G.off]
  | succ r ih =>
    intro h
    have h1 := ih (by omega)
    have h2 := hl r (by omega)
    simp only [G.off]
    omega

theorem G.off_mono (g : G) : ∀ r s, r ≤ s → g.off r ≤ g.off s := by
  intro r s h
  induction h with
  | refl => exact Nat.le_refl _
  | step _ ih => exact Nat.le_trans ih (Nat.le_add_right _ _)

/-- the grid that has been marked from k on -/
def G.mark (g : G) (k : Int) : G := { n := g.n, len := g.len, z := fun r c => k + g.off r + c }

def MkIPost (b n : Nat) (k : Int) (w : World) (e : Ending) (w' : World) : Prop :=
  e = .returned (.int .i64 (k + n)) ∧ w'.rowIs b 3 n (fun i => .int .i64 (k + i)) ∧ Chg b (b + 1) w w' ∧ w'.heap.size = w.heap.size

def MkPost (lo hi : Nat) (v : Value) (g : G) (k : Int) (w : World) (e : Ending) (w' : World) : Prop :=
  e = .returned (.int .i64 (k + g.off g.n)) ∧ OwM lo hi w' v (g.mark k) ∧ Chg lo hi w w' ∧ w'.heap.size = w.heap.size

/-- the rows below r are marked -/
def MkRows (w : World) (g : G) (Gb : Nat → Nat) (k : Int) (r : Nat) : Prop :=
  ∀ s, s < g.n → w.rowIs (Gb s) 3 (g.len s) (fun c => .int .i64 (if s < r then k + g.off s + c else g.z s c))

theorem MkRows.step {w w1 : World} {g : G} {Gb : Nat → Nat} {k : Int} {r : Nat} (h : MkRows w g Gb k r) (hr : r < g.n) (hinj : ∀ r s, r < g.n → s < g.n → Gb r = Gb s → r = s) (hlt : ∀ s, s < g.n → Gb s < w.heap.size)
    (hrow : w1.rowIs (Gb r) 3 (g.len r) (fun i => .int .i64 (k + g.off r + i))) (hc : Chg (Gb r) (Gb r + 1) w w1) : MkRows w1 g Gb k (r + 1) := by
  intro s hs
  by_cases e : s = r
  · subst e
    exact hrow.congr (fun i _ => by simp)
  · have hne : Gb s ≠ Gb r := fun e' => e (hinj s r hs hr e')
    refine ((h s hs).of_block (hc.block _ (hlt s hs) (by omega))).congr (fun i _ => ?_)
    by_cases e2 : s < r
    · simp [e2, Nat.lt_succ_of_lt e2]
    · have : ¬ s < r + 1 := by omega
      simp [e2, this]

def HePost (q : Int) (w : World) (e : Ending) (w' : World) : Prop := e = .returned (.int .i64 q) ∧ w = w'

end Go.Proofs.Ytcfeckpbjdipeaa

/- The model's functions on grids: which lists are grids. -/
namespace Go.Proofs.Ytcfeckpbjdipeaa
open Go.RowKit
set_option linter.unusedVariables false

def G.Valid (g : G) : Prop := (1 ≤ g.n ∧ g.n ≤ 7) ∧ (1 ≤ g.len 0 ∧ g.len 0 ≤ 7) ∧ ∀ r, r < g.n → g.len r = g.len 0 ∧ ∀ c, c < g.len r → 0 ≤ g.z r c ∧ g.z r c ≤ 99

noncomputable def G.vB (g : G) : Bool := @decide g.Valid (Classical.propDecidable _)

theorem G.vB_yes {g : G} (h : g.Valid) : g.vB = true := by simp [G.vB, h]
theorem G.vB_no {g : G} (h : ¬ g.Valid) : g.vB = false := by simp [G.vB, h]

theorem eq_post {b b' : Bool} (h : b' = b) (w : World) (n : Nat) : EqPost b' w (.returned (.bool b)) (w.drewN n) := ⟨by rw [h], n, rfl⟩
theorem eq_post0 {b b' : Bool} (h : b' = b) (w : World) : EqPost b' w (.returned (.bool b)) w := ⟨by rw [h], 0, rfl⟩

theorem eq_post2 {b b' : Bool} (h : b' = b) (w : World) (m n : Nat) : EqPost b' w (.returned (.bool b)) ((w.drewN m).drewN n) := ⟨by rw [h], m + n, World.drewN_drewN ..⟩

theorem l6In_yes (x a b : Int) (w : World) (h1 : a ≤ x) (h2 : x ≤ b) : Calls Try.prog 92 #[.int .i64 x, .int .i64 a, .int .i64 b] w fun e w' => e = .returned (.bool true) ∧ w = w' := by
  go_enter Try.func92, Try.ntmps92
  go_wp2
  go_ret
  exact ⟨rfl, rfl⟩

theorem l6In_no (x a b : Int) (w : World) (h : x < a ∨ b < x) : Calls Try.prog 92 #[.int .i64 x, .int .i64 a, .int .i64 b] w fun e w' => e = .returned (.bool false) ∧ w = w' := by
  by_cases h1 : x < a
  · go_enter Try.func92, Try.ntmps92
    go_wp2
    go_ret
    exact ⟨rfl, rfl⟩
  · have h2 : b < x := by omega
    clear h
    have h3 : decide (x ≤ b) = false := by simp; omega
    go_enter Try.func92, Try.ntmps92
    go_wp2
    go_ret
    exact ⟨rfl, rfl⟩

/-- the row is all right as far as column k -/
def G.RowTo (g : G) (r k : Nat) : Prop := ∀ c, c < k → 0 ≤ g.z r c ∧ g.z r c ≤ 99

set_option maxHeartbeats 2000000 in
set_option maxRecDepth 20000 in
theorem specValid_any (v : Value) (lo hi : Nat) (g : G) (w : World) (hv : RdM lo hi w v g) :
    Calls Try.prog 83 #[v] w (EqPost g.vB w) := by
  obtain ⟨ao, cap, b, off, Ao, Cp, rfl, a2, a3, a5, a6, a7⟩ := hv
  by_cases hN : 1 ≤ g.n ∧ g.n ≤ 7
  case neg =>
    have HB := Lib.hid (G.vB_no (g := g) (fun h => hN h.1))
    go_enter Try.func83, Try.ntmps83
    go_wp2_with fail
    refine (l6In_no _ _ _ _ (by omega)).mono ?_
    rintro e w' ⟨rfl, rfl⟩
    go_wp2
    go_ret
    exact eq_post0 HB.out _
  case pos =>
    obtain ⟨hN1, hN2⟩ := hN
    obtain ⟨rfl, hb1, hb2⟩ := a5 (by omega)
    have hc0 := a6 0 (by omega)
    have hc0' : w.cell? ⟨b, off, none⟩ = some (.slice (Ao 0) (g.len 0) (Cp 0)) := by simpa using hc0
    have hix0 : (0 : Int) < g.n := by omega
    clear hc0
    by_cases hL : 1 ≤ g.len 0 ∧ g.len 0 ≤ 7
    case neg =>
      have HB := Lib.hid (G.vB_no (g := g) (fun h => hL h.2.1))
      clear a5 a6 a7
      go_enter Try.func83, Try.ntmps83
      go_wp2_with fail
      refine (l6In_yes _ _ _ _ (by omega) (by omega)).mono ?_
      rintro e w' ⟨rfl, rfl⟩
      go_wp2_with fail
      refine (l6In_no _ _ _ _ (by omega)).mono ?_
      rintro e w' ⟨rfl, rfl⟩
      go_wp2
      go_ret
      exact eq_post0 HB.out _
    case pos =>
      obtain ⟨hL1, hL2⟩ := hL
      have H6 := Lib.hid a6
      have H7 := Lib.hid a7
      clear a5 a6 a7
      go_enter Try.func83, Try.ntmps83
      go_wp2_with fail
      refine (l6In_yes _ _ _ _ (by omega) (by omega)).mono ?_
      rintro e w' ⟨rfl, rfl⟩
      go_wp2_with fail
      refine (l6In_yes _ _ _ _ (by omega) (by omega)).mono ?_
      rintro e w' ⟨rfl, rfl⟩
      go_wp2
      go_loopw [3] (fun i wr => ∃ k m : Nat, k ≤ g.n ∧ i = .int .i64 k ∧ wr = w.drewN m ∧ ∀ r, r < k → g.len r = g.len 0 ∧ g.RowTo r (g.len r)) (fun i _ => g.n - (intOf i).toNat)
      case atStart => exact ⟨0, 0, Nat.zero_le _, rfl, rfl, fun r hr => by omega⟩
      case round =>
        obtain ⟨k, m, hk, rfl, rfl, hdone⟩ := hrel
        have HD := Lib.hid hdone
        clear hdone
        by_cases hlt : k < g.n
        · have hlt' : (k : Int) < g.n := by omega
          have q1 := H6.out k hlt
          obtain ⟨ao1, cap1, b1, off1, e1, i2, i3, i4, i5, i6⟩ := H7.out k hlt
          have ea : Ao k = ao1 := by simp only [Value.slice.injEq] at e1; exact e1.1
          have HA := Lib.hid ea
          clear e1 ea i4
          by_cases hne : g.len k = g.len 0
          case neg =>
            have hx : ((g.len k : Int) != g.len 0) = true := by rw [bne_iff_ne]; omega
            have HB := Lib.hid (G.vB_no (g := g) (fun h => hne (h.2.2 k hlt).1))
            clear i5 i6
            go_wp2
            go_quiet (fail)
            go_wp2
            go_ret
            exact eq_post2 HB.out _ _ _
          case pos =>
            have hx : ((g.len k : Int) != g.len 0) = false := by rw [bne_eq_false_iff_eq]; omega
            have hll : g.len k ≤ 7 := by omega
            have HNE := Lib.hid hne
            clear hne
            go_wp2
            go_quiet (fail)
            go_wp2
            clear hx
            go_loopw [4] (fun i wr => ∃ c m' : Nat, c ≤ g.len k ∧ i = .int .i64 c ∧ wr = w.drewN m' ∧ g.RowTo k c) (fun i _ => g.len k - (intOf i).toNat)
            case atStart => exact ⟨0, m + nq, Nat.zero_le _, rfl, World.drewN_drewN .., fun c hc => by omega⟩
            case round =>
              obtain ⟨c, m', hc, rfl, rfl, hrt⟩ := hrel
              have HRT := Lib.hid hrt
              clear hrt
              by_cases hcl : c < g.len k
              · have i5' := (i5 (by omega)).1
                rw [← HA.out] at i5'
                rw [i5'] at q1
                have q2 := i6 c hcl
                have hcl' : (c : Int) < g.len k := by omega
                clear i5 i6 i5'
                by_cases hz : 0 ≤ g.z k c ∧ g.z k c ≤ 99
                · obtain ⟨hz1, hz2⟩ := hz
                  go_wp2_with fail
                  refine (l6In_yes _ _ _ _ hz1 hz2).mono ?_
                  rintro e w' ⟨rfl, rfl⟩
                  go_wp2
                  go_roundw
                  case rel => exact ⟨c + 1, m', by omega, by go_num, rfl, fun c' hc' => by
                    by_cases e : c' = c
                    · subst e; exact ⟨hz1, hz2⟩
                    · exact HRT.out c' (by omega)⟩
                  case measure => simp [intOf]; omega
                · have HB := Lib.hid (G.vB_no (g := g) (fun h => hz ((h.2.2 k hlt).2 c hcl)))
                  go_wp2_with fail
                  refine (l6In_no _ _ _ _ (by omega)).mono ?_
                  rintro e w' ⟨rfl, rfl⟩
                  go_wp2
                  go_ret
                  exact eq_post HB.out _ _
              · have ec : c = g.len k := by omega
                have HEC := Lib.hid ec
                clear ec i5 i6
                go_wp2
                go_roundw
                case rel => exact ⟨k + 1, m', by omega, by go_num, rfl, fun r hr => by
                    by_cases e : r = k
                    · subst e; exact ⟨HNE.out, by rw [← HEC.out]; exact HRT.out⟩
                    · exact HD.out r (by omega)⟩
                case measure => simp [intOf]; omega
        · have HB := Lib.hid (G.vB_yes (g := g) ⟨⟨hN1, hN2⟩, ⟨hL1, hL2⟩, fun r hr => HD.out r (by omega)⟩)
          go_wp2
          go_ret
          exact eq_post HB.out _ _

end Go.Proofs.Ytcfeckpbjdipeaa

/- The program's own small functions on grids; how a relief is made of a function. -/
namespace Go.Proofs.Ytcfeckpbjdipeaa
open Go.RowKit
set_option linter.unusedVariables false

theorem sideFits_yes (x : Int) (w : World) (h1 : 1 ≤ x) (h2 : x ≤ 7) : Calls Try.prog 125 #[.int .i64 x] w fun e w' => e = .returned (.bool true) ∧ w = w' := by
  go_enter Try.func125, Try.ntmps125
  go_wp2
  go_ret
  exact ⟨rfl, rfl⟩

theorem sideFits_no (x : Int) (w : World) (h : x < 1 ∨ 7 < x) : Calls Try.prog 125 #[.int .i64 x] w fun e w' => e = .returned (.bool false) ∧ w = w' := by
  by_cases h1 : x < 1
  · go_enter Try.func125, Try.ntmps125
    go_wp2
    go_ret
    exact ⟨rfl, rfl⟩
  · have h2 : 7 < x := by omega
    have h3 : decide (x ≤ 7) = false := by simp; omega
    clear h
    go_enter Try.func125, Try.ntmps125
    go_wp2
    go_ret
    exact ⟨rfl, rfl⟩

theorem isHeight_yes (x : Int) (w : World) (h1 : 0 ≤ x) (h2 : x ≤ 99) : Calls Try.prog 111 #[.int .i64 x] w fun e w' => e = .returned (.bool true) ∧ w = w' := by
  go_enter Try.func111, Try.ntmps111
  go_wp2
  go_ret
  exact ⟨rfl, rfl⟩

theorem isHeight_no (x : Int) (w : World) (h : x < 0 ∨ 99 < x) : Calls Try.prog 111 #[.int .i64 x] w fun e w' => e = .returned (.bool false) ∧ w = w' := by
  by_cases h1 : x < 0
  · go_enter Try.func111, Try.ntmps111
    go_wp2
    go_ret
    exact ⟨rfl, rfl⟩
  · have h2 : 99 < x := by omega
    have h3 : decide (x ≤ 99) = false := by simp; omega
    clear h
    go_enter Try.func111, Try.ntmps111
    go_wp2
    go_ret
    exact ⟨rfl, rfl⟩

theorem Try.sizeRel : (Try.prog.info? 50).map (·.size) = some 3 := by kernel_rfl

theorem three_set (w : World) (b : Nat) (x y z x' y' z' : Value) {t : TypeId} (h : w.heap[b]? = some (.cells #[x, y, z] t (0, 0))) :
    (((w.setCell ⟨b, 0, none⟩ x').setCell ⟨b, 1, none⟩ y').setCell ⟨b, 2, none⟩ z').heap[b]? = some (.cells #[x', y', z'] t (0, 0)) := by
  have h1 := heap_setCell_same w b 0 #[x, y, z] t x' h
  have h2 := heap_setCell_same _ b 1 _ t y' h1
  have h3 := heap_setCell_same _ b 2 _ t z' h2
  rw [h3]
  simp

theorem ownsRow_base {w : World} {base base' : Nat} {e : TypeId} {size : Nat} {v : Value} {n : Nat} {xs : List Value} (h : w.ownsRow base e size v n xs) (hb : base' ≤ base) : w.ownsRow base' e size v n xs := by
  obtain ⟨h1, h2⟩ := h
  refine ⟨h1, ?_⟩
  rcases h2 with h2 | ⟨g, cap, cur, hv, hg, r⟩
  · exact Or.inl h2
  · exact Or.inr ⟨g, cap, cur, hv, Nat.le_trans hb hg, r⟩

/-- the state of newRelief's loops: m heights are laid -/
structure NR (w wr : World) (R C m : Nat) (Z : Nat → Int) (gg cap : Nat) (xs : List Value) : Prop where
  below : Below w.heap.size w wr
  size : w.heap.size + 3 ≤ wr.heap.size
  res : wr.heap[w.heap.size]? = some (.cells #[.int .i64 0, .int .i64 0, .slice none 0 0] 50 (0, 0))
  loc : wr.heap[w.heap.size + 2]? = some (.cells #[.int .i64 R, .int .i64 C, .slice (some ⟨gg, 0, none⟩) m cap] 50 (0, 0))
  own : wr.ownsRow (w.heap.size + 1) 3 1 (.slice (some ⟨gg, 0, none⟩) m cap) m xs
  far : gg ≠ w.heap.size + 2
  val : ∀ i, i < m → xs[i]? = some (.int .i64 (Z i))

def FlatPost (w : World) (R C : Nat) (Z : Nat → Int) (e : Ending) (w' : World) : Prop :=
  ∃ n gg cap xs, n = R * C ∧ e = .returned (.agg #[.int .i64 R, .int .i64 C, .slice (some ⟨gg, 0, none⟩) n cap]) ∧ w'.ownsRow w.heap.size 3 1 (.slice (some ⟨gg, 0, none⟩) n cap) n xs ∧
    (∀ i, i < n → xs[i]? = some (.int .i64 (Z i))) ∧ Below w.heap.size w w'

theorem _root_.Go.RowKit.Below.undrew {w w2 : World} (h : Below w.drew.heap.size w.drew w2) : Below w.heap.size w w2 := ⟨h.os, h.tape, h.output, h.size, h.block⟩

theorem _root_.Go.World.ownsRow.of_below {w w2 : World} {base : Nat} {e : TypeId} {size : Nat} {v : Value} {n : Nat} {xs : List Value} {B : Nat} (h : w.ownsRow base e size v n xs) (hb : Below B w w2) (hB : ∀ k, v.ownBlock = some k → k < B) : w2.ownsRow base e size v n xs := by
  obtain ⟨h1, h2⟩ := h
  refine ⟨h1, ?_⟩
  rcases h2 with h2 | ⟨g, cap, cur, hv, hg, hh, r⟩
  · exact Or.inl h2
  · exact Or.inr ⟨g, cap, cur, hv, hg, by rw [hb.block _ (hB g (by rw [hv]; rfl))]; exact hh, r⟩

theorem NR.cells {w wr : World} {R C m : Nat} {Z : Nat → Int} {gg cap : Nat} {xs : List Value} (h : NR w wr R C m Z gg cap xs) :
    wr.cell? ⟨w.heap.size + 1 + 1, 2, none⟩ = some (.slice (some ⟨gg, 0, none⟩) m cap) ∧ wr.cell? ⟨w.heap.size + 1 + 1, 0, none⟩ = some (.int .i64 R) ∧ wr.cell? ⟨w.heap.size + 1 + 1, 1, none⟩ = some (.int .i64 C) := by
  have := h.loc
  refine ⟨?_, ?_, ?_⟩ <;> simp [World.cell?, this]

theorem NR.step {w wr w2 w1 : World} {R C m : Nat} {Z : Nat → Int} {gg cap g' cap' : Nat} {xs : List Value} (h : NR w wr R C m Z gg cap xs) (hb : Below wr.heap.size wr w2)
    (hown : w1.ownsRow (w.heap.size + 1) 3 1 (.slice (some ⟨g', 0, none⟩) (m + 1) cap') (m + 1) (xs ++ [.int .i64 (Z m)])) (hg : (w2.alloc (.cells #[.int .i64 (Z m)] 3)).grownBy w1 (some gg)) (hat : some gg = some g' ∨ g' = w2.heap.size + 1) :
    NR w (w1.setCell ⟨w.heap.size + 1 + 1, 2, none⟩ (.slice (some ⟨g', 0, none⟩) (m + 1) cap')) R C (m + 1) Z g' cap' (xs ++ [.int .i64 (Z m)]) ∧
      w1.cell? ⟨w.heap.size + 1 + 1, 2, none⟩ = some (.slice (some ⟨gg, 0, none⟩) m cap) ∧ w1.frozen? ⟨w.heap.size + 1 + 1, 2, none⟩ = false := by
  obtain ⟨h1, h2, h3, h4, h5, h6, h7⟩ := h
  have hsz := hb.size
  have hsz1 := hg.size
  simp at hsz1
  have hgb := (h5.lt gg rfl).1
  have e0 : w1.heap[w.heap.size]? = wr.heap[w.heap.size]? := by
    rw [hg.block _ (by simp; omega) (by simp; omega), Below.heap_alloc _ _ _ (by omega), hb.block _ (by omega)]
  have e2 : w1.heap[w.heap.size + 2]? = wr.heap[w.heap.size + 2]? := by
    rw [hg.block _ (by simp; omega) (by simp; omega), Below.heap_alloc _ _ _ (by omega), hb.block _ (by omega)]
  have hfar : g' ≠ w.heap.size + 2 := by
    rcases hat with e | e
    · simp only [Option.some.injEq] at e; omega
    · omega
  have l2 := e2.trans h4
  have hbel : Below w.heap.size w w1 := (((h1.trans (hb.mono (by omega))).alloc (by omega) (.cells #[.int .i64 (Z m)] 3))).grown hg (by simp; omega) (fun k hk => by simp at hk; omega)
  refine ⟨⟨hbel.setCell (by show w.heap.size ≤ w.heap.size + 1 + 1; omega) _, by simp [World.setCell]; omega, ?_, ?_, ?_, hfar, fun i hi => ?_⟩, ?_, ?_⟩
  · rw [Below.heap_setCell _ _ _ _ (by show w.heap.size ≠ w.heap.size + 1 + 1; omega), e0, h3]
  · show (w1.setCell ⟨w.heap.size + 2, 2, none⟩ _).heap[w.heap.size + 2]? = _
    rw [heap_setCell_same _ _ _ _ _ _ l2]
    simp
  · exact ownsRow_setCell_other hown (by simp [Value.ownBlock]; omega) _
  · by_cases e : i < m
    · rw [List.getElem?_append_left (by rw [h5.1]; omega)]; exact h7 i e
    · have : i = m := by omega
      subst this
      rw [List.getElem?_append_right (by rw [h5.1]; omega), h5.1]; simp
  · simp [World.cell?, l2]
  · simp [World.frozen?, l2]

theorem callFunc_try : ∀ (args : Array Value) (W : World), Sem.run Try.prog (callFunc 97 args) W = .ok (.enter 97 args) W := fun _ _ => by kernel_rfl

set_option maxHeartbeats 4000000 in
set_option maxRecDepth 20000 in
theorem newRelief_any (R C f : Nat) (caps : Array Value) (Z : Nat → Int) (w : World) (hR : R ≤ 20) (hC : C ≤ 20) (hcf : ∀ (args : Array Value) (W : World), Sem.run Try.prog (callFunc f args) W = .ok (.enter f args) W)
    (hf : ∀ (r c : Nat) (W : World), r < R → c < C → Below w.heap.size w W → Calls Try.prog f (#[.int .i64 r, .int .i64 c] ++ caps) W fun e w' => e = .returned (.int .i64 (Z (r * C + c))) ∧ Below W.heap.size W w') :
    Calls Try.prog 96 #[.int .i64 R, .int .i64 C, .func (.func f) #[] caps] w (FlatPost w R C Z) := by
  have hm0 : (0 : Int) ≤ (R : Int) * C := Int.mul_nonneg (by omega) (by omega)
  have hm1 : (R : Int) * C ≤ 400 := by
    have := Nat.mul_le_mul hR hC
    have h2 : ((R * C : Nat) : Int) ≤ ((20 * 20 : Nat) : Int) := by exact_mod_cast this
    rw [Int.natCast_mul] at h2
    omega
  have hmk : ∀ W : World, (Instr.makeSlice 27 (.int .i64 0) (.int .i64 ((R : Int) * C))).run Try.prog W = .ok (.slice (some ⟨W.heap.size, 0, none⟩) 0 (R * C)) (W.alloc (.cells (madeCells #[.int .i64 0] (R * C)) 3)) := by
    intro W
    obtain ⟨i0, hi, hz0, hz1, hz2⟩ := info_parts Try.infoI
    have := run_make (P := Try.prog) W 27 3 i0 (.int .i64 0) Try.underlying27 hi hz0 .i64 .i64 0 ((R : Int) * C) (by omega) hm0 (by rw [hz2]; omega) (by omega)
    rw [this, hz1]
    have e : ((R : Int) * C).toNat = R * C := by rw [← Int.natCast_mul]; rfl
    rw [e]
    simp [Value.cells]
  have HF := Lib.hid hf
  clear hf
  go_enter Try.func96, Try.ntmps96
  go_wp2
  clear hmk
  have start : NR w (((w.alloc (Obj.cells #[Value.int IntKind.i64 0, Value.int IntKind.i64 0, Value.slice none 0 0] 50)).alloc (Obj.cells (madeCells #[Value.int IntKind.i64 0] (R * C)) 3)).alloc
      (Obj.cells #[Value.int IntKind.i64 ↑R, Value.int IntKind.i64 ↑C, Value.slice (some { block := w.heap.size + 1, off := 0 }) 0 (R * C)] 50)) R C 0 Z (w.heap.size + 1) (R * C) [] := by
    have hs1 : (w.alloc (Obj.cells #[Value.int IntKind.i64 0, Value.int IntKind.i64 0, Value.slice none 0 0] 50)).heap.size = w.heap.size + 1 := by simp
    have o := World.ownsRow_made (base := w.heap.size + 1) (e := 3) (size := 1) (w.alloc (Obj.cells #[Value.int IntKind.i64 0, Value.int IntKind.i64 0, Value.slice none 0 0] 50)) (madeCells #[Value.int IntKind.i64 0] (R * C)) (R * C) (by omega) (by have := Nat.mul_le_mul hR hC; unfold maxLen; omega) (by rw [size_madeCells]; omega)
    rw [hs1] at o
    refine ⟨(((Below.refl _ _).alloc (Nat.le_refl _) _).alloc (by simp) _).alloc (by simp; omega) _, by simp, ?_, ?_, o.alloc _, by omega, fun i hi => by omega⟩
    · rw [Below.heap_alloc _ _ _ (by simp; omega), Below.heap_alloc _ _ _ (by simp)]
      exact heap_alloc_new _ _
    · have := heap_alloc_new ((w.alloc (Obj.cells #[Value.int IntKind.i64 0, Value.int IntKind.i64 0, Value.slice none 0 0] 50)).alloc (Obj.cells (madeCells #[Value.int IntKind.i64 0] (R * C)) 3)) (Obj.cells #[Value.int IntKind.i64 ↑R, Value.int IntKind.i64 ↑C, Value.slice (some { block := w.heap.size + 1, off := 0 }) 0 (R * C)] 50)
      simpa using this
  obtain ⟨i0, hi0, hz0, hz1, hz2⟩ := info_parts Try.infoI
  go_loopw [18] (fun i wr => ∃ r gg cap xs, r ≤ R ∧ i = .int .i64 (r : Nat) ∧ NR w wr R C (r * C) Z gg cap xs) (fun i _ => R - (intOf i).toNat)
  case atStart => exact ⟨0, _, _, _, Nat.zero_le _, rfl, by simpa using start⟩
  case round =>
    obtain ⟨r, gg, cap, xs, hr, rfl, hnr⟩ := hrel
    clear start
    by_cases hlt : r < R
    · go_wp2
      obtain ⟨wo, rfl⟩ : ∃ wo : World, wo = wr := ⟨_, rfl⟩
      go_loopw [22] (fun i wr => ∃ c gg cap xs, c ≤ C ∧ i = .int .i64 (c : Nat) ∧ NR w wr R C (r * C + c) Z gg cap xs) (fun i _ => C - (intOf i).toNat)
      case atStart => exact ⟨0, _, _, _, Nat.zero_le _, rfl, by simpa using hnr⟩
      case round =>
        clear hnr gg cap xs
        obtain ⟨c, gg, cap, xs, hc, rfl, hnr⟩ := hrel
        by_cases hcl : c < C
        · have c2 := hnr.cells.1
          have hsz := hnr.size
          have hZ : r * C + c < R * C := by
            have h1 : (r + 1) * C ≤ R * C := Nat.mul_le_mul_right C hlt
            rw [Nat.add_mul] at h1
            omega
          have hRC : R * C ≤ 400 := Nat.mul_le_mul hR hC
          go_wp2_with fail
          go_region_law (first
              | (refine step_append_lies _ (by rfl) _ _ _ (by rfl) (w.heap.size + 1) 3 i0 _ 1 8 Try.underlying27 hi0 hz0 hz1 hz2 rfl (by omega) (.slice (some ⟨gg, 0, none⟩) (r * C + c) cap) (r * C + c) xs (by rfl) (((hnr.own.of_below hb2 (by intro k hk; exact (hnr.own.lt k hk).2)).alloc _)) ⟨w2.heap.size, 0, none⟩ 1 1 [.int .i64 (Z (r * C + c))] (by rfl) (by rfl) (World.news_of_block (cs := #[.int .i64 (Z (r * C + c))]) (t := 3) (fr := (0, 0)) (heap_alloc_new w2 _)) (by simp [Value.oneCell']) (by omega) (by unfold maxLen; omega) (by omega) (by simp; omega) (w2.heap.size + 1) (by simp) ?_; intro g' cap' w1 hown1 hgrow hat hlt1; obtain ⟨nr1, cc1, ff1⟩ := hnr.step hb2 hown1 hgrow hat; clear hown1 hgrow hat)
              | (go_simp; (refine (HF.out r c _ hlt hcl ?_).mono ?_); (exact (hnr.below.drew)); rintro e w2 ⟨rfl, hb3⟩; have hb2 := hb3.undrew; clear hb3; have hS2 := (hb2.cell (p := ⟨w.heap.size + 1 + 1, 2, none⟩) (by show w.heap.size + 1 + 1 < wr.heap.size; omega)).trans c2; have hsz2 := hb2.size; have hS3 := fun o => (World.cell?_of_block (a := ⟨w.heap.size + 1 + 1, 2, none⟩) (Below.heap_alloc w2 o (w.heap.size + 1 + 1) (by omega))).trans hS2))
          all_goals
            go_wp2
            go_roundw
            case rel => exact ⟨c + 1, _, _, _, by omega, by go_num, nr1⟩
            case measure => simp [intOf]; omega
        · have e : c = C := by omega
          subst e
          have hnr' : NR w wr R c ((r + 1) * c) Z gg cap xs := by rw [Nat.add_mul, Nat.one_mul]; exact hnr
          clear hnr
          go_wp2
          go_roundw
          case rel => exact ⟨r + 1, _, _, _, by omega, by go_num, hnr'⟩
          case measure => simp [intOf]; omega
    · have e : r = R := by omega
      subst e
      obtain ⟨d2, d0, d1⟩ := hnr.cells
      have hb0 := hnr.res
      have e0 : wr.cell? ⟨w.heap.size, 0, none⟩ = some (.int .i64 0) := by simp [World.cell?, hb0]
      have e1 : wr.cell? ⟨w.heap.size, 1, none⟩ = some (.int .i64 0) := by simp [World.cell?, hb0]
      have e2 : wr.cell? ⟨w.heap.size, 2, none⟩ = some (.slice none 0 0) := by simp [World.cell?, hb0]
      have f0 : ∀ i, wr.frozen? ⟨w.heap.size, i, none⟩ = false := fun i => by simp [World.frozen?, hb0]
      have g0 := f0 0
      have g1 := f0 1
      have g2 := f0 2
      clear hb0 f0
      have hE := three_set wr w.heap.size _ _ _ (.int .i64 r) (.int .i64 C) (.slice (some ⟨gg, 0, none⟩) (r * C) cap) hnr.res
      have hlo := (hnr.own.lt gg rfl).1
      have hne : Value.ownBlock (.slice (some ⟨gg, 0, none⟩) (r * C) cap) ≠ some w.heap.size := by simp [Value.ownBlock]; omega
      have O1 := ownsRow_setCell_other (ownsRow_setCell_other (ownsRow_setCell_other (ownsRow_base hnr.own (Nat.le_succ _)) (a := ⟨w.heap.size, 0, none⟩) hne (.int .i64 r)) (a := ⟨w.heap.size, 1, none⟩) hne (.int .i64 C)) (a := ⟨w.heap.size, 2, none⟩) hne (.slice (some ⟨gg, 0, none⟩) (r * C) cap)
      have B1 := ((hnr.below.setCell (p := ⟨w.heap.size, 0, none⟩) (Nat.le_refl _) (.int .i64 r)).setCell (p := ⟨w.heap.size, 1, none⟩) (Nat.le_refl _) (.int .i64 C)).setCell (p := ⟨w.heap.size, 2, none⟩) (Nat.le_refl _) (.slice (some ⟨gg, 0, none⟩) (r * C) cap)
      have V1 := Lib.hid hnr.val
      have HE := Lib.hid hE
      clear hE hnr
      go_wp2
      exact bodyPost_ret (results_cell_row rfl _ _ w.heap.size _ _ _ _ rfl HE.out Try.underlying50 rfl Try.sizeRel) rfl ⟨_, gg, cap, xs, rfl, rfl, O1, V1.out, B1⟩

end Go.Proofs.Ytcfeckpbjdipeaa

/- Which lists the program takes for grids. -/
namespace Go.Proofs.Ytcfeckpbjdipeaa
open Go.RowKit
set_option linter.unusedVariables false

def G.Shape (g : G) : Prop := (1 ≤ g.n ∧ g.n ≤ 7) ∧ (1 ≤ g.len 0 ∧ g.len 0 ≤ 7) ∧ ∀ r, r < g.n → g.len r = g.len 0
noncomputable def G.shB (g : G) : Bool := @decide g.Shape (Classical.propDecidable _)
theorem G.shB_yes {g : G} (h : g.Shape) : g.shB = true := by simp [G.shB, h]
theorem G.shB_no {g : G} (h : ¬ g.Shape) : g.shB = false := by simp [G.shB, h]

def SmPost (b : Bool) (w : World) (e : Ending) (w' : World) : Prop := e = .returned (.bool b) ∧ w = w'
theorem sm_post {b b' : Bool} (h : b' = b) (w : World) : SmPost b' w (.returned (.bool b)) w := ⟨by rw [h], rfl⟩

set_option maxHeartbeats 2000000 in
set_option maxRecDepth 20000 in
theorem shapeFits_any (v : Value) (lo hi : Nat) (g : G) (w : World) (hv : RdM lo hi w v g) :
    Calls Try.prog 95 #[v] w (SmPost g.shB w) := by
  obtain ⟨ao, cap, b, off, Ao, Cp, rfl, a2, a3, a5, a6, a7⟩ := hv
  by_cases hN : 1 ≤ g.n ∧ g.n ≤ 7
  case neg =>
    have HB := Lib.hid (G.shB_no (g := g) (fun h => hN h.1))
    go_enter Try.func95, Try.ntmps95
    go_wp2_with fail
    refine (sideFits_no _ _ (by omega)).mono ?_
    rintro e w' ⟨rfl, rfl⟩
    go_wp2
    go_ret
    exact sm_post HB.out _
  case pos =>
    obtain ⟨hN1, hN2⟩ := hN
    obtain ⟨rfl, hb1, hb2⟩ := a5 (by omega)
    have hc0 := a6 0 (by omega)
    have hc0' : w.cell? ⟨b, off, none⟩ = some (.slice (Ao 0) (g.len 0) (Cp 0)) := by simpa using hc0
    have hix0 : (0 : Int) < g.n := by omega
    clear hc0
    by_cases hL : 1 ≤ g.len 0 ∧ g.len 0 ≤ 7
    case neg =>
      have HB := Lib.hid (G.shB_no (g := g) (fun h => hL h.2.1))
      clear a5 a6 a7
      go_enter Try.func95, Try.ntmps95
      go_wp2_with fail
      refine (sideFits_yes _ _ (by omega) (by omega)).mono ?_
      rintro e w' ⟨rfl, rfl⟩
      go_wp2_with fail
      refine (sideFits_no _ _ (by omega)).mono ?_
      rintro e w' ⟨rfl, rfl⟩
      go_wp2
      go_ret
      exact sm_post HB.out _
    case pos =>
      obtain ⟨hL1, hL2⟩ := hL
      have H6 := Lib.hid a6
      clear a5 a6 a7
      go_enter Try.func95, Try.ntmps95
      go_wp2_with fail
      refine (sideFits_yes _ _ (by omega) (by omega)).mono ?_
      rintro e w' ⟨rfl, rfl⟩
      go_wp2_with fail
      refine (sideFits_yes _ _ (by omega) (by omega)).mono ?_
      rintro e w' ⟨rfl, rfl⟩
      go_wp2
      go_loop [19] (fun i => ∃ k : Nat, k ≤ g.n ∧ i = .int .i64 k ∧ ∀ r, r < k → g.len r = g.len 0) (fun i => g.n - (intOf i).toNat)
      case atStart => exact ⟨0, Nat.zero_le _, rfl, fun r hr => by omega⟩
      case round =>
        obtain ⟨k, hk, rfl, hdone⟩ := hrel
        have HD := Lib.hid hdone
        clear hdone
        by_cases hlt : k < g.n
        · have hlt' : (k : Int) < g.n := by omega
          have q1 := H6.out k hlt
          by_cases hne : g.len k = g.len 0
          case neg =>
            have hx : ((g.len k : Int) != g.len 0) = true := by rw [bne_iff_ne]; omega
            have HB := Lib.hid (G.shB_no (g := g) (fun h => hne (h.2.2 k hlt)))
            go_wp2
            go_ret
            exact sm_post HB.out _
          case pos =>
            have hx : ((g.len k : Int) != g.len 0) = false := by rw [bne_eq_false_iff_eq]; omega
            have HNE := Lib.hid hne
            clear hne
            go_wp2
            go_round
            case rel => exact ⟨k + 1, by omega, by go_num, fun r hr => by
              by_cases e : r = k
              · subst e; exact HNE.out
              · exact HD.out r (by omega)⟩
            case measure => simp [intOf]; omega
        · have HB := Lib.hid (G.shB_yes (g := g) ⟨⟨hN1, hN2⟩, ⟨hL1, hL2⟩, fun r hr => HD.out r (by omega)⟩)
          go_wp2
          go_ret
          exact sm_post HB.out _

def RelOk (R C n : Nat) (Z : Nat → Int) : Prop := (1 ≤ R ∧ R ≤ 7) ∧ (1 ≤ C ∧ C ≤ 7) ∧ ∀ i, i < n → 0 ≤ Z i ∧ Z i ≤ 99
noncomputable def relB (R C n : Nat) (Z : Nat → Int) : Bool := @decide (RelOk R C n Z) (Classical.propDecidable _)
theorem relB_yes {R C n : Nat} {Z : Nat → Int} (h : RelOk R C n Z) : relB R C n Z = true := by simp [relB, h]
theorem relB_no {R C n : Nat} {Z : Nat → Int} (h : ¬ RelOk R C n Z) : relB R C n Z = false := by simp [relB, h]

def BlPost (b : Bool) (w : World) (e : Ending) (w' : World) : Prop := e = .returned (.bool b) ∧ Below w.heap.size w w'
theorem bl_post {b b' : Bool} (h : b' = b) {w w' : World} (hb : Below w.heap.size w w') : BlPost b' w (.returned (.bool b)) w' := ⟨by rw [h], hb⟩

/-- a relief as a value: so many rows and columns, and n heights in block gg -/
def relVal (R C n gg cap : Nat) : Value := .agg #[.int .i64 R, .int .i64 C, .slice (some ⟨gg, 0, none⟩) n cap]

set_option maxHeartbeats 2000000 in
set_option maxRecDepth 20000 in
theorem valid_any (R C n gg cap : Nat) (Z : Nat → Int) (w : World) (hc : ∀ i, i < n → w.cell? ⟨gg, i, none⟩ = some (.int .i64 (Z i))) (hn : n ≤ 1000) (hgg : gg < w.heap.size) (hR : R ≤ 1000) (hC : C ≤ 1000) :
    Calls Try.prog 98 #[.agg #[.int .i64 R, .int .i64 C, .slice (some ⟨gg, 0, none⟩) n cap]] w (BlPost (relB R C n Z) w) := by
  have HC := Lib.hid hc
  clear hc
  by_cases h1 : 1 ≤ R ∧ R ≤ 7
  case neg =>
    have HB := Lib.hid (relB_no (R := R) (C := C) (n := n) (Z := Z) (fun h => h1 h.1))
    go_enter Try.func98, Try.ntmps98
    go_wp2_with fail
    refine (sideFits_no _ _ (by omega)).mono ?_
    rintro e w' ⟨rfl, rfl⟩
    go_wp2
    go_ret
    exact bl_post HB.out ((Below.refl _ _).alloc (Nat.le_refl _) _)
  case pos =>
    obtain ⟨h11, h12⟩ := h1
    by_cases h2 : 1 ≤ C ∧ C ≤ 7
    case neg =>
      have HB := Lib.hid (relB_no (R := R) (C := C) (n := n) (Z := Z) (fun h => h2 h.2.1))
      go_enter Try.func98, Try.ntmps98
      go_wp2_with fail
      refine (sideFits_yes _ _ (by omega) (by omega)).mono ?_
      rintro e w' ⟨rfl, rfl⟩
      go_wp2_with fail
      refine (sideFits_no _ _ (by omega)).mono ?_
      rintro e w' ⟨rfl, rfl⟩
      go_wp2
      go_ret
      exact bl_post HB.out ((Below.refl _ _).alloc (Nat.le_refl _) _)
    case pos =>
      obtain ⟨h21, h22⟩ := h2
      go_enter Try.func98, Try.ntmps98
      go_wp2_with fail
      refine (sideFits_yes _ _ (by omega) (by omega)).mono ?_
      rintro e w' ⟨rfl, rfl⟩
      go_wp2_with fail
      refine (sideFits_yes _ _ (by omega) (by omega)).mono ?_
      rintro e w' ⟨rfl, rfl⟩
      go_wp2
      go_loop [18] (fun i => ∃ k : Nat, k ≤ n ∧ i = .int .i64 k ∧ ∀ j, j < k → 0 ≤ Z j ∧ Z j ≤ 99) (fun i => n - (intOf i).toNat)
      case atStart => exact ⟨0, Nat.zero_le _, rfl, fun r hr => by omega⟩
      case round =>
        obtain ⟨k, hk, rfl, hdone⟩ := hrel
        have HD := Lib.hid hdone
        clear hdone
        by_cases hlt : k < n
        · have hlt' : (k : Int) < n := by omega
          have q1 : ∀ o, (w.alloc o).cell? ⟨gg, k, none⟩ = some (.int .i64 (Z k)) := fun o => (World.cell?_of_block (a := ⟨gg, k, none⟩) (Below.heap_alloc w o gg hgg)).trans (HC.out k hlt)
          by_cases hz : 0 ≤ Z k ∧ Z k ≤ 99
          · obtain ⟨hz1, hz2⟩ := hz
            go_wp2_with fail
            refine (isHeight_yes _ _ hz1 hz2).mono ?_
            rintro e w' ⟨rfl, rfl⟩
            go_wp2
            go_round
            case rel => exact ⟨k + 1, by omega, by go_num, fun j hj => by
              by_cases e : j = k
              · subst e; exact ⟨hz1, hz2⟩
              · exact HD.out j (by omega)⟩
            case measure => simp [intOf]; omega
          · have HB := Lib.hid (relB_no (R := R) (C := C) (n := n) (Z := Z) (fun h => hz (h.2.2 k hlt)))
            go_wp2_with fail
            refine (isHeight_no _ _ (by omega)).mono ?_
            rintro e w' ⟨rfl, rfl⟩
            go_wp2
            go_ret
            exact bl_post HB.out ((Below.refl _ _).alloc (Nat.le_refl _) _)
        · have e : k = n := by omega
          subst e
          have HB := Lib.hid (relB_yes (R := R) (C := C) (n := k) (Z := Z) ⟨⟨h11, h12⟩, ⟨h21, h22⟩, HD.out⟩)
          go_wp2
          go_ret
          exact bl_post HB.out ((Below.refl _ _).alloc (Nat.le_refl _) _)

end Go.Proofs.Ytcfeckpbjdipeaa

/- How the program reads lists as a relief. -/
namespace Go.Proofs.Ytcfeckpbjdipeaa
open Go.RowKit
set_option linter.unusedVariables false

set_option maxHeartbeats 1000000 in
set_option maxRecDepth 20000 in
theorem closOf_any (v : Value) (lo hi B r c : Nat) (g : G) (W : World) (hB : W.cell? ⟨B, 0, none⟩ = some v) (hv : RdM lo hi W v g) (hr : r < g.n) (hc : c < g.len r) :
    Calls Try.prog 97 #[.int .i64 r, .int .i64 c, .pointer (some ⟨B, 0, none⟩)] W fun e w' => e = .returned (.int .i64 (g.z r c)) ∧ Below W.heap.size W w' := by
  obtain ⟨ao, cap, b, off, Ao, Cp, rfl, a2, a3, a5, a6, a7⟩ := hv
  obtain ⟨rfl, hb1, hb2⟩ := a5 (by omega)
  have q1 := a6 r hr
  obtain ⟨ao1, cap1, b1, off1, e1, i2, i3, i4, i5, i6⟩ := a7 r hr
  have i5' := (i5 (by omega)).1
  have ea : Ao r = ao1 := by simp only [Value.slice.injEq] at e1; exact e1.1
  rw [ea, i5'] at q1
  have q2 := i6 c hc
  have hr' : (r : Int) < g.n := by omega
  have hc' : (c : Int) < g.len r := by omega
  clear a5 a6 a7 i4 i5 i6 e1 ea i5' hr hc
  go_enter Try.func97, Try.ntmps97
  go_wp2
  go_ret
  exact ⟨rfl, Below.refl _ _⟩

/-- the flat numbers of a grid with rows of L -/
def G.flat (g : G) (i : Nat) : Int := g.z (i / g.len 0) (i % g.len 0)

theorem G.flat_at (g : G) (r c : Nat) (hc : c < g.len 0) : g.flat (r * g.len 0 + c) = g.z r c := by
  have h0 : 0 < g.len 0 := by omega
  have e1 : (r * g.len 0 + c) / g.len 0 = r := by
    rw [Nat.add_comm, Nat.add_mul_div_right _ _ h0, Nat.div_eq_of_lt hc]; omega
  have e2 : (r * g.len 0 + c) % g.len 0 = c := by
    rw [Nat.add_comm, Nat.add_mul_mod_self_right, Nat.mod_eq_of_lt hc]
  simp only [G.flat, e1, e2]

/-- what reliefOf answers for a grid -/
def RelYes (g : G) (w : World) (e : Ending) (w' : World) : Prop :=
  ∃ n gg cap xs, n = g.n * g.len 0 ∧ e = .returned (.tuple #[.agg #[.int .i64 g.n, .int .i64 (g.len 0), .slice (some ⟨gg, 0, none⟩) n cap], .bool true]) ∧ w'.ownsRow w.heap.size 3 1 (.slice (some ⟨gg, 0, none⟩) n cap) n xs ∧
    (∀ i, i < n → xs[i]? = some (.int .i64 (g.flat i))) ∧ Below w.heap.size w w'
def RelNo (w : World) (e : Ending) (w' : World) : Prop :=
  e = .returned (.tuple #[.agg #[.int .i64 0, .int .i64 0, .slice none 0 0], .bool false]) ∧ Below w.heap.size w w'

theorem results_cell_row_tmp {fn : Func} {P : Program} {p u : Tmp} {ty : TypeId} (h : fn.results = #[.cell p ty, .tmp u]) (tmps : Array Value) (w : World) (g : Nat) (t : TypeId) (cs : Array Value) (fr : Nat × Nat) (d : TypeDesc)
    (hp : tmps.getD p undef = .pointer (some ⟨g, 0, none⟩)) (hg : w.heap[g]? = some (.cells cs t fr))
    (hu : P.underlying ty = some d) (hd : (match d with | .struct _ | .array _ _ => true | _ => false) = true) (hi : (P.info? ty).map (·.size) = some cs.size) (v : Value) (hv : tmps.getD u undef = v) :
    (results fn tmps).run P w = .ok (.tuple #[.agg cs, v]) w := by
  rw [results_cell_tmp h, hp, hv]
  simp [asAddr, run_loadVar_row w g t ty cs fr d hg hu hd hi, Result.andThen]

theorem G.not_valid_shape {g : G} (h : ¬ g.Shape) : ¬ g.Valid := fun hv => h ⟨hv.1, hv.2.1, fun r hr => (hv.2.2 r hr).1⟩

set_option maxHeartbeats 4000000 in
set_option maxRecDepth 20000 in
theorem reliefOf_bad (v : Value) (lo hi : Nat) (g : G) (w : World) (hv : RdM lo hi w v g) (hh : hi ≤ w.heap.size) (hs : ¬ g.Shape) :
    Calls Try.prog 56 #[v] w (RelNo w) := by
  obtain ⟨W0, hW0⟩ : ∃ W0, W0 = (w.alloc (.cells #[v] 23)).alloc (.cells #[.int .i64 0, .int .i64 0, .slice none 0 0] 50) := ⟨_, rfl⟩
  have hB0 : Below w.heap.size w W0 := by rw [hW0]; exact ((Below.refl _ _).alloc (Nat.le_refl _) _).alloc (by simp) _
  have hv0 : RdM lo hi W0 v g := hv.same (SameIn.below hB0 hh)
  rw [hW0] at hv0
  have hcon := shapeFits_any v lo hi g _ hv0
  rw [G.shB_no hs] at hcon
  have HC := Lib.hid hcon
  have hrange := hv.range
  obtain ⟨ao, cap, b, off, Ao, Cp, rfl, a2, a3, a5, a6, a7⟩ := hv
  clear hcon hv0 hB0 hW0 a5 a6 a7 hrange
  go_enter Try.func56, Try.ntmps56
  go_wp2_with fail
  refine HC.out.mono ?_
  rintro e w' ⟨rfl, rfl⟩
  go_wp2
  exact bodyPost_ret (results_cell_row_tmp rfl _ _ (w.heap.size + 1) _ #[.int .i64 0, .int .i64 0, .slice none 0 0] _ _ rfl (heap_alloc2_new w _ _) Try.underlying50 rfl Try.sizeRel (.bool false) rfl) rfl ⟨rfl, ((Below.refl _ _).alloc (Nat.le_refl _) _).alloc (by simp) _⟩

theorem heap_size_alloc2 (w : World) (a b : Obj) : ((w.alloc a).alloc b).heap.size = w.heap.size + 2 := by simp

theorem heap_size_alloc3 (w : World) (a b c : Obj) : (((w.alloc a).alloc b).alloc c).heap.size = w.heap.size + 3 := by simp
theorem heap_alloc3_new (w : World) (a b c : Obj) : (((w.alloc a).alloc b).alloc c).heap[w.heap.size + 1 + 1]? = some c := by
  have := heap_alloc_new ((w.alloc a).alloc b) c
  simpa using this
theorem cells3 {w : World} {b : Nat} {x y z : Value} {t : TypeId} (h : w.heap[b]? = some (.cells #[x, y, z] t (0, 0))) :
    w.cell? ⟨b, 0, none⟩ = some x ∧ w.cell? ⟨b, 1, none⟩ = some y ∧ w.cell? ⟨b, 2, none⟩ = some z ∧ w.frozen? ⟨b, 0, none⟩ = false ∧ w.frozen? ⟨b, 1, none⟩ = false ∧ w.frozen? ⟨b, 2, none⟩ = false := by
  simp [World.cell?, World.frozen?, h]

theorem newRelief_of (v : Value) (lo hi B : Nat) (g : G) (W : World) (hB : W.cell? ⟨B, 0, none⟩ = some v) (hv : RdM lo hi W v g) (hh : hi ≤ W.heap.size) (hs : g.Shape) :
    Calls Try.prog 96 #[.int .i64 g.n, .int .i64 (g.len 0), .func (.func 97) #[] #[.pointer (some ⟨B, 0, none⟩)]] W (FlatPost W g.n (g.len 0) g.flat) := by
  obtain ⟨h1, h2, h3⟩ := hs
  have hlt : B < W.heap.size := World.block_lt_of_cell? _ _ hB
  refine newRelief_any g.n (g.len 0) _ _ g.flat W (by omega) (by omega) callFunc_try (fun r c W' hr hc hbel => ?_)
  rw [g.flat_at r c hc]
  exact closOf_any v lo hi B r c g W' ((hbel.cell (p := ⟨B, 0, none⟩) hlt).trans hB) (hv.same (SameIn.below hbel hh)) hr (by rw [h3 r hr]; exact hc)

/-- what stands behind the making of the relief in reliefOf -/
def RelMid (g : G) (w : World) (s4 : Value) (wx : World) : Prop :=
  ∃ H n gg cap xs, n = g.n * g.len 0 ∧ s4 = .pointer (some ⟨H, 0, none⟩) ∧ w.heap.size + 1 < H ∧ wx.heap[H]? = some (.cells #[.int .i64 g.n, .int .i64 (g.len 0), .slice (some ⟨gg, 0, none⟩) n cap] 50 (0, 0)) ∧
    wx.ownsRow (w.heap.size + 2) 3 1 (.slice (some ⟨gg, 0, none⟩) n cap) n xs ∧ (∀ i, i < n → xs[i]? = some (.int .i64 (g.flat i))) ∧ Below w.heap.size w wx ∧
    wx.heap[w.heap.size + 1]? = some (.cells #[.int .i64 0, .int .i64 0, .slice none 0 0] 50 (0, 0))

theorem cell3_far {w : World} {x y o : Nat} (a b c : Value) (i j k : Nat) (h : y ≠ x) : (((w.setCell ⟨x, i, none⟩ a).setCell ⟨x, j, none⟩ b).setCell ⟨x, k, none⟩ c).cell? ⟨y, o, none⟩ = w.cell? ⟨y, o, none⟩ := by
  rw [World.cell?_of_block (a := ⟨y, o, none⟩) (Below.heap_setCell _ ⟨x, k, none⟩ c y h), World.cell?_of_block (a := ⟨y, o, none⟩) (Below.heap_setCell _ ⟨x, j, none⟩ b y h), World.cell?_of_block (a := ⟨y, o, none⟩) (Below.heap_setCell _ ⟨x, i, none⟩ a y h)]

theorem below_cast {B : Nat} {w w2 : World} (h : Below w.drew.heap.size w.drew w2) (e : w.heap.size = B) : Below B w w2 := by
  subst e; exact ⟨h.os, h.tape, h.output, h.size, h.block⟩

theorem relMid_a {g : G} {w w2 : World} {o1 : Obj} {n gg cap : Nat} {xs : List Value} (hn : n = g.n * g.len 0) (hown : w2.ownsRow (w.heap.size + 2) 3 1 (.slice (some ⟨gg, 0, none⟩) n cap) n xs) (hval : ∀ i, i < n → xs[i]? = some (.int .i64 (g.flat i)))
    (hb : Below (w.heap.size + 2) ((w.alloc o1).alloc (.cells #[.int .i64 0, .int .i64 0, .slice none 0 0] 50)) w2) :
    RelMid g w (.pointer (some ⟨w2.heap.size, 0, none⟩)) (w2.alloc (.cells #[.int .i64 g.n, .int .i64 (g.len 0), .slice (some ⟨gg, 0, none⟩) n cap] 50)) := by
  have hs := hb.size
  simp at hs
  have hb0 : Below w.heap.size w w2 := (((Below.refl _ _).alloc (Nat.le_refl _) o1).alloc (by simp) _).trans (hb.mono (by omega))
  refine ⟨w2.heap.size, n, gg, cap, xs, hn, rfl, by omega, heap_alloc_new _ _, hown.alloc _, hval, hb0.alloc (by omega) _, ?_⟩
  rw [Below.heap_alloc _ _ _ (by omega), hb.block _ (by omega)]
  exact heap_alloc2_new _ _ _

theorem relMid_b {g : G} {w w2 : World} {o1 : Obj} {n gg cap : Nat} {xs : List Value} (hn : n = g.n * g.len 0) (hown : w2.ownsRow (w.heap.size + 3) 3 1 (.slice (some ⟨gg, 0, none⟩) n cap) n xs) (hval : ∀ i, i < n → xs[i]? = some (.int .i64 (g.flat i)))
    (hb : Below (w.heap.size + 3) (((w.alloc o1).alloc (.cells #[.int .i64 0, .int .i64 0, .slice none 0 0] 50)).alloc (.cells #[.int .i64 0, .int .i64 0, .slice none 0 0] 50)) w2) :
    RelMid g w (.pointer (some ⟨w.heap.size + 1 + 1, 0, none⟩)) (((w2.setCell ⟨w.heap.size + 1 + 1, 0, none⟩ (.int .i64 g.n)).setCell ⟨w.heap.size + 1 + 1, 1, none⟩ (.int .i64 (g.len 0))).setCell ⟨w.heap.size + 1 + 1, 2, none⟩ (.slice (some ⟨gg, 0, none⟩) n cap)) := by
  have hs := hb.size
  simp at hs
  have hb0 : Below w.heap.size w w2 := ((((Below.refl _ _).alloc (Nat.le_refl _) o1).alloc (by simp) _).alloc (by simp; omega) _).trans (hb.mono (by omega))
  have hH : w2.heap[w.heap.size + 1 + 1]? = some (.cells #[.int .i64 0, .int .i64 0, .slice none 0 0] 50 (0, 0)) := (hb.block _ (by omega)).trans (heap_alloc3_new w _ _ _)
  have hlo := (hown.lt gg rfl).1
  have hne : Value.ownBlock (.slice (some ⟨gg, 0, none⟩) n cap) ≠ some (w.heap.size + 1 + 1) := by simp [Value.ownBlock]; omega
  refine ⟨w.heap.size + 1 + 1, n, gg, cap, xs, hn, rfl, by omega, three_set _ _ _ _ _ _ _ _ hH, ?_, hval, ?_, ?_⟩
  · exact ownsRow_setCell_other (ownsRow_setCell_other (ownsRow_setCell_other (ownsRow_base hown (by omega)) (a := ⟨w.heap.size + 1 + 1, 0, none⟩) hne _) (a := ⟨w.heap.size + 1 + 1, 1, none⟩) hne _) (a := ⟨w.heap.size + 1 + 1, 2, none⟩) hne _
  · exact ((hb0.setCell (by show w.heap.size ≤ w.heap.size + 1 + 1; omega) _).setCell (by show w.heap.size ≤ w.heap.size + 1 + 1; omega) _).setCell (by show w.heap.size ≤ w.heap.size + 1 + 1; omega) _
  · rw [Below.heap_setCell _ _ _ _ (by show w.heap.size + 1 ≠ w.heap.size + 1 + 1; omega), Below.heap_setCell _ _ _ _ (by show w.heap.size + 1 ≠ w.heap.size + 1 + 1; omega), Below.heap_setCell _ _ _ _ (by show w.heap.size + 1 ≠ w.heap.size + 1 + 1; omega), hb.block _ (by omega), Below.heap_alloc _ _ _ (by simp)]
    exact heap_alloc2_new _ _ _

theorem rel_ok {g : G} (h : g.Valid) {n : Nat} (hn : n = g.n * g.len 0) : RelOk g.n (g.len 0) n g.flat := by
  obtain ⟨h1, h2, h3⟩ := h
  refine ⟨h1, h2, fun i hi => ?_⟩
  have h0 : 0 < g.len 0 := by omega
  have e1 : i / g.len 0 < g.n := by rw [Nat.div_lt_iff_lt_mul h0]; omega
  have := (h3 _ e1).2 (i % g.len 0) (by rw [(h3 _ e1).1]; exact Nat.mod_lt _ h0)
  exact this

theorem rel_no {g : G} (hs : g.Shape) (h : ¬ g.Valid) {n : Nat} (hn : n = g.n * g.len 0) : ¬ RelOk g.n (g.len 0) n g.flat := by
  intro hr
  apply h
  obtain ⟨h1, h2, h3⟩ := hs
  refine ⟨h1, h2, fun r hr' => ⟨h3 r hr', fun c hc => ?_⟩⟩
  rw [h3 r hr'] at hc
  have := hr.2.2 (r * g.len 0 + c) (by
    have e : (r + 1) * g.len 0 ≤ g.n * g.len 0 := Nat.mul_le_mul_right _ hr'
    rw [Nat.add_mul] at e
    omega)
  rwa [g.flat_at r c hc] at this

theorem own3 {w : World} {base : Nat} {e : TypeId} {size gg n cap m : Nat} {xs : List Value} (h : w.ownsRow base e size (.slice (some ⟨gg, 0, none⟩) n cap) m xs) {x : Nat} (hx : gg ≠ x) (a b c : Value) :
    (((w.setCell ⟨x, 0, none⟩ a).setCell ⟨x, 1, none⟩ b).setCell ⟨x, 2, none⟩ c).ownsRow base e size (.slice (some ⟨gg, 0, none⟩) n cap) m xs := by
  have hne : Value.ownBlock (.slice (some ⟨gg, 0, none⟩) n cap) ≠ some x := by simp [Value.ownBlock]; omega
  exact ownsRow_setCell_other (ownsRow_setCell_other (ownsRow_setCell_other h (a := ⟨x, 0, none⟩) hne a) (a := ⟨x, 1, none⟩) hne b) (a := ⟨x, 2, none⟩) hne c

theorem below3 {B : Nat} {a w : World} (h : Below B a w) {x : Nat} (hx : B ≤ x) (p q r : Value) : Below B a (((w.setCell ⟨x, 0, none⟩ p).setCell ⟨x, 1, none⟩ q).setCell ⟨x, 2, none⟩ r) :=
  ((h.setCell (p := ⟨x, 0, none⟩) hx p).setCell (p := ⟨x, 1, none⟩) hx q).setCell (p := ⟨x, 2, none⟩) hx r

set_option maxHeartbeats 4000000 in
set_option maxRecDepth 20000 in
theorem reliefOf_shape (v : Value) (lo hi : Nat) (g : G) (w : World) (hv : RdM lo hi w v g) (hh : hi ≤ w.heap.size) (hs : g.Shape) :
    Calls Try.prog 56 #[v] w fun e w' => (g.Valid → RelYes g w e w') ∧ (¬ g.Valid → RelNo w e w') := by
  obtain ⟨W0, hW0⟩ : ∃ W0, W0 = (w.alloc (.cells #[v] 23)).alloc (.cells #[.int .i64 0, .int .i64 0, .slice none 0 0] 50) := ⟨_, rfl⟩
  have hB0 : Below w.heap.size w W0 := by rw [hW0]; exact ((Below.refl _ _).alloc (Nat.le_refl _) _).alloc (by simp) _
  have hv0 : RdM lo hi W0 v g := hv.same (SameIn.below hB0 hh)
  rw [hW0] at hv0
  have hcon := shapeFits_any v lo hi g _ hv0
  rw [G.shB_yes hs] at hcon
  have HC := Lib.hid hcon
  have HV := Lib.hid hv0
  have HS := Lib.hid hs
  obtain ⟨ao, cap, b, off, Ao, Cp, rfl, a2, a3, a5, a6, a7⟩ := hv
  obtain ⟨rfl, hb1, hb2⟩ := a5 (by have := hs.1; omega)
  have hbw : b < w.heap.size := by omega
  have hn0 : (0 : Int) < g.n := by have := hs.1; omega
  have hn1 : 0 < g.n := by omega
  have q0 : w.cell? ⟨b, off, none⟩ = some (.slice (Ao 0) (g.len 0) (Cp 0)) := by simpa using a6 0 (by omega)
  have q1 : ∀ o1 o2, ((w.alloc o1).alloc o2).cell? ⟨b, off, none⟩ = some (.slice (Ao 0) (g.len 0) (Cp 0)) := fun o1 o2 => by
    rw [World.cell?_of_block (a := ⟨b, off, none⟩) (Below.heap_alloc _ o2 b (by simp; omega)), World.cell?_of_block (a := ⟨b, off, none⟩) (Below.heap_alloc _ o1 b hbw)]; exact q0
  have q2 : ∀ o1 o2 o3, (((w.alloc o1).alloc o2).alloc o3).cell? ⟨b, off, none⟩ = some (.slice (Ao 0) (g.len 0) (Cp 0)) := fun o1 o2 o3 => by
    rw [World.cell?_of_block (a := ⟨b, off, none⟩) (Below.heap_alloc _ o3 b (by simp; omega))]; exact q1 o1 o2
  have k1 : ((w.alloc (.cells #[.slice (some ⟨b, off, none⟩) g.n cap] 23)).alloc (.cells #[.int .i64 0, .int .i64 0, .slice none 0 0] 50)).cell? ⟨w.heap.size, 0, none⟩ = some (.slice (some ⟨b, off, none⟩) g.n cap) := by
    have := heap_alloc2_old w (.cells #[.slice (some ⟨b, off, none⟩) g.n cap] 23) (.cells #[.int .i64 0, .int .i64 0, .slice none 0 0] 50)
    simp [World.cell?, this]
  have K1 := Lib.hid k1
  have k2 : ∀ o, (((w.alloc (.cells #[.slice (some ⟨b, off, none⟩) g.n cap] 23)).alloc (.cells #[.int .i64 0, .int .i64 0, .slice none 0 0] 50)).alloc o).cell? ⟨w.heap.size, 0, none⟩ = some (.slice (some ⟨b, off, none⟩) g.n cap) := fun o =>
    (World.cell?_of_block (a := ⟨w.heap.size, 0, none⟩) (Below.heap_alloc _ o w.heap.size (by simp; omega))).trans k1
  have K2 := Lib.hid k2
  have HV2 := Lib.hid (show ∀ o, RdM lo hi (((w.alloc (.cells #[.slice (some ⟨b, off, none⟩) g.n cap] 23)).alloc (.cells #[.int .i64 0, .int .i64 0, .slice none 0 0] 50)).alloc o) (.slice (some ⟨b, off, none⟩) g.n cap) g from fun o => hv0.same (fun k _ hk => Below.heap_alloc _ o k (by simp; omega)))
  clear hcon hv0 hB0 hW0 a5 a6 a7 hs q0 k1 k2
  go_enter Try.func56, Try.ntmps56
  go_wp2_with fail
  refine HC.out.mono ?_
  rintro e w' ⟨rfl, rfl⟩
  go_upto_region 3 with fail
  go_cut [4] (fun s4 wx => RelMid g w s4 wx)
  case first =>
    go_region_held3 (fun w' => w'.cell? ⟨w.heap.size, 0, none⟩ = some (.slice (some ⟨b, off, none⟩) g.n cap) ∧ w'.cell? ⟨b, off, none⟩ = some (.slice (Ao 0) (g.len 0) (Cp 0))) (first | go_keep | exact ⟨s1, s2⟩ | exact ⟨(cell3_far _ _ _ _ _ _ (by omega)).trans s1, (cell3_far _ _ _ _ _ _ (by omega)).trans s2⟩)
      (first | (go_at_call 96; refine (newRelief_of (.slice (some ⟨b, off, none⟩) g.n cap) lo hi w.heap.size g _ (by first | exact K1.out | exact K2.out _) (by first | exact HV.out | exact HV2.out _) (by simp; omega) HS.out).mono ?_; rintro e w2 ⟨n, gg, cap', xs, hn, rfl, hown, hval, hbel⟩; have hsz2 := hbel.size; simp at hsz2; have s1 : w2.cell? ⟨w.heap.size, 0, none⟩ = some (.slice (some ⟨b, off, none⟩) g.n cap) := (hbel.cell (p := ⟨w.heap.size, 0, none⟩) (by simp; omega)).trans (by first | exact K1.out | exact K2.out _); have s2 : w2.cell? ⟨b, off, none⟩ = some (.slice (Ao 0) (g.len 0) (Cp 0)) := (hbel.cell (p := ⟨b, off, none⟩) (by simp; omega)).trans (by first | exact q1 _ _ | exact q2 _ _ _); have Hn := Lib.hid hn; have Hval := Lib.hid hval; have Hbel := Lib.hid hbel; (try (have hH := (hbel.block (w.heap.size + 1 + 1) (by simp)).trans (heap_alloc3_new w _ _ _); obtain ⟨c0, c1, c2, f0, f1, f2⟩ := cells3 hH; have HH := Lib.hid hH; clear hH)); clear hn hval hbel))
    all_goals go_wp2_with fail
    all_goals go_meet
    all_goals first | exact relMid_a Hn.out (ownsRow_base hown (by simp)) Hval.out (below_cast Hbel.out (by simp)) | exact relMid_b Hn.out (ownsRow_base hown (by simp)) Hval.out (below_cast Hbel.out (by simp))
  case rest =>
    obtain ⟨H, n, gg, cap', xs, hn, rfl, hH, hloc, hown, hval, hbel, hres⟩ := hcut
    have hsh := HS.out
    have hn' : n ≤ 49 := by rw [hn]; exact Nat.mul_le_mul hsh.1.2 hsh.2.1.2
    obtain ⟨c0, c1, c2, f0, f1, f2⟩ := cells3 hloc
    have hgl := hown.lt gg rfl
    have hcon := valid_any g.n (g.len 0) n gg cap' g.flat wc (fun i hi => by
      have := hown.cellAt i (by omega)
      rw [this]; exact hval i hi) (by omega) hgl.2 (by have := hsh.1.2; omega) (by have := hsh.2.1.2; omega)
    have HCV := Lib.hid hcon
    have HR := Lib.hid hres
    have HN := Lib.hid hn
    have HL := Lib.hid hloc
    have HVAL := Lib.hid hval
    clear hcon hres hn hloc hval f0 f1 f2
    by_cases hval : g.Valid
    · have hB : relB g.n (g.len 0) n g.flat = true := relB_yes (rel_ok hval HN.out)
      have HB := Lib.hid hB
      clear hB
      go_wp2_with fail
      refine HCV.out.mono ?_
      rintro e w3 ⟨rfl, hb3⟩
      rw [HB.out]
      have L3 := (hb3.block H (lt_of_block HL.out)).trans HL.out
      have R3 := (hb3.block (w.heap.size + 1) (lt_of_block HR.out)).trans HR.out
      obtain ⟨d0, d1, d2, _, _, _⟩ := cells3 L3
      obtain ⟨r0, r1, r2, g0, g1, g2⟩ := cells3 R3
      have HL3 := Lib.hid L3
      have HR3 := Lib.hid R3
      clear L3 R3 c0 c1 c2
      have hE := three_set w3 (w.heap.size + 1) _ _ _ (.int .i64 g.n) (.int .i64 (g.len 0)) (.slice (some ⟨gg, 0, none⟩) n cap') HR3.out
      have HE := Lib.hid hE
      have O1 := own3 (ownsRow_base (hown.of_below hb3 (by intro k hk; exact (hown.lt k hk).2)) (Nat.le_add_right w.heap.size 2)) (x := w.heap.size + 1) (by have := hgl.1; omega) (.int .i64 g.n) (.int .i64 (g.len 0)) (.slice (some ⟨gg, 0, none⟩) n cap')
      have B1 := below3 (hbel.trans (hb3.mono hbel.size)) (x := w.heap.size + 1) (by omega) (.int .i64 g.n) (.int .i64 (g.len 0)) (.slice (some ⟨gg, 0, none⟩) n cap')
      clear hE
      go_wp2
      exact bodyPost_ret (results_cell_row_tmp rfl _ _ (w.heap.size + 1) _ #[.int .i64 g.n, .int .i64 (g.len 0), .slice (some ⟨gg, 0, none⟩) n cap'] _ _ rfl HE.out Try.underlying50 rfl Try.sizeRel (.bool true) rfl) rfl
        ⟨fun _ => ⟨n, gg, cap', xs, HN.out, rfl, O1, HVAL.out, B1⟩, fun h => absurd hval h⟩
    · have hB : relB g.n (g.len 0) n g.flat = false := relB_no (rel_no HS.out hval HN.out)
      have HB := Lib.hid hB
      clear hB
      go_wp2_with fail
      refine HCV.out.mono ?_
      rintro e w3 ⟨rfl, hb3⟩
      rw [HB.out]
      have R3 := (hb3.block (w.heap.size + 1) (lt_of_block HR.out)).trans HR.out
      obtain ⟨r0, r1, r2, g0, g1, g2⟩ := cells3 R3
      have HR3 := Lib.hid R3
      clear R3 c0 c1 c2
      have hE := three_set w3 (w.heap.size + 1) _ _ _ (.int .i64 0) (.int .i64 0) (.slice none 0 0) HR3.out
      have HE := Lib.hid hE
      have B1 := below3 (hbel.trans (hb3.mono hbel.size)) (x := w.heap.size + 1) (by omega) (.int .i64 0) (.int .i64 0) (.slice none 0 0)
      clear hE
      go_wp2
      exact bodyPost_ret (results_cell_row_tmp rfl _ _ (w.heap.size + 1) _ #[.int .i64 0, .int .i64 0, .slice none 0 0] _ _ rfl HE.out Try.underlying50 rfl Try.sizeRel (.bool false) rfl) rfl
        ⟨fun h => absurd h hval, fun _ => ⟨rfl, B1⟩⟩

theorem reliefOf_yes (v : Value) (lo hi : Nat) (g : G) (w : World) (hv : RdM lo hi w v g) (hh : hi ≤ w.heap.size) (h : g.Valid) :
    Calls Try.prog 56 #[v] w (RelYes g w) :=
  (reliefOf_shape v lo hi g w hv hh ⟨h.1, h.2.1, fun r hr => (h.2.2 r hr).1⟩).mono fun _ _ hp => hp.1 h

theorem reliefOf_no (v : Value) (lo hi : Nat) (g : G) (w : World) (hv : RdM lo hi w v g) (hh : hi ≤ w.heap.size) (h : ¬ g.Valid) :
    Calls Try.prog 56 #[v] w (RelNo w) := by
  by_cases hs : g.Shape
  · exact (reliefOf_shape v lo hi g w hv hh hs).mono fun _ _ hp => hp.2 h
  · exact reliefOf_bad v lo hi g w hv hh hs

end Go.Proofs.Ytcfeckpbjdipeaa

/- The exact law of GridValid: its walk. -/
namespace Go.Proofs.Ytcfeckpbjdipeaa
open Go.RowKit
set_option linter.unusedVariables false

/-- what a law leaves: true, and all that was there -/
def LawPost (w : World) (e : Ending) (w' : World) : Prop := e = .returned (.bool true) ∧ Below w.heap.size w w'

theorem EqPost.below {b : Bool} {w w' : World} {e : Ending} (h : EqPost b w e w') : e = .returned (.bool b) ∧ Below w.heap.size w w' := by
  obtain ⟨h1, n, rfl⟩ := h
  exact ⟨h1, below_drewN (Below.refl _ _) n⟩

theorem RdM.keep {lo hi : Nat} {w w' : World} {v : Value} {g : G} (h : RdM lo hi w v g) (hb : Below hi w w') : RdM lo hi w' v g := h.same (SameIn.below hb (Nat.le_refl _))
theorem OwM.keep {lo hi : Nat} {w w' : World} {v : Value} {g : G} (h : OwM lo hi w v g) (hb : Below hi w w') : OwM lo hi w' v g := h.same (SameIn.below hb (Nat.le_refl _))

end Go.Proofs.Ytcfeckpbjdipeaa

/- Owned lists of numbers: marked, held, answered. -/
namespace Go.Proofs.Ytcfeckpbjdipeaa
open Go.RowKit
set_option linter.unusedVariables false

/-- a list of numbers in a block of its own -/
def OwI (lo hi : Nat) (w : World) (v : Value) (n : Nat) (Z : Nat → Int) : Prop :=
  (v = .slice none 0 0 ∧ n = 0) ∨ ∃ (b N cap : Nat) (F : Nat → Value), v = .slice (some ⟨b, 0, none⟩) n cap ∧ lo ≤ b ∧ b < hi ∧ w.rowIs b 3 N F ∧ n ≤ N ∧ n ≤ cap ∧ cap ≤ 9223372036854775807 ∧ (∀ i, i < n → F i = .int .i64 (Z i)) ∧
    ∀ i, i < n → -9223372036854775808 ≤ Z i ∧ Z i ≤ 9223372036854775807

theorem OwI.rd {lo hi : Nat} {w : World} {v : Value} {n : Nat} {Z : Nat → Int} (h : OwI lo hi w v n Z) : RdI lo hi w v n Z := by
  rcases h with ⟨rfl, rfl⟩ | ⟨b, N, cap, F, rfl, h1, h2, h3, h4, h5, h6, h7, h8⟩
  · exact ⟨none, 0, 0, 0, rfl, by omega, by omega, fun i hi => by omega, fun h => by omega, fun i hi => by omega⟩
  · exact ⟨_, cap, b, 0, rfl, h5, h6, h8, fun _ => ⟨rfl, h1, h2⟩, fun i hi => by rw [Nat.zero_add, h3.cell (by omega), h7 i hi]⟩

theorem OwI.same {lo hi : Nat} {w w' : World} {v : Value} {n : Nat} {Z : Nat → Int} (h : OwI lo hi w v n Z) (hs : SameIn lo hi w w') : OwI lo hi w' v n Z := by
  rcases h with h | ⟨b, N, cap, F, h0, h1, h2, h3, h4⟩
  · exact Or.inl h
  · exact Or.inr ⟨b, N, cap, F, h0, h1, h2, h3.of_block (hs b h1 h2), h4⟩

theorem OwI.none (lo hi : Nat) (w : World) (Z : Nat → Int) : OwI lo hi w (.slice none 0 0) 0 Z := Or.inl ⟨rfl, rfl⟩

def MkLPost (lo hi : Nat) (v : Value) (n : Nat) (k : Int) (w : World) (e : Ending) (w' : World) : Prop :=
  e = .returned (.int .i64 (k + n)) ∧ OwI lo hi w' v n (fun i => k + i) ∧ Chg lo hi w w' ∧ w'.heap.size = w.heap.size

/-- a list and a bool to read, and one of its own -/
def LsPost (b : Bool) (n : Nat) (Z : Nat → Int) (w : World) (e : Ending) (w' : World) : Prop :=
  ∃ v, e = .returned (.tuple #[v, .bool b]) ∧ (∃ a l c, v = .slice a l c) ∧ RdI w.heap.size w'.heap.size w' v n Z ∧ Below w.heap.size w w'
def LgPost (b : Bool) (n : Nat) (Z : Nat → Int) (w : World) (e : Ending) (w' : World) : Prop :=
  ∃ v, e = .returned (.tuple #[v, .bool b]) ∧ (∃ a l c, v = .slice a l c) ∧ OwI w.heap.size w'.heap.size w' v n Z ∧ Below w.heap.size w w'
/-- the same without a bool -/
def LsPost1 (n : Nat) (Z : Nat → Int) (w : World) (e : Ending) (w' : World) : Prop :=
  ∃ v, e = .returned v ∧ (∃ a l c, v = .slice a l c) ∧ RdI w.heap.size w'.heap.size w' v n Z ∧ Below w.heap.size w w'
def LgPost1 (n : Nat) (Z : Nat → Int) (w : World) (e : Ending) (w' : World) : Prop :=
  ∃ v, e = .returned v ∧ (∃ a l c, v = .slice a l c) ∧ OwI w.heap.size w'.heap.size w' v n Z ∧ Below w.heap.size w w'

end Go.Proofs.Ytcfeckpbjdipeaa
