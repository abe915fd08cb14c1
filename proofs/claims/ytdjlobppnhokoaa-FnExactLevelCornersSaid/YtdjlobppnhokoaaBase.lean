/- The words of this family: what it means that a value reads as a list of numbers or as a grid, and how such readings are carried over. No program is named here. -/
import Derived.WalkKit
import Derived.WalkSpells
import Derived.WalkLawsBesides
import Derived.Deep.OwnRows
import Derived.Deep.QuietTactic
import Derived.BigQuiet
import Derived.Lib.Hide
import Derived.Deep.LoopGhost
import Derived.Deep.DeepCutAuto
import Derived.Deep.RegionHeld3
namespace Go.Proofs.Ytdjlobppnhokoaa
open Go.RowKit

/-- a grid: rows, their lengths, their numbers -/
structure G where
  n : Nat
  len : Nat → Nat
  z : Nat → Nat → Int

def G.Eqv (a b : G) : Prop := a.n = b.n ∧ ∀ r, r < a.n → a.len r = b.len r ∧ ∀ c, c < a.len r → a.z r c = b.z r c

/-- the value reads as n numbers, in blocks from lo on, below hi -/
def RdI (lo hi : Nat) (w : World) (v : Value) (n : Nat) (Z : Nat → Int) : Prop :=
  ∃ (ao : Option Addr) (cap b off : Nat), v = .slice ao n cap ∧ n ≤ cap ∧ cap ≤ 9223372036854775807 ∧ (∀ i, i < n → -9223372036854775808 ≤ Z i ∧ Z i ≤ 9223372036854775807) ∧
    (0 < n → ao = some ⟨b, off, none⟩ ∧ lo ≤ b ∧ b < hi) ∧ ∀ i, i < n → w.cell? ⟨b, off + i, none⟩ = some (.int .i64 (Z i))

def RdM (lo hi : Nat) (w : World) (v : Value) (g : G) : Prop :=
  ∃ (ao : Option Addr) (cap b off : Nat) (Ao : Nat → Option Addr) (Cp : Nat → Nat), v = .slice ao g.n cap ∧ g.n ≤ cap ∧ cap ≤ 9223372036854775807 ∧ (0 < g.n → ao = some ⟨b, off, none⟩ ∧ lo ≤ b ∧ b < hi) ∧
    (∀ r, r < g.n → w.cell? ⟨b, off + r, none⟩ = some (.slice (Ao r) (g.len r) (Cp r))) ∧ ∀ r, r < g.n → RdI lo hi w (.slice (Ao r) (g.len r) (Cp r)) (g.len r) (g.z r)

/-- the same blocks between lo and hi -/
def SameIn (lo hi : Nat) (w w' : World) : Prop := ∀ k, lo ≤ k → k < hi → w'.heap[k]? = w.heap[k]?

theorem RdI.same {lo hi : Nat} {w w' : World} {v : Value} {n : Nat} {Z : Nat → Int} (h : RdI lo hi w v n Z) (hs : SameIn lo hi w w') : RdI lo hi w' v n Z := by
  obtain ⟨ao, cap, b, off, h1, h2, h3, h4, h5, h6⟩ := h
  refine ⟨ao, cap, b, off, h1, h2, h3, h4, h5, fun i hi' => ?_⟩
  have h0 : 0 < n := by omega
  exact (World.cell?_of_block (a := ⟨b, off + i, none⟩) (hs b (h5 h0).2.1 (h5 h0).2.2)).trans (h6 i hi')

theorem RdI.mono {lo hi lo' hi' : Nat} {w : World} {v : Value} {n : Nat} {Z : Nat → Int} (h : RdI lo hi w v n Z) (h1 : lo' ≤ lo) (h2 : hi ≤ hi') : RdI lo' hi' w v n Z := by
  obtain ⟨ao, cap, b, off, a1, a2, a3, a4, a5, a6⟩ := h
  exact ⟨ao, cap, b, off, a1, a2, a3, a4, fun h0 => ⟨(a5 h0).1, Nat.le_trans h1 (a5 h0).2.1, Nat.lt_of_lt_of_le (a5 h0).2.2 h2⟩, a6⟩

theorem RdI.congr {lo hi : Nat} {w : World} {v : Value} {n : Nat} {Z Z' : Nat → Int} (h : RdI lo hi w v n Z) (e : ∀ i, i < n → Z i = Z' i) : RdI lo hi w v n Z' := by
  obtain ⟨ao, cap, b, off, a1, a2, a3, a4, a5, a6⟩ := h
  exact ⟨ao, cap, b, off, a1, a2, a3, fun i hi => by rw [← e i hi]; exact a4 i hi, a5, fun i hi => by rw [← e i hi]; exact a6 i hi⟩

theorem RdM.same {lo hi : Nat} {w w' : World} {v : Value} {g : G} (h : RdM lo hi w v g) (hs : SameIn lo hi w w') : RdM lo hi w' v g := by
  obtain ⟨ao, cap, b, off, Ao, Cp, h1, h2, h3, h5, h6, h7⟩ := h
  refine ⟨ao, cap, b, off, Ao, Cp, h1, h2, h3, h5, fun i hi' => ?_, fun r hr => (h7 r hr).same hs⟩
  have h0 : 0 < g.n := by omega
  exact (World.cell?_of_block (a := ⟨b, off + i, none⟩) (hs b (h5 h0).2.1 (h5 h0).2.2)).trans (h6 i hi')

theorem RdM.mono {lo hi lo' hi' : Nat} {w : World} {v : Value} {g : G} (h : RdM lo hi w v g) (h1 : lo' ≤ lo) (h2 : hi ≤ hi') : RdM lo' hi' w v g := by
  obtain ⟨ao, cap, b, off, Ao, Cp, a1, a2, a3, a5, a6, a7⟩ := h
  exact ⟨ao, cap, b, off, Ao, Cp, a1, a2, a3, fun h0 => ⟨(a5 h0).1, Nat.le_trans h1 (a5 h0).2.1, Nat.lt_of_lt_of_le (a5 h0).2.2 h2⟩, a6, fun r hr => (a7 r hr).mono h1 h2⟩

theorem RdM.congr {lo hi : Nat} {w : World} {v : Value} {g g' : G} (h : RdM lo hi w v g) (e : G.Eqv g g') : RdM lo hi w v g' := by
  obtain ⟨ao, cap, b, off, Ao, Cp, a1, a2, a3, a5, a6, a7⟩ := h
  obtain ⟨e1, e2⟩ := e
  refine ⟨ao, cap, b, off, Ao, Cp, by rw [← e1]; exact a1, by rw [← e1]; exact a2, a3, fun h0 => a5 (by omega), fun r hr => ?_, fun r hr => ?_⟩
  · rw [← (e2 r (by omega)).1]; exact a6 r (by omega)
  · rw [← (e2 r (by omega)).1]; exact (a7 r (by omega)).congr (e2 r (by omega)).2

theorem SameIn.refl (lo hi : Nat) (w : World) : SameIn lo hi w w := fun _ _ _ => rfl
theorem SameIn.trans {lo hi : Nat} {a b c : World} (h : SameIn lo hi a b) (k : SameIn lo hi b c) : SameIn lo hi a c := fun i h1 h2 => (k i h1 h2).trans (h i h1 h2)
theorem SameIn.below {lo hi B : Nat} {a b : World} (h : Below B a b) (hh : hi ≤ B) : SameIn lo hi a b := fun i _ h2 => h.block i (by omega)

theorem below_drewN {B : Nat} {a w : World} (h : Below B a w) (n : Nat) : Below B a (w.drewN n) := ⟨h.os, h.tape, h.output, h.size, h.block⟩

/-- the value is a grid whose rows are rows of their own, which can be written -/
def OwM (lo hi : Nat) (w : World) (v : Value) (g : G) : Prop :=
  (v = .slice none 0 0 ∧ g.n = 0) ∨ ∃ (b : Nat) (Gb : Nat → Nat), v = .slice (some ⟨b, 0, none⟩) g.n g.n ∧ g.n ≤ 9223372036854775807 ∧ lo ≤ b ∧ b < hi ∧ w.rowIs b 27 g.n (fun r => .slice (some ⟨Gb r, 0, none⟩) (g.len r) (g.len r)) ∧
    (∀ r, r < g.n → lo ≤ Gb r ∧ Gb r < hi ∧ Gb r ≠ b ∧ g.len r ≤ 9223372036854775807 ∧ w.rowIs (Gb r) 3 (g.len r) (fun c => .int .i64 (g.z r c)) ∧ ∀ c, c < g.len r → -9223372036854775808 ≤ g.z r c ∧ g.z r c ≤ 9223372036854775807) ∧
    ∀ r s, r < g.n → s < g.n → Gb r = Gb s → r = s

theorem OwM.rd {lo hi : Nat} {w : World} {v : Value} {g : G} (h : OwM lo hi w v g) : RdM lo hi w v g := by
  rcases h with ⟨rfl, h0⟩ | ⟨b, Gb, rfl, hn, h1, h2, h3, h4, _⟩
  · exact ⟨none, 0, 0, 0, fun _ => none, fun _ => 0, by rw [h0], by omega, by omega, fun h => by omega, fun r hr => by omega, fun r hr => by omega⟩
  · refine ⟨_, g.n, b, 0, fun r => some ⟨Gb r, 0, none⟩, g.len, rfl, Nat.le_refl _, hn, fun _ => ⟨rfl, h1, h2⟩, fun r hr => by simpa using h3.cell hr, fun r hr => ?_⟩
    obtain ⟨a1, a2, a3, a4, a5, a6⟩ := h4 r hr
    exact ⟨_, g.len r, Gb r, 0, rfl, Nat.le_refl _, a4, a6, fun _ => ⟨rfl, a1, a2⟩, fun c hc => by simpa using a5.cell hc⟩

theorem OwM.same {lo hi : Nat} {w w' : World} {v : Value} {g : G} (h : OwM lo hi w v g) (hs : SameIn lo hi w w') : OwM lo hi w' v g := by
  rcases h with h | ⟨b, Gb, h0, hn, h1, h2, h3, h4, h5⟩
  · exact Or.inl h
  · exact Or.inr ⟨b, Gb, h0, hn, h1, h2, h3.of_block (hs b h1 h2), fun r hr => by
      obtain ⟨a1, a2, a3, a4, a5, a6⟩ := h4 r hr
      exact ⟨a1, a2, a3, a4, a5.of_block (hs _ a1 a2), a6⟩, h5⟩

/-- what a call that writes only between lo and hi leaves -/
structure Chg (lo hi : Nat) (w w' : World) : Prop where
  os : w'.os = w.os
  tape : w'.tape = w.tape
  output : w'.output = w.output
  size : w.heap.size ≤ w'.heap.size
  block : ∀ k, k < w.heap.size → ¬ (lo ≤ k ∧ k < hi) → w'.heap[k]? = w.heap[k]?

theorem Chg.refl (lo hi : Nat) (w : World) : Chg lo hi w w := ⟨rfl, rfl, rfl, Nat.le_refl _, fun _ _ _ => rfl⟩
theorem Chg.trans {lo hi : Nat} {a b c : World} (h : Chg lo hi a b) (k : Chg lo hi b c) : Chg lo hi a c :=
  ⟨k.os.trans h.os, k.tape.trans h.tape, k.output.trans h.output, Nat.le_trans h.size k.size, fun i h1 h2 => (k.block i (Nat.lt_of_lt_of_le h1 h.size) h2).trans (h.block i h1 h2)⟩
theorem Chg.setCell {lo hi : Nat} {a w : World} (h : Chg lo hi a w) {p : Addr} (h1 : lo ≤ p.block) (h2 : p.block < hi) (u : Value) : Chg lo hi a (w.setCell p u) :=
  h.trans ⟨rfl, rfl, rfl, by simp [World.setCell], fun k _ hn => Below.heap_setCell _ _ _ _ (by intro e; subst e; exact hn ⟨h1, h2⟩)⟩
theorem Chg.below {lo hi B : Nat} {a b : World} (h : Chg lo hi a b) (hB : B ≤ lo) (hs : B ≤ a.heap.size) : Below B a b :=
  ⟨h.os, h.tape, h.output, h.size, fun k hk => h.block k (by omega) (by omega)⟩
theorem Chg.mono {lo hi lo' hi' : Nat} {a b : World} (h : Chg lo hi a b) (h1 : lo' ≤ lo) (h2 : hi ≤ hi') : Chg lo' hi' a b :=
  ⟨h.os, h.tape, h.output, h.size, fun k hk hn => h.block k hk (by omega)⟩
theorem Chg.sameIn {lo hi lo' hi' : Nat} {a b : World} (h : Chg lo hi a b) (hs : hi' ≤ a.heap.size) (hd : hi' ≤ lo ∨ hi ≤ lo') : SameIn lo' hi' a b :=
  fun k h1 h2 => h.block k (by omega) (by omega)

end Go.Proofs.Ytdjlobppnhokoaa
