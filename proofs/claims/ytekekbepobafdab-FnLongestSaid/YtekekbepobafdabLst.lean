/- Owned lists of numbers: marked, held, answered. -/
import Derived.Test.YtekekbepobafdabLawV
namespace Go.Proofs.Ytekekbepobafdab
open Go.RowKit
set_option linter.unusedVariables false

/-- a list of numbers in a block of its own -/
def OwI (lo hi : Nat) (w : World) (v : Value) (n : Nat) (Z : Nat → Int) : Prop :=
  (v = .slice none 0 0 ∧ n = 0) ∨ ∃ (b N cap : Nat) (F : Nat → Value), v = .slice (some ⟨b, 0, none⟩) n cap ∧ lo ≤ b ∧ b < hi ∧ w.rowIs b 3 N F ∧ n ≤ N ∧ n ≤ cap ∧ cap ≤ 9223372036854775807 ∧ (∀ i, i < n → F i = .int .i64 (Z i)) ∧
    ∀ i, i < n → -9223372036854775808 ≤ Z i ∧ Z i ≤ 9223372036854775807

theorem OwI.rd {lo hi : Nat} {w : World} {v : Value} {n : Nat} {Z : Nat → Int} (h : OwI lo hi w v n Z) : RdI lo hi w v n Z := by
  rcases h with ⟨rfl, rfl⟩ | ⟨b, N, cap, F, rfl, h1, h2, h3, h4, h5, h6, h7, h8⟩
  · exact ⟨none, 0, 0, 0, rfl, by omega, by omega, fun i hi => by omega, fun h => by omega, fun i hi => by omega⟩
  · exact ⟨_, cap, b, 0, rfl, h5, h6, h8, fun _ => ⟨rfl, h1, h2⟩, fun i hi => by rw [Nat.zero_add, h3.cell (by omega), h7 i hi]⟩

theorem OwI.same {lo hi : Nat} {w w' : World} {v : Value} {n : Nat} {Z : Nat → Int} (h : OwI lo hi w v n Z) (hs : SameIn lo hi w w') : OwI lo hi w' v n Z := by
  rcases h with h | ⟨b, N, cap, F, h0, h1, h2, h3, h4⟩
  · exact Or.inl h
  · exact Or.inr ⟨b, N, cap, F, h0, h1, h2, h3.of_block (hs b h1 h2), h4⟩

theorem OwI.none (lo hi : Nat) (w : World) (Z : Nat → Int) : OwI lo hi w (.slice none 0 0) 0 Z := Or.inl ⟨rfl, rfl⟩

def MkLPost (lo hi : Nat) (v : Value) (n : Nat) (k : Int) (w : World) (e : Ending) (w' : World) : Prop :=
  e = .returned (.int .i64 (k + n)) ∧ OwI lo hi w' v n (fun i => k + i) ∧ Chg lo hi w w' ∧ w'.heap.size = w.heap.size

/-- a list and a bool to read, and one of its own -/
def LsPost (b : Bool) (n : Nat) (Z : Nat → Int) (w : World) (e : Ending) (w' : World) : Prop :=
  ∃ v, e = .returned (.tuple #[v, .bool b]) ∧ (∃ a l c, v = .slice a l c) ∧ RdI w.heap.size w'.heap.size w' v n Z ∧ Below w.heap.size w w'
def LgPost (b : Bool) (n : Nat) (Z : Nat → Int) (w : World) (e : Ending) (w' : World) : Prop :=
  ∃ v, e = .returned (.tuple #[v, .bool b]) ∧ (∃ a l c, v = .slice a l c) ∧ OwI w.heap.size w'.heap.size w' v n Z ∧ Below w.heap.size w w'
/-- the same without a bool -/
def LsPost1 (n : Nat) (Z : Nat → Int) (w : World) (e : Ending) (w' : World) : Prop :=
  ∃ v, e = .returned v ∧ (∃ a l c, v = .slice a l c) ∧ RdI w.heap.size w'.heap.size w' v n Z ∧ Below w.heap.size w w'
def LgPost1 (n : Nat) (Z : Nat → Int) (w : World) (e : Ending) (w' : World) : Prop :=
  ∃ v, e = .returned v ∧ (∃ a l c, v = .slice a l c) ∧ OwI w.heap.size w'.heap.size w' v n Z ∧ Below w.heap.size w w'

end Go.Proofs.Ytekekbepobafdab
