/- Labels: a list of labels as an argument; its copies, comparisons and marks. -/
import Derived.Test.YthelaffjpmcdbaaM1
namespace Go.Proofs.Ythelaffjpmcdbaa
open Go.RowKit
set_option linter.unusedVariables false

/-- a list of labels in memory: four numbers each -/
def RdT (lo hi : Nat) (w : World) (v : Value) (n : Nat) (Z : Nat → Int) : Prop :=
  ∃ (ao : Option Addr) (cap b off : Nat), v = .slice ao n cap ∧ n ≤ cap ∧ cap ≤ 9223372036854775807 ∧ (∀ j, j < n * 4 → -9223372036854775808 ≤ Z j ∧ Z j ≤ 9223372036854775807) ∧
    (0 < n → ao = some ⟨b, off, none⟩ ∧ lo ≤ b ∧ b < hi) ∧ ∀ j, j < n * 4 → w.cell? ⟨b, off + j, none⟩ = some (.int .i64 (Z j))

theorem RdT.same {lo hi : Nat} {w w' : World} {v : Value} {n : Nat} {Z : Nat → Int} (h : RdT lo hi w v n Z) (hs : SameIn lo hi w w') : RdT lo hi w' v n Z := by
  obtain ⟨ao, cap, b, off, h1, h2, h3, h4, h5, h6⟩ := h
  refine ⟨ao, cap, b, off, h1, h2, h3, h4, h5, fun i hi' => ?_⟩
  have h0 : 0 < n := by omega
  exact (World.cell?_of_block (a := ⟨b, off + i, none⟩) (hs b (h5 h0).2.1 (h5 h0).2.2)).trans (h6 i hi')
theorem RdT.mono {lo hi lo' hi' : Nat} {w : World} {v : Value} {n : Nat} {Z : Nat → Int} (h : RdT lo hi w v n Z) (h1 : lo' ≤ lo) (h2 : hi ≤ hi') : RdT lo' hi' w v n Z := by
  obtain ⟨ao, cap, b, off, a1, a2, a3, a4, a5, a6⟩ := h
  exact ⟨ao, cap, b, off, a1, a2, a3, a4, fun h0 => ⟨(a5 h0).1, Nat.le_trans h1 (a5 h0).2.1, Nat.lt_of_lt_of_le (a5 h0).2.2 h2⟩, a6⟩
theorem RdT.congr {lo hi : Nat} {w : World} {v : Value} {n : Nat} {Z Z' : Nat → Int} (h : RdT lo hi w v n Z) (e : ∀ j, j < n * 4 → Z j = Z' j) : RdT lo hi w v n Z' := by
  obtain ⟨ao, cap, b, off, a1, a2, a3, a4, a5, a6⟩ := h
  exact ⟨ao, cap, b, off, a1, a2, a3, fun i hi => by rw [← e i hi]; exact a4 i hi, a5, fun i hi => by rw [← e i hi]; exact a6 i hi⟩
theorem RdT.shape {lo hi : Nat} {w : World} {v : Value} {n : Nat} {Z : Nat → Int} (h : RdT lo hi w v n Z) : ∃ a c, v = .slice a n c := by
  obtain ⟨ao, cap, b, off, h1, h2, h3, h4, h5, h6⟩ := h
  exact ⟨_, _, h1⟩
theorem RdT.range {lo hi : Nat} {w : World} {v : Value} {n : Nat} {Z : Nat → Int} (h : RdT lo hi w v n Z) : ∀ j, j < n * 4 → -9223372036854775808 ≤ Z j ∧ Z j ≤ 9223372036854775807 := by
  obtain ⟨ao, cap, b, off, h1, h2, h3, h4, h5, h6⟩ := h
  exact h4

/-- a label's value -/
def lbV (x y a g : Int) : Value := .agg #[.int .i64 x, .int .i64 y, .int .i64 a, .int .i64 g]
def LbPost (x y a g : Int) (w : World) (e : Ending) (w' : World) : Prop := e = .returned (.agg #[.int .i64 x, .int .i64 y, .int .i64 a, .int .i64 g]) ∧ Below w.heap.size w w'

theorem four_cells (f g : Nat → Value) (k j : Nat) :
    (if j = k * 4 + 3 then f (k * 4 + 3) else if j = k * 4 + 2 then f (k * 4 + 2) else if j = k * 4 + 1 then f (k * 4 + 1) else if j = k * 4 then f (k * 4) else if j < k * 4 then f j else g j) = if j < (k + 1) * 4 then f j else g j := by
  by_cases h3 : j = k * 4 + 3
  · subst h3; rw [if_pos rfl, if_pos (by omega)]
  rw [if_neg h3]
  by_cases h2 : j = k * 4 + 2
  · subst h2; rw [if_pos rfl, if_pos (by omega)]
  rw [if_neg h2]
  by_cases h1 : j = k * 4 + 1
  · subst h1; rw [if_pos rfl, if_pos (by omega)]
  rw [if_neg h1]
  by_cases h0 : j = k * 4
  · subst h0; rw [if_pos rfl, if_pos (by omega)]
  rw [if_neg h0]
  by_cases hl : j < k * 4
  · rw [if_pos hl, if_pos (by omega)]
  · rw [if_neg hl, if_neg (by omega)]

theorem four_cells' (f g : Nat → Value) (k j : Nat) (v0 v1 v2 v3 : Value) (h0 : v0 = f (k * 4)) (h1 : v1 = f (k * 4 + 1)) (h2 : v2 = f (k * 4 + 2)) (h3 : v3 = f (k * 4 + 3)) :
    (if j = k * 4 + 3 then v3 else if j = k * 4 + 2 then v2 else if j = k * 4 + 1 then v1 else if j = k * 4 then v0 else if j < k * 4 then f j else g j) = if j < (k + 1) * 4 then f j else g j := by
  subst h0 h1 h2 h3
  exact four_cells f g k j

theorem Try.sizeLb : (Try.prog.info? 28).map (·.size) = some 4 := by kernel_rfl
theorem Try.infoLb : (Try.prog.info? 28).map (fun i => (i.zero, i.size, i.bytes)) = some (some (.agg #[.int .i64 0, .int .i64 0, .int .i64 0, .int .i64 0]), 4, 32) := by kernel_rfl

theorem run_make_lb (n : Nat) (hn : n ≤ 1048576) (w : World) :
    (Instr.makeSlice 23 (.int .i64 (n : Int)) (.int .i64 (n : Int))).run Try.prog w = .ok (.slice (some ⟨w.heap.size, 0, none⟩) n n) (w.alloc (.cells (madeCells #[.int .i64 0, .int .i64 0, .int .i64 0, .int .i64 0] (n * 4)) 28)) := by
  obtain ⟨i, hi, hzz⟩ := Option.map_eq_some_iff.1 Try.infoLb
  simp only [Prod.mk.injEq] at hzz
  obtain ⟨hz, hs, hb⟩ := hzz
  have h := run_make (P := Try.prog) w 23 28 i _ Try.underlying23 hi hz .i64 .i64 n n (by omega) (Int.le_refl _) (by rw [hb]; omega) (by omega)
  rw [hs] at h
  simpa [Value.cells] using h
theorem madeLb_at (n : Nat) : ∀ j, j < n * 4 → (madeCells #[.int .i64 0, .int .i64 0, .int .i64 0, .int .i64 0] (n * 4))[j]? = some (.int .i64 0) := by
  intro j hj
  have h4 : j % 4 = 0 ∨ j % 4 = 1 ∨ j % 4 = 2 ∨ j % 4 = 3 := by omega
  simp only [madeCells]
  rcases h4 with h | h | h | h <;> simp [h, hj]
theorem rowIs_madeLb (w : World) (n : Nat) : (w.alloc (.cells (madeCells #[.int .i64 0, .int .i64 0, .int .i64 0, .int .i64 0] (n * 4)) 28)).rowIs w.heap.size 28 (n * 4) (fun _ => .int .i64 0) := by
  have hs : (madeCells #[.int .i64 0, .int .i64 0, .int .i64 0, .int .i64 0] (n * 4)).size = n * 4 := size_madeCells _ _
  have h := World.rowIs_alloc w (madeCells #[.int .i64 0, .int .i64 0, .int .i64 0, .int .i64 0] (n * 4)) 28 (fun _ => .int .i64 0) (fun i hi => madeLb_at n i (by omega))
  rwa [hs] at h

/-- a list of labels in a block of its own -/
def OwT (lo hi : Nat) (w : World) (v : Value) (n : Nat) (Z : Nat → Int) : Prop :=
  (v = .slice none 0 0 ∧ n = 0) ∨ ∃ (b N cap : Nat) (F : Nat → Value), v = .slice (some ⟨b, 0, none⟩) n cap ∧ lo ≤ b ∧ b < hi ∧ w.rowIs b 28 N F ∧ n * 4 ≤ N ∧ n ≤ cap ∧ cap ≤ 9223372036854775807 ∧ (∀ i, i < n * 4 → F i = .int .i64 (Z i)) ∧
    ∀ i, i < n * 4 → -9223372036854775808 ≤ Z i ∧ Z i ≤ 9223372036854775807

theorem OwT.rd {lo hi : Nat} {w : World} {v : Value} {n : Nat} {Z : Nat → Int} (h : OwT lo hi w v n Z) : RdT lo hi w v n Z := by
  rcases h with ⟨rfl, rfl⟩ | ⟨b, N, cap, F, rfl, h1, h2, h3, h4, h5, h6, h7, h8⟩
  · exact ⟨none, 0, 0, 0, rfl, by omega, by omega, fun i hi => by omega, fun h => by omega, fun i hi => by omega⟩
  · exact ⟨_, cap, b, 0, rfl, h5, h6, h8, fun _ => ⟨rfl, h1, h2⟩, fun i hi => by rw [Nat.zero_add, h3.cell (by omega), h7 i hi]⟩
theorem OwT.same {lo hi : Nat} {w w' : World} {v : Value} {n : Nat} {Z : Nat → Int} (h : OwT lo hi w v n Z) (hs : SameIn lo hi w w') : OwT lo hi w' v n Z := by
  rcases h with h | ⟨b, N, cap, F, h0, h1, h2, h3, h4⟩
  · exact Or.inl h
  · exact Or.inr ⟨b, N, cap, F, h0, h1, h2, h3.of_block (hs b h1 h2), h4⟩
theorem OwT.none (lo hi : Nat) (w : World) (Z : Nat → Int) : OwT lo hi w (.slice none 0 0) 0 Z := Or.inl ⟨rfl, rfl⟩

def MtPost (lo hi : Nat) (v : Value) (n : Nat) (k : Int) (w : World) (e : Ending) (w' : World) : Prop :=
  e = .returned (.int .i64 (k + n * 4)) ∧ OwT lo hi w' v n (fun i => k + i) ∧ Chg lo hi w w' ∧ w'.heap.size = w.heap.size

theorem setCell_size (w : World) (a : Addr) (u : Value) : (w.setCell a u).heap.size = w.heap.size := by simp [World.setCell]

def LtPost (n : Nat) (Z : Nat → Int) (w : World) (e : Ending) (w' : World) : Prop :=
  ∃ v, e = .returned v ∧ (∃ a l c, v = .slice a l c) ∧ OwT w.heap.size w'.heap.size w' v n Z ∧ Below w.heap.size w w'
/-- labels and a bool to read, and some of its own -/
def TsPost (b : Bool) (n : Nat) (Z : Nat → Int) (w : World) (e : Ending) (w' : World) : Prop :=
  ∃ v, e = .returned (.tuple #[v, .bool b]) ∧ (∃ a l c, v = .slice a l c) ∧ RdT w.heap.size w'.heap.size w' v n Z ∧ Below w.heap.size w w'
def TgPost (b : Bool) (n : Nat) (Z : Nat → Int) (w : World) (e : Ending) (w' : World) : Prop :=
  ∃ v, e = .returned (.tuple #[v, .bool b]) ∧ (∃ a l c, v = .slice a l c) ∧ OwT w.heap.size w'.heap.size w' v n Z ∧ Below w.heap.size w w'
/-- a box with a label -/
def Bx (lo hi : Nat) (t : TypeId) (x y a g : Int) (w : World) : Prop := lo < hi ∧ w.heap[lo]? = some (.cells #[.int .i64 x, .int .i64 y, .int .i64 a, .int .i64 g] t (0, 0))
theorem Bx.same {lo hi : Nat} {t : TypeId} {x y a g : Int} {w w' : World} (h : Bx lo hi t x y a g w) (hs : SameIn lo hi w w') : Bx lo hi t x y a g w' := ⟨h.1, (hs lo (Nat.le_refl _) h.1).trans h.2⟩

end Go.Proofs.Ythelaffjpmcdbaa
