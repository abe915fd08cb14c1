/- Land, shore, sides and corners: what is reckoned. -/
import Derived.Test.YtlbdglhippapnabM3
import Derived.Test.YtlbdglhippapnabM1
namespace Go.Proofs.Ytlbdglhippapnab
open Go.RowKit
set_option linter.unusedVariables false

def G.LvOk (g : G) (lv : Int) : Prop := g.Valid ∧ 0 ≤ lv ∧ lv ≤ 99

/-- how many of the first k cells are land -/
def landN (Z : Nat → Int) (lv : Int) : Nat → Nat
  | 0 => 0
  | k + 1 => landN Z lv k + (if lv ≤ Z k then 1 else 0)
theorem landN_yes {Z : Nat → Int} {lv : Int} {k : Nat} (h : lv ≤ Z k) : landN Z lv (k + 1) = landN Z lv k + 1 := by simp [landN, h]
theorem landN_no {Z : Nat → Int} {lv : Int} {k : Nat} (h : ¬ lv ≤ Z k) : landN Z lv (k + 1) = landN Z lv k := by simp [landN, h]
theorem landN_le (Z : Nat → Int) (lv : Int) : ∀ k, landN Z lv k ≤ k
  | 0 => by simp [landN]
  | k + 1 => by have := landN_le Z lv k; unfold landN; split <;> omega

/-- how many of a list of cells are land -/
def landL {M : Nat} (Z : Nat → Int) (lv : Int) : List (Ix M) → Nat
  | [] => 0
  | x :: l => (if lv ≤ Z x.1 then 1 else 0) + landL Z lv l
theorem landL_append {M : Nat} (Z : Nat → Int) (lv : Int) : ∀ a b : List (Ix M), landL Z lv (a ++ b) = landL Z lv a + landL Z lv b
  | [], b => by simp [landL]
  | x :: a, b => by simp only [List.cons_append, landL, landL_append Z lv a b]; omega
theorem landL_snoc {M : Nat} (Z : Nat → Int) (lv : Int) (a : List (Ix M)) (x : Ix M) : landL Z lv (a ++ [x]) = landL Z lv a + (if lv ≤ Z x.1 then 1 else 0) := by rw [landL_append]; simp [landL]
theorem landL_le {M : Nat} (Z : Nat → Int) (lv : Int) : ∀ a : List (Ix M), landL Z lv a ≤ a.length
  | [] => by simp [landL]
  | x :: a => by have := landL_le Z lv a; simp only [landL, List.length_cons]; split <;> omega

/-- land neighbors of cell k -/
def nbl (R C : Nat) (Z : Nat → Int) (lv : Int) (k : Nat) : Nat := if h : k < R * C then landL Z lv (near R C ⟨k, h⟩ 4) else 0
theorem nbl_at {R C : Nat} {Z : Nat → Int} {lv : Int} (i : Ix (R * C)) : nbl R C Z lv i.1 = landL Z lv (near R C i 4) := by unfold nbl; rw [dif_pos i.2]
theorem nbl_le (R C : Nat) (Z : Nat → Int) (lv : Int) (k : Nat) : nbl R C Z lv k ≤ 4 := by
  unfold nbl
  split
  · exact Nat.le_trans (landL_le Z lv _) (near_len R C _ 4)
  · omega

/-- the shore of the first k cells -/
def shoreN (R C : Nat) (Z : Nat → Int) (lv : Int) : Nat → Nat
  | 0 => 0
  | k + 1 => shoreN R C Z lv k + (if lv ≤ Z k then 4 - nbl R C Z lv k else 0)
theorem shoreN_no {R C : Nat} {Z : Nat → Int} {lv : Int} {k : Nat} (h : ¬ lv ≤ Z k) : shoreN R C Z lv (k + 1) = shoreN R C Z lv k := by simp [shoreN, h]
theorem shoreN_yes {R C : Nat} {Z : Nat → Int} {lv : Int} {k : Nat} (h : lv ≤ Z k) : ((shoreN R C Z lv (k + 1) : Nat) : Int) = shoreN R C Z lv k + 4 - nbl R C Z lv k := by
  have := nbl_le R C Z lv k
  simp only [shoreN, h, if_true]; omega
theorem shoreN_le (R C : Nat) (Z : Nat → Int) (lv : Int) : ∀ k, shoreN R C Z lv k ≤ 4 * k
  | 0 => by simp [shoreN]
  | k + 1 => by have := shoreN_le R C Z lv k; unfold shoreN; split <;> omega

/-- sides from cell i to later ones of a list -/
def sdL {M : Nat} (Z : Nat → Int) (lv : Int) (i : Ix M) : List (Ix M) → Nat
  | [] => 0
  | x :: l => (if i.1 < x.1 ∧ lv ≤ Z i.1 ∧ lv ≤ Z x.1 then 1 else 0) + sdL Z lv i l
theorem sdL_append {M : Nat} (Z : Nat → Int) (lv : Int) (i : Ix M) : ∀ a b : List (Ix M), sdL Z lv i (a ++ b) = sdL Z lv i a + sdL Z lv i b
  | [], b => by simp [sdL]
  | x :: a, b => by simp only [List.cons_append, sdL, sdL_append Z lv i a b]; omega
theorem sdL_snoc {M : Nat} (Z : Nat → Int) (lv : Int) (i : Ix M) (a : List (Ix M)) (x : Ix M) : sdL Z lv i (a ++ [x]) = sdL Z lv i a + (if i.1 < x.1 ∧ lv ≤ Z i.1 ∧ lv ≤ Z x.1 then 1 else 0) := by rw [sdL_append]; simp [sdL]
theorem sdL_le {M : Nat} (Z : Nat → Int) (lv : Int) (i : Ix M) : ∀ a : List (Ix M), sdL Z lv i a ≤ a.length
  | [] => by simp [sdL]
  | x :: a => by have := sdL_le Z lv i a; simp only [sdL, List.length_cons]; split <;> omega

def sdAt (R C : Nat) (Z : Nat → Int) (lv : Int) (k : Nat) : Nat := if h : k < R * C then sdL Z lv ⟨k, h⟩ (near R C ⟨k, h⟩ 4) else 0
theorem sdAt_at {R C : Nat} {Z : Nat → Int} {lv : Int} (i : Ix (R * C)) : sdAt R C Z lv i.1 = sdL Z lv i (near R C i 4) := by unfold sdAt; rw [dif_pos i.2]
theorem sdAt_le (R C : Nat) (Z : Nat → Int) (lv : Int) (k : Nat) : sdAt R C Z lv k ≤ 4 := by
  unfold sdAt
  split
  · exact Nat.le_trans (sdL_le Z lv _ _) (near_len R C _ 4)
  · omega
/-- the sides of the first k cells -/
def sidesN (R C : Nat) (Z : Nat → Int) (lv : Int) : Nat → Nat
  | 0 => 0
  | k + 1 => sidesN R C Z lv k + sdAt R C Z lv k
theorem sidesN_le (R C : Nat) (Z : Nat → Int) (lv : Int) : ∀ k, sidesN R C Z lv k ≤ 4 * k
  | 0 => by simp [sidesN]
  | k + 1 => by have := sidesN_le R C Z lv k; have := sdAt_le R C Z lv k; unfold sidesN; omega

/-- four land cells meet at the corner south and east of (r, c) -/
def CrOk (C : Nat) (Z : Nat → Int) (lv : Int) (r c : Nat) : Prop := lv ≤ Z (r * C + c) ∧ lv ≤ Z (r * C + (c + 1)) ∧ lv ≤ Z ((r + 1) * C + c) ∧ lv ≤ Z ((r + 1) * C + (c + 1))
instance (C : Nat) (Z : Nat → Int) (lv : Int) (r c : Nat) : Decidable (CrOk C Z lv r c) := by unfold CrOk; infer_instance
def crRow (C : Nat) (Z : Nat → Int) (lv : Int) (r : Nat) : Nat → Nat
  | 0 => 0
  | c + 1 => crRow C Z lv r c + (if CrOk C Z lv r c then 1 else 0)
theorem crRow_yes {C : Nat} {Z : Nat → Int} {lv : Int} {r c : Nat} (h : CrOk C Z lv r c) : crRow C Z lv r (c + 1) = crRow C Z lv r c + 1 := by simp [crRow, h]
theorem crRow_no {C : Nat} {Z : Nat → Int} {lv : Int} {r c : Nat} (h : ¬ CrOk C Z lv r c) : crRow C Z lv r (c + 1) = crRow C Z lv r c := by simp [crRow, h]
theorem crRow_le (C : Nat) (Z : Nat → Int) (lv : Int) (r : Nat) : ∀ c, crRow C Z lv r c ≤ c
  | 0 => by simp [crRow]
  | c + 1 => by have := crRow_le C Z lv r c; unfold crRow; split <;> omega
/-- the corners of the first r rows -/
def cornN (C : Nat) (Z : Nat → Int) (lv : Int) : Nat → Nat
  | 0 => 0
  | r + 1 => cornN C Z lv r + crRow C Z lv r (C - 1)
theorem cornN_le (C : Nat) (Z : Nat → Int) (lv : Int) : ∀ r, cornN C Z lv r ≤ r * C
  | 0 => by simp [cornN]
  | r + 1 => by have := cornN_le C Z lv r; have := crRow_le C Z lv r (C - 1); unfold cornN; rw [Nat.add_mul]; omega

open Classical in
noncomputable def G.ldV (g : G) (lv : Int) : Int := if g.LvOk lv then landN g.flat lv (g.n * g.len 0) else -1
open Classical in
noncomputable def G.shV (g : G) (lv : Int) : Int := if g.LvOk lv then shoreN g.n (g.len 0) g.flat lv (g.n * g.len 0) else -1
open Classical in
noncomputable def G.sdV (g : G) (lv : Int) : Int := if g.LvOk lv then sidesN g.n (g.len 0) g.flat lv (g.n * g.len 0) else -1
open Classical in
noncomputable def G.cnV (g : G) (lv : Int) : Int := if g.LvOk lv then cornN (g.len 0) g.flat lv (g.n - 1) else -1
open Classical in
noncomputable def G.euV (g : G) (lv : Int) : Int := if g.LvOk lv then (cornN (g.len 0) g.flat lv (g.n - 1) : Int) - sidesN g.n (g.len 0) g.flat lv (g.n * g.len 0) + landN g.flat lv (g.n * g.len 0) else -1000

theorem G.ldV_yes {g : G} {lv : Int} (h : g.LvOk lv) : g.ldV lv = landN g.flat lv (g.n * g.len 0) := by unfold G.ldV; rw [if_pos h]
theorem G.ldV_no {g : G} {lv : Int} (h : ¬ g.LvOk lv) : g.ldV lv = -1 := by unfold G.ldV; rw [if_neg h]
theorem G.shV_yes {g : G} {lv : Int} (h : g.LvOk lv) : g.shV lv = shoreN g.n (g.len 0) g.flat lv (g.n * g.len 0) := by unfold G.shV; rw [if_pos h]
theorem G.shV_no {g : G} {lv : Int} (h : ¬ g.LvOk lv) : g.shV lv = -1 := by unfold G.shV; rw [if_neg h]
theorem G.sdV_yes {g : G} {lv : Int} (h : g.LvOk lv) : g.sdV lv = sidesN g.n (g.len 0) g.flat lv (g.n * g.len 0) := by unfold G.sdV; rw [if_pos h]
theorem G.sdV_no {g : G} {lv : Int} (h : ¬ g.LvOk lv) : g.sdV lv = -1 := by unfold G.sdV; rw [if_neg h]
theorem G.cnV_yes {g : G} {lv : Int} (h : g.LvOk lv) : g.cnV lv = cornN (g.len 0) g.flat lv (g.n - 1) := by unfold G.cnV; rw [if_pos h]
theorem G.cnV_no {g : G} {lv : Int} (h : ¬ g.LvOk lv) : g.cnV lv = -1 := by unfold G.cnV; rw [if_neg h]
theorem G.euV_yes {g : G} {lv : Int} (h : g.LvOk lv) : g.euV lv = (cornN (g.len 0) g.flat lv (g.n - 1) : Int) - sidesN g.n (g.len 0) g.flat lv (g.n * g.len 0) + landN g.flat lv (g.n * g.len 0) := by unfold G.euV; rw [if_pos h]
theorem G.euV_no {g : G} {lv : Int} (h : ¬ g.LvOk lv) : g.euV lv = -1000 := by unfold G.euV; rw [if_neg h]

end Go.Proofs.Ytlbdglhippapnab
