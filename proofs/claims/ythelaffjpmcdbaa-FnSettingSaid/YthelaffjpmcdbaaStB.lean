/- The best settings in mathematics. -/
import Derived.Test.YthelaffjpmcdbaaStM
namespace Go.Proofs.Ythelaffjpmcdbaa
open Go.RowKit
set_option linter.unusedVariables false

/-- what a label counts -/
def ow (Z : Nat → Int) (b : Bool) (k : Nat) : Int := if b = true then Z (k * 4 + 3) else 1
noncomputable def bs1 (Z : Nat → Int) (k : Nat) (M : Nat → Int) (o c : Int) (r : (Nat → Int) → Int) : Nat → Int
  | 0 => c
  | s + 1 => if ftB Z M k (s : Int) = true then max (bs1 Z k M o c r s) (o + r (stp Z M k s)) else bs1 Z k M o c r s
/-- the greatest sum of the labels from k on (f of them) -/
noncomputable def bst (Z : Nat → Int) (b : Bool) : Nat → Nat → (Nat → Int) → Int
  | 0, _, _ => 0
  | f + 1, k, M => bs1 Z k M (ow Z b k) (bst Z b f (k + 1) M) (bst Z b f (k + 1)) 4
theorem bs1_yes {Z : Nat → Int} {k : Nat} {M : Nat → Int} {o c : Int} {r : (Nat → Int) → Int} {s : Nat} (h : Fit Z M k s) : bs1 Z k M o c r (s + 1) = max (bs1 Z k M o c r s) (o + r (stp Z M k s)) := by
  show (if ftB Z M k s = true then _ else _) = _; rw [if_pos (ftB_yes h)]
theorem bs1_no {Z : Nat → Int} {k : Nat} {M : Nat → Int} {o c : Int} {r : (Nat → Int) → Int} {s : Nat} (h : ¬ Fit Z M k s) : bs1 Z k M o c r (s + 1) = bs1 Z k M o c r s := by
  show (if ftB Z M k s = true then _ else _) = _; rw [if_neg (by rw [ftB_no h]; simp)]
theorem en1_yes {Z : Nat → Int} {k : Nat} {sd M : Nat → Int} {r : (Nat → Int) → (Nat → Int) → List (Nat → Int)} {s : Nat} (h : Fit Z M k s) : en1 Z k sd M r (s + 1) = en1 Z k sd M r s ++ r (upS sd k s) (stp Z M k s) := by
  show _ ++ (if ftB Z M k s = true then _ else _) = _; rw [if_pos (ftB_yes h)]
theorem en1_no {Z : Nat → Int} {k : Nat} {sd M : Nat → Int} {r : (Nat → Int) → (Nat → Int) → List (Nat → Int)} {s : Nat} (h : ¬ Fit Z M k s) : en1 Z k sd M r (s + 1) = en1 Z k sd M r s := by
  show _ ++ (if ftB Z M k s = true then _ else _) = _; rw [if_neg (by rw [ftB_no h]; simp), List.append_nil]
theorem bs1_range {Z : Nat → Int} {k : Nat} {M : Nat → Int} {o c : Int} {r : (Nat → Int) → Int} {B : Int} (ho : 0 ≤ o ∧ o ≤ 9) (hc : 0 ≤ c ∧ c ≤ B) (hr : ∀ M, 0 ≤ r M ∧ r M ≤ B) : ∀ s, c ≤ bs1 Z k M o c r s ∧ bs1 Z k M o c r s ≤ B + 9 := by
  intro s
  induction s with
  | zero => simp only [bs1]; omega
  | succ s ih =>
    have := hr (stp Z M k s)
    simp only [bs1]
    split <;> omega
theorem bst_range {Z : Nat → Int} {b : Bool} {n : Nat} (h : LsOk n Z) : ∀ f k M, k + f = n → 0 ≤ bst Z b f k M ∧ bst Z b f k M ≤ 9 * f := by
  intro f
  induction f with
  | zero => intro k M _; simp [bst]
  | succ f ih =>
    intro k M hk
    have ho : 0 ≤ ow Z b k ∧ ow Z b k ≤ 9 := by
      have := (h.2 k (by omega)).1.2.2.2
      unfold ow; split <;> omega
    have h1 := ih (k + 1) M (by omega)
    have h2 := bs1_range (Z := Z) (k := k) (M := M) (r := bst Z b f (k + 1)) ho h1 (fun M => ih (k + 1) M (by omega)) 4
    simp only [bst]
    omega

/-- the greatest value in a list -/
def mxF (F : (Nat → Int) → Int) (m : Int) (L : List (Nat → Int)) : Int := L.foldl (fun a x => max a (F x)) m
theorem mxF_app (F : (Nat → Int) → Int) (m : Int) (L K : List (Nat → Int)) : mxF F m (L ++ K) = mxF F (mxF F m L) K := by simp [mxF, List.foldl_append]
theorem mxF_one (F : (Nat → Int) → Int) (m : Int) (x : Nat → Int) : mxF F m [x] = max m (F x) := rfl

theorem mx1 {Z : Nat → Int} {F : (Nat → Int) → Int} {k : Nat} {sd M : Nat → Int} {o c : Int} {r : (Nat → Int) → (Nat → Int) → List (Nat → Int)} {t : (Nat → Int) → Int} (hF : ∀ s : Nat, F (upS sd k s) = F sd + o) (hr : ∀ (s : Nat) m M, mxF F m (r (upS sd k s) M) = max m (F (upS sd k s) + t M)) (m : Int) :
    ∀ s, max (mxF F m (en1 Z k sd M r s)) (F sd + c) = max m (F sd + bs1 Z k M o c t s) := by
  intro s
  induction s with
  | zero => rfl
  | succ s ih =>
    by_cases h : Fit Z M k s
    · rw [en1_yes h, bs1_yes h, mxF_app, hr, hF]; omega
    · rw [en1_no h, bs1_no h]; exact ih
theorem mx_en {Z : Nat → Int} {b : Bool} {n : Nat} {F : (Nat → Int) → Int} (hF : ∀ sd k (s : Nat), k < n → sd k = -1 → F (upS sd k s) = F sd + ow Z b k) :
    ∀ f k sd M m, k + f = n → (∀ i, k ≤ i → i < n → sd i = -1) → mxF F m (en Z f k sd M) = max m (F sd + bst Z b f k M) := by
  intro f
  induction f with
  | zero => intro k sd M m _ _; simp [en, bst, mxF_one]
  | succ f ih =>
    intro k sd M m hk hsd
    have h1 := mx1 (Z := Z) (F := F) (k := k) (sd := sd) (M := M) (o := ow Z b k) (c := bst Z b f (k + 1) M) (r := en Z f (k + 1)) (t := bst Z b f (k + 1)) (fun s => hF sd k s (by omega) (hsd k (by omega) (by omega)))
      (fun s m M => ih (k + 1) _ M m (by omega) (fun i h1 h2 => by unfold upS; rw [if_neg (by omega)]; exact hsd i (by omega) h2)) m 4
    simp only [en, bst]
    rw [mxF_app, ih (k + 1) sd M _ (by omega) (fun i h1 h2 => hsd i (by omega) h2), h1]

/-- the number of the first i labels that are set -/
def cnK (sd : Nat → Int) : Nat → Int
  | 0 => 0
  | i + 1 => if sd i = -1 then cnK sd i else cnK sd i + 1
theorem cnK_range (sd : Nat → Int) : ∀ i, 0 ≤ cnK sd i ∧ cnK sd i ≤ i := by
  intro i
  induction i with
  | zero => simp [cnK]
  | succ i ih => simp only [cnK]; split <;> omega
theorem cnK_up (sd : Nat → Int) (k s : Nat) (h : sd k = -1) : ∀ i, cnK (upS sd k s) i = if k < i then cnK sd i + 1 else cnK sd i := by
  intro i
  induction i with
  | zero => rfl
  | succ i ih =>
    simp only [cnK, ih]
    by_cases e : i = k
    · subst e
      have e2 : upS sd i s i = s := if_pos rfl
      rw [e2, if_neg (by omega), if_neg (by omega), if_pos (by omega), if_pos h]
    · have e2 : upS sd k s i = sd i := if_neg e
      rw [e2]
      by_cases e3 : k < i
      · rw [if_pos e3, if_pos (show k < i + 1 by omega)]
        by_cases e4 : sd i = -1
        · rw [if_pos e4, if_pos e4]
        · rw [if_neg e4, if_neg e4]
      · rw [if_neg e3, if_neg (show ¬ k < i + 1 by omega)]
end Go.Proofs.Ythelaffjpmcdbaa
