/- The passes from a cell to all others, as the model reckons them. -/
import Derived.Test.YtcfeckpbjdipeaaPsW
import Derived.Test.YtcfeckpbjdipeaaPqZ
import Derived.Deep.RegionLaw
import Derived.BigRegion
import Derived.BigQuiet
namespace Go.Proofs.Ytcfeckpbjdipeaa
set_option linter.unusedVariables false

theorem near_nbP {R C : Nat} {i x : Ix (R * C)} (h : x ∈ near R C i 4) : ∃ k, k < 4 ∧ nb R C i k = some x := by
  unfold near at h
  rw [List.mem_filterMap] at h
  obtain ⟨k, hk, e⟩ := h
  exact ⟨k, List.mem_range.1 hk, e⟩
theorem psNear_symm {R C : Nat} {i x : Ix (R * C)} (h : x ∈ near R C i 4) : i ∈ near R C x 4 := by
  obtain ⟨k, hk, e⟩ := near_nbP h
  have hC : 0 < C := by
    rcases Nat.eq_zero_or_pos C with h | h
    · have := i.2
      subst h
      simp at this
    · exact h
  have hm := Nat.mod_lt i.1 hC
  have hd := Nat.div_add_mod i.1 C
  have cases4 : k = 0 ∨ k = 1 ∨ k = 2 ∨ k = 3 := by omega
  rcases cases4 with rfl | rfl | rfl | rfl
  · simp only [nb, if_true] at e
    by_cases h1 : C ≤ i.1
    · rw [if_pos h1] at e
      cases e
      have := near_south (R := R) (i := (⟨i.1 - C, by have := i.2; omega⟩ : Ix (R * C))) (show i.1 - C + C < R * C by have := i.2; omega)
      have e2 : (⟨i.1 - C + C, by have := i.2; omega⟩ : Ix (R * C)) = i := Subtype.ext (by show i.1 - C + C = i.1; omega)
      rwa [e2] at this
    · rw [if_neg h1] at e; cases e
  · simp only [nb, if_neg (show ¬ (1 : Nat) = 0 by omega), if_true] at e
    by_cases h1 : i.1 % C + 1 < C
    · rw [dif_pos h1] at e
      cases e
      have e1 : (i.1 + 1) % C = i.1 % C + 1 := by
        have : i.1 + 1 = C * (i.1 / C) + (i.1 % C + 1) := by omega
        rw [this, Nat.mul_add_mod, Nat.mod_eq_of_lt h1]
      have := near_west (R := R) (i := (⟨i.1 + 1, east_lt i.2 h1⟩ : Ix (R * C))) (show 0 < (i.1 + 1) % C by omega)
      have e2 : (⟨i.1 + 1 - 1, by have := i.2; omega⟩ : Ix (R * C)) = i := Subtype.ext (by show i.1 + 1 - 1 = i.1; omega)
      rwa [e2] at this
    · rw [dif_neg h1] at e; cases e
  · simp only [nb, if_neg (show ¬ (2 : Nat) = 0 by omega), if_neg (show ¬ (2 : Nat) = 1 by omega), if_true] at e
    by_cases h1 : i.1 + C < R * C
    · rw [dif_pos h1] at e
      cases e
      have := near_north (R := R) (i := (⟨i.1 + C, h1⟩ : Ix (R * C))) (show C ≤ i.1 + C by omega)
      have e2 : (⟨i.1 + C - C, by have := i.2; omega⟩ : Ix (R * C)) = i := Subtype.ext (by show i.1 + C - C = i.1; omega)
      rwa [e2] at this
    · rw [dif_neg h1] at e; cases e
  · simp only [nb, if_neg (show ¬ (3 : Nat) = 0 by omega), if_neg (show ¬ (3 : Nat) = 1 by omega), if_neg (show ¬ (3 : Nat) = 2 by omega)] at e
    by_cases h1 : 0 < i.1 % C
    · rw [if_pos h1] at e
      cases e
      have e1 : (i.1 - 1) % C + 1 = i.1 % C := by
        have : i.1 - 1 = C * (i.1 / C) + (i.1 % C - 1) := by omega
        rw [this, Nat.mul_add_mod, Nat.mod_eq_of_lt (by omega)]
        omega
      have := near_east (R := R) (i := (⟨i.1 - 1, by have := i.2; omega⟩ : Ix (R * C))) (show (i.1 - 1) % C + 1 < C by omega)
      have e2 : (⟨i.1 - 1 + 1, by have := i.2; omega⟩ : Ix (R * C)) = i := Subtype.ext (by show i.1 - 1 + 1 = i.1; omega)
      rwa [e2] at this
    · rw [if_neg h1] at e; cases e

/-- the pass between two cells, as a number -/
theorem ps_ex {R C : Nat} {Z : Nat → Int} (hZ : ∀ x, x < R * C → 0 ≤ Z x ∧ Z x ≤ 99) (a b : Ix (R * C)) : ∃ v, IsPs R C Z a b v := by
  have key : ∀ k : Nat, (∃ m : Nat, m ≤ k ∧ Rch R C Z (m : Int) a b ∧ ∀ q : Nat, q ≤ k → Rch R C Z (q : Int) a b → q ≤ m) := by
    intro k
    induction k with
    | zero => exact ⟨0, Nat.le_refl _, rch_all (fun x hx => (hZ x hx).1) a b, fun q hq _ => hq⟩
    | succ k ih =>
      obtain ⟨m, h1, h2, h3⟩ := ih
      by_cases h : Rch R C Z ((k + 1 : Nat) : Int) a b
      · exact ⟨k + 1, Nat.le_refl _, h, fun q hq _ => hq⟩
      · exact ⟨m, by omega, h2, fun q hq hr => by
          by_cases e : q = k + 1
          · subst e; exact absurd hr h
          · exact h3 q (by omega) hr⟩
  obtain ⟨m, h1, h2, h3⟩ := key 99
  refine ⟨m, h2, fun q hq => ?_⟩
  have hl := hq.lst
  have := hZ b.1 b.2
  by_cases h : q ≤ 0
  · omega
  · have e : q = (q.toNat : Int) := by omega
    rw [e] at hq
    have := h3 q.toNat (by omega) hq
    omega
open Classical in
noncomputable def psV (R C : Nat) (Z : Nat → Int) (a : Ix (R * C)) (j : Nat) : Int := if h : ∃ (hj : j < R * C) (v : Int), IsPs R C Z a ⟨j, hj⟩ v then Classical.choose (Classical.choose_spec h) else -1
theorem psV_is {R C : Nat} {Z : Nat → Int} (hZ : ∀ x, x < R * C → 0 ≤ Z x ∧ Z x ≤ 99) (a b : Ix (R * C)) : IsPs R C Z a b (psV R C Z a b.1) := by
  have h : ∃ (hj : b.1 < R * C) (v : Int), IsPs R C Z a ⟨b.1, hj⟩ v := ⟨b.2, ps_ex hZ a b⟩
  have := Classical.choose_spec (Classical.choose_spec h)
  unfold psV
  rw [dif_pos h]
  exact this

/-- a number put at a place -/
def updZ (f : Nat → Int) (i : Nat) (v : Int) (x : Nat) : Int := if x = i then v else f x
theorem updZ_same (f : Nat → Int) (i : Nat) (v : Int) : updZ f i v i = v := by simp [updZ]
theorem updZ_other {f : Nat → Int} {i x : Nat} {v : Int} (h : x ≠ i) : updZ f i v x = f x := by simp [updZ, h]
/-- one step of the reckoning -/
def rx1 (Z f : Nat → Int) (i k : Nat) : Nat → Int := updZ f i (max (f i) (min (Z i) (f k)))
def rxL {M : Nat} (Z : Nat → Int) (i : Nat) (l : List (Ix M)) (f : Nat → Int) : Nat → Int := l.foldl (fun f k => rx1 Z f i k.1) f
theorem rxL_snoc {M : Nat} (Z : Nat → Int) (i : Nat) (l : List (Ix M)) (x : Ix M) (f : Nat → Int) : rxL Z i (l ++ [x]) f = rx1 Z (rxL Z i l f) i x.1 := by unfold rxL; rw [List.foldl_append]; rfl
/-- the cells below k in one round -/
def rxN (R C : Nat) (Z f : Nat → Int) : Nat → Nat → Int
  | 0 => f
  | k + 1 => if h : k < R * C then rxL Z k (near R C ⟨k, h⟩ 4) (rxN R C Z f k) else rxN R C Z f k
theorem rxN_succ {R C : Nat} {Z f : Nat → Int} (i : Ix (R * C)) : rxN R C Z f (i.1 + 1) = rxL Z i.1 (near R C i 4) (rxN R C Z f i.1) := by
  show (if h : i.1 < R * C then _ else _) = _
  rw [dif_pos i.2]
/-- rounds -/
def rxR (R C : Nat) (Z f : Nat → Int) : Nat → Nat → Int
  | 0 => f
  | k + 1 => rxN R C Z (rxR R C Z f k) (R * C)

theorem rx1_mono (Z f : Nat → Int) (i k j : Nat) : f j ≤ rx1 Z f i k j := by
  unfold rx1 updZ
  by_cases e : j = i
  · subst e; rw [if_pos rfl]; omega
  · rw [if_neg e]; omega
theorem rxL_mono {M : Nat} (Z : Nat → Int) (i j : Nat) : ∀ (l : List (Ix M)) (f : Nat → Int), f j ≤ rxL Z i l f j
  | [], f => Int.le_refl _
  | k :: t, f => Int.le_trans (rx1_mono Z f i k.1 j) (rxL_mono Z i j t _)
theorem rxN_mono {R C : Nat} (Z f : Nat → Int) (j : Nat) : ∀ k, f j ≤ rxN R C Z f k j
  | 0 => Int.le_refl _
  | k + 1 => by
    have ih := rxN_mono (R := R) (C := C) Z f j k
    unfold rxN
    split
    · exact Int.le_trans ih (rxL_mono Z k j _ _)
    · exact ih
theorem rxN_up {R C : Nat} (Z f : Nat → Int) (j : Nat) {a b : Nat} (h : a ≤ b) : rxN R C Z f a j ≤ rxN R C Z f b j := by
  induction b with
  | zero => have : a = 0 := by omega
            subst this; exact Int.le_refl _
  | succ b ih =>
    by_cases e : a = b + 1
    · subst e; exact Int.le_refl _
    · refine Int.le_trans (ih (by omega)) ?_
      by_cases hb : b < R * C
      · rw [show rxN R C Z f (b + 1) = rxL Z b (near R C ⟨b, hb⟩ 4) (rxN R C Z f b) from rxN_succ ⟨b, hb⟩]
        exact rxL_mono Z b j _ _
      · rw [show rxN R C Z f (b + 1) = rxN R C Z f b from by show (if h : b < R * C then _ else _) = _; rw [dif_neg hb]]
        exact Int.le_refl _
theorem rxL_hit {M : Nat} {Z : Nat → Int} {i : Nat} {q : Int} (hq : q ≤ Z i) : ∀ (l : List (Ix M)) (f : Nat → Int) (k : Ix M), k ∈ l → q ≤ f k.1 → q ≤ rxL Z i l f i
  | [], f, k, hk, _ => by simp at hk
  | a :: t, f, k, hk, hf => by
    rcases List.mem_cons.1 hk with e | e
    · subst e
      refine Int.le_trans ?_ (rxL_mono Z i i t _)
      show q ≤ rx1 Z f i k.1 i
      unfold rx1
      rw [updZ_same]
      omega
    · exact rxL_hit hq t _ k e (Int.le_trans hf (rx1_mono Z f i a.1 k.1))

/-- sound: what is reckoned can be reached -/
def RxOk (R C : Nat) (Z : Nat → Int) (a : Ix (R * C)) (f : Nat → Int) : Prop := ∀ x : Ix (R * C), f x.1 = -1 ∨ Rch R C Z (f x.1) a x
theorem rx1_ok {R C : Nat} {Z f : Nat → Int} {a i k : Ix (R * C)} (hZ : ∀ x, x < R * C → 0 ≤ Z x ∧ Z x ≤ 99) (h : RxOk R C Z a f) (hk : k ∈ near R C i 4) : RxOk R C Z a (rx1 Z f i.1 k.1) := by
  intro x
  unfold rx1 updZ
  by_cases e : x.1 = i.1
  · have e2 : x = i := Subtype.ext e
    subst e2
    rw [if_pos rfl]
    by_cases hm : f x.1 ≤ min (Z x.1) (f k.1)
    · have e3 : max (f x.1) (min (Z x.1) (f k.1)) = min (Z x.1) (f k.1) := by omega
      rw [e3]
      rcases h k with h1 | h1
      · left
        have := hZ x.1 x.2
        rw [h1]
        omega
      · exact Or.inr (.step (h1.low (by omega)) (psNear_symm hk) (by omega))
    · have e3 : max (f x.1) (min (Z x.1) (f k.1)) = f x.1 := by omega
      rw [e3]
      exact h x
  · rw [if_neg e]; exact h x
theorem rxL_ok {R C : Nat} {Z : Nat → Int} {a i : Ix (R * C)} (hZ : ∀ x, x < R * C → 0 ≤ Z x ∧ Z x ≤ 99) : ∀ (l : List (Ix (R * C))) (f : Nat → Int), (∀ k ∈ l, k ∈ near R C i 4) → RxOk R C Z a f → RxOk R C Z a (rxL Z i.1 l f)
  | [], f, _, h => h
  | k :: t, f, hl, h => rxL_ok hZ t _ (fun y hy => hl y (List.mem_cons_of_mem _ hy)) (rx1_ok hZ h (hl k (by simp)))
theorem rxN_ok {R C : Nat} {Z f : Nat → Int} {a : Ix (R * C)} (hZ : ∀ x, x < R * C → 0 ≤ Z x ∧ Z x ≤ 99) (h : RxOk R C Z a f) : ∀ k, RxOk R C Z a (rxN R C Z f k)
  | 0 => h
  | k + 1 => by
    have ih := rxN_ok hZ h k
    unfold rxN
    split
    · rename_i hk
      exact rxL_ok (i := ⟨k, hk⟩) hZ _ _ (fun y hy => hy) ih
    · exact ih
theorem rxR_ok {R C : Nat} {Z f : Nat → Int} {a : Ix (R * C)} (hZ : ∀ x, x < R * C → 0 ≤ Z x ∧ Z x ≤ 99) (h : RxOk R C Z a f) : ∀ k, RxOk R C Z a (rxR R C Z f k)
  | 0 => h
  | k + 1 => rxN_ok hZ (rxR_ok hZ h k) _

/-- whole at q: nothing more is reached -/
def RxCl (R C : Nat) (Z : Nat → Int) (q : Int) (f : Nat → Int) : Prop := ∀ i k : Ix (R * C), q ≤ Z i.1 → k ∈ near R C i 4 → q ≤ f k.1 → q ≤ f i.1
theorem rx1_keep {R C : Nat} {Z f : Nat → Int} {q : Int} {i k : Ix (R * C)} (h : RxCl R C Z q f) (hk : k ∈ near R C i 4) (x : Nat) : q ≤ rx1 Z f i.1 k.1 x ↔ q ≤ f x := by
  unfold rx1 updZ
  by_cases e : x = i.1
  · subst e
    rw [if_pos rfl]
    have := h i k
    constructor
    · intro h1
      by_cases h2 : q ≤ f i.1
      · exact h2
      · exact this (by omega) hk (by omega)
    · intro h1; omega
  · rw [if_neg e]
theorem RxCl.congr {R C : Nat} {Z f g : Nat → Int} {q : Int} (h : RxCl R C Z q f) (e : ∀ x, q ≤ g x ↔ q ≤ f x) : RxCl R C Z q g := fun i k h1 h2 h3 => (e _).2 (h i k h1 h2 ((e _).1 h3))
theorem rxL_keep {R C : Nat} {Z : Nat → Int} {q : Int} {i : Ix (R * C)} : ∀ (l : List (Ix (R * C))) (f : Nat → Int), (∀ k ∈ l, k ∈ near R C i 4) → RxCl R C Z q f → ∀ x, q ≤ rxL Z i.1 l f x ↔ q ≤ f x
  | [], f, _, _, x => Iff.rfl
  | k :: t, f, hl, h, x => by
    have h1 := rx1_keep h (hl k (by simp))
    exact (rxL_keep t _ (fun y hy => hl y (List.mem_cons_of_mem _ hy)) (h.congr h1) x).trans (h1 x)
theorem rxN_keep {R C : Nat} {Z f : Nat → Int} {q : Int} (h : RxCl R C Z q f) : ∀ k x, q ≤ rxN R C Z f k x ↔ q ≤ f x
  | 0, x => Iff.rfl
  | k + 1, x => by
    have ih := rxN_keep h k
    unfold rxN
    split
    · rename_i hk
      exact (rxL_keep (i := ⟨k, hk⟩) _ _ (fun y hy => hy) (h.congr ih) x).trans (ih x)
    · exact ih x
/-- how many have come to q -/
def cntQ (f : Nat → Int) (q : Int) : Nat → Nat
  | 0 => 0
  | k + 1 => cntQ f q k + if q ≤ f k then 1 else 0
theorem cntQ_le (f : Nat → Int) (q : Int) : ∀ k, cntQ f q k ≤ k
  | 0 => Nat.le_refl _
  | k + 1 => by
    have := cntQ_le f q k
    unfold cntQ
    split <;> omega
theorem cntQ_mono {f g : Nat → Int} {q : Int} (h : ∀ x, f x ≤ g x) : ∀ k, cntQ f q k ≤ cntQ g q k
  | 0 => Nat.le_refl _
  | k + 1 => by
    have ih := cntQ_mono h (q := q) k
    have := h k
    unfold cntQ
    split <;> split <;> omega
theorem cntQ_lt {f g : Nat → Int} {q : Int} (h : ∀ x, f x ≤ g x) {y : Nat} (h1 : ¬ q ≤ f y) (h2 : q ≤ g y) : ∀ k, y < k → cntQ f q k < cntQ g q k
  | 0, hy => by omega
  | k + 1, hy => by
    have hm := cntQ_mono h (q := q) k
    have hk := h k
    by_cases e : y = k
    · subst e
      unfold cntQ
      rw [if_neg h1, if_pos h2]
      omega
    · have ih := cntQ_lt h h1 h2 k (by omega)
      unfold cntQ
      split <;> split <;> omega
theorem rxR_cl {R C : Nat} {Z f : Nat → Int} (q : Int) : ∀ k, RxCl R C Z q (rxR R C Z f k) ∨ k ≤ cntQ (rxR R C Z f k) q (R * C)
  | 0 => Or.inr (Nat.zero_le _)
  | k + 1 => by
    rcases rxR_cl (Z := Z) (f := f) q k with h | h
    · exact Or.inl (h.congr (rxN_keep h (R * C)))
    · by_cases hc : RxCl R C Z q (rxR R C Z f k)
      · exact Or.inl (hc.congr (rxN_keep hc (R * C)))
      · right
        unfold RxCl at hc
        simp only [Classical.not_forall] at hc
        obtain ⟨i, j, h1, h2, h3, h4⟩ := hc
        have hm : ∀ x, rxR R C Z f k x ≤ rxR R C Z f (k + 1) x := fun x => rxN_mono Z _ x _
        have hhit : q ≤ rxR R C Z f (k + 1) i.1 := by
          show q ≤ rxN R C Z (rxR R C Z f k) (R * C) i.1
          refine Int.le_trans ?_ (rxN_up Z _ i.1 (show i.1 + 1 ≤ R * C by have := i.2; omega))
          rw [rxN_succ i]
          exact rxL_hit h1 _ _ j h2 (Int.le_trans h3 (rxN_mono Z _ j.1 i.1))
        have := cntQ_lt hm h4 hhit (R * C) i.2
        omega
theorem cntQ_all {f : Nat → Int} {q : Int} : ∀ {k : Nat}, cntQ f q k = k → ∀ x, x < k → q ≤ f x
  | 0, _, x, hx => by omega
  | k + 1, h, x, hx => by
    have hle := cntQ_le f q k
    unfold cntQ at h
    by_cases e : q ≤ f k
    · rw [if_pos e] at h
      by_cases e2 : x = k
      · subst e2; exact e
      · exact cntQ_all (k := k) (by omega) x (by omega)
    · rw [if_neg e] at h; omega
/-- the start of the reckoning -/
def rx0 (Z : Nat → Int) (a : Nat) (j : Nat) : Int := if j = a then Z a else -1
theorem rxR_done {R C : Nat} {Z : Nat → Int} (hZ : ∀ x, x < R * C → 0 ≤ Z x ∧ Z x ≤ 99) (a x : Ix (R * C)) : rxR R C Z (rx0 Z a.1) (R * C) x.1 = psV R C Z a x.1 := by
  have hok : RxOk R C Z a (rx0 Z a.1) := fun y => by
    unfold rx0
    by_cases e : y.1 = a.1
    · have e2 : y = a := Subtype.ext e
      subst e2
      rw [if_pos rfl]
      exact Or.inr (.here (Int.le_refl _))
    · rw [if_neg e]; exact Or.inl rfl
  have hps := psV_is hZ a x
  have hcl : RxCl R C Z (psV R C Z a x.1) (rxR R C Z (rx0 Z a.1) (R * C)) := by
    rcases rxR_cl (Z := Z) (f := rx0 Z a.1) (psV R C Z a x.1) (R * C) with h | h
    · exact h
    · have hle := cntQ_le (rxR R C Z (rx0 Z a.1) (R * C)) (psV R C Z a x.1) (R * C)
      intro i k _ _ _
      exact cntQ_all (by omega) i.1 i.2
  have hmono : ∀ k y, rx0 Z a.1 y ≤ rxR R C Z (rx0 Z a.1) k y := fun k y => by
    induction k with
    | zero => exact Int.le_refl _
    | succ k ih => exact Int.le_trans ih (rxN_mono Z _ y _)
  have hge : psV R C Z a x.1 ≤ rxR R C Z (rx0 Z a.1) (R * C) x.1 := by
    have h1 := hps.1
    generalize psV R C Z a x.1 = q at h1 hcl
    clear hps
    induction h1 with
    | here h =>
      have := hmono (R * C) a.1
      unfold rx0 at this
      rw [if_pos rfl] at this
      exact Int.le_trans h this
    | step h hn hc ih => exact hcl _ _ hc (psNear_symm hn) ih
  have h0 : 0 ≤ psV R C Z a x.1 := hps.2 0 (rch_all (fun y hy => (hZ y hy).1) a x)
  rcases rxR_ok hZ hok (R * C) x with h | h
  · omega
  · have := hps.2 _ h
    omega

end Go.Proofs.Ytcfeckpbjdipeaa

/- The passes from a cell to all others, in the model. -/
namespace Go.Proofs.Ytcfeckpbjdipeaa
open Go.RowKit
set_option linter.unusedVariables false

def ivF (f : Nat → Int) (j : Nat) : Value := .int .i64 (f j)
theorem ivF_set {w : World} {b N : Nat} {f : Nat → Int} (h : w.rowIs b 3 N (ivF f)) (y : Nat) (v : Int) : (w.setCell ⟨b, y, none⟩ (.int .i64 v)).rowIs b 3 N (ivF (updZ f y v)) :=
  (h.set y (.int .i64 v)).congr (fun j _ => by
    unfold ivF updZ
    by_cases e : j = y <;> simp [e])

/-- what the passes leave -/
def PvPost (R C : Nat) (Z : Nat → Int) (a : Ix (R * C)) (w : World) (e : Ending) (w' : World) : Prop :=
  ∃ b, e = .returned (.slice (some ⟨b, 0, none⟩) (R * C) (R * C)) ∧ w.heap.size ≤ b ∧ w'.rowIs b 3 (R * C) (ivF (psV R C Z a)) ∧ Below w.heap.size w w'

set_option maxHeartbeats 20000000 in
set_option maxRecDepth 100000 in
theorem l4Passes_any (v : Value) (lo hi : Nat) (g : G) (R C : Nat) (eR : g.n = R) (eC : g.len 0 = C) (a : Ix (R * C)) (w : World) (hv : RdM lo hi w v g) (hh : hi ≤ w.heap.size) (h : g.Valid) :
    Calls Try.prog 64 #[v, .int .i64 a.1] w (PvPost R C g.flat a w) := by
  have hRC : R * C = g.n * g.len 0 := by rw [eR, eC]
  have h49 : R * C ≤ 49 := mul_le_49 (R := R) (C := C) (by have := h.1.2; omega) (by have := h.2.1.2; omega)
  have HCE := Lib.hid (l2Cells_any v lo hi g w hv h)
  have HNR := Lib.hid (fun (i : Ix (R * C)) (W : World) (hW : RdM lo hi W v g) (hs : hi ≤ W.heap.size) => l2Near_any v lo hi g R C eR eC i W hW hs h)
  have HHT := Lib.hid (fun (i : Nat) (hi' : i < R * C) (W : World) (hW : RdM lo hi W v g) => l2Height_any v lo hi g i W hW h (by omega))
  have HZ := Lib.hid (show ∀ x, x < R * C → 0 ≤ g.flat x ∧ g.flat x ≤ 99 from fun x hx => flat_okW h (by omega))
  have HV := Lib.hid hv
  have HDN := Lib.hid (show ∀ x : Ix (R * C), rxR R C g.flat (rx0 g.flat a.1) (R * C) x.1 = psV R C g.flat a x.1 from fun x => rxR_done (fun y hy => flat_okW h (by omega)) a x)
  obtain ⟨b0, off0, cap0, rfl⟩ := hv.shapeW h.1.1
  obtain ⟨Z, eZ⟩ : ∃ Z, g.flat = Z := ⟨_, rfl⟩
  rw [← hRC] at HCE
  rw [eZ] at HHT HZ HDN ⊢
  have hax := a.2
  obtain ⟨ax, eax⟩ : ∃ x, a.1 = x := ⟨_, rfl⟩
  have HAX := Lib.hid eax
  rw [eax] at hax HDN ⊢
  obtain ⟨N, eN⟩ : ∃ N, R * C = N := ⟨_, rfl⟩
  have EN := Lib.hid eN
  have HCE2 := Lib.hid (show Calls Try.prog 93 #[.slice (some ⟨b0, off0, none⟩) g.n cap0] w (fun e w' => e = .returned (.int .i64 (N : Nat)) ∧ w = w') from by rw [← eN]; exact HCE.out)
  have hNa : ax < N := by omega
  have hN49 : N ≤ 49 := by omega
  clear hv h eR eC hRC eZ eax hax h49 eN HCE
  have hmk := run_make_row' (P := Try.prog) 27 3 (.int .i64 0) 8 Try.underlying27 Try.infoI rfl .i64 .i64 N (by omega) (by omega)
  have HR0 := Lib.hid ((World.rowIs_made w (.int .i64 0) N 3).congr (g := fun j => if j < 0 then .int .i64 (-1) else .int .i64 0) (fun j _ => by simp))
  have HB0 := Lib.hid ((Below.refl w.heap.size w).alloc (Nat.le_refl _) (.cells (madeCells #[.int .i64 0] N) 3))
  go_enter Try.func64, Try.ntmps64
  go_wp2_with fail
  refine HCE2.out.mono ?_
  rintro e w1 ⟨rfl, rfl⟩
  go_wp2
  clear hmk
  go_loopw [6] (fun s wr => ∃ k : Nat, k ≤ N ∧ s = .int .i64 k ∧ wr.rowIs w.heap.size 3 N (fun j => if j < k then .int .i64 (-1) else .int .i64 0) ∧ Below w.heap.size w wr) (fun s _ => N - (intOf s).toNat)
  case atStart => exact ⟨0, Nat.zero_le _, rfl, HR0.out, HB0.out⟩
  case round =>
    obtain ⟨k, hk, rfl, hrow, hb⟩ := hrel
    clear HR0 HB0
    have HROW := Lib.hid hrow
    have HB := Lib.hid hb
    by_cases hlt : k < N
    case pos =>
      have hlt' : (k : Int) < N := by omega
      have c1 := hrow.cell hlt
      have f1 : wr.frozen? ⟨w.heap.size, k, none⟩ = false := hrow.frozen k
      simp only [Nat.lt_irrefl, if_false] at c1
      have R1 := Lib.hid ((hrow.set k (.int .i64 (-1))).congr (g := fun j => if j < k + 1 then .int .i64 (-1) else .int .i64 0) (fun j hj => by
        by_cases e : j = k
        · subst e; simp
        · by_cases e2 : j < k
          · simp [e, e2, Nat.lt_succ_of_lt e2]
          · have : ¬ j < k + 1 := by omega
            simp [e, e2, this]))
      have B1 := Lib.hid (hb.setCell (p := ⟨w.heap.size, k, none⟩) (Nat.le_refl _) (.int .i64 (-1)))
      clear hrow hb
      go_wp2
      go_roundw
      case rel => exact ⟨k + 1, by omega, by go_num, R1.out, B1.out⟩
      case measure => simp [intOf]; omega
    case neg =>
      have ek : k = N := by omega
      have hge : ¬ (k : Int) < N := by omega
      have c1 := hrow.cell hNa
      have f1 : wr.frozen? ⟨w.heap.size, ax, none⟩ = false := hrow.frozen ax
      rw [if_pos (show ax < k by omega)] at c1
      have hNa' : (ax : Int) < N := by omega
      have HHA := Lib.hid (HHT.out ax (by rw [EN.out]; exact hNa) wr (HV.out.same (SameIn.below hb hh)))
      obtain ⟨za, eza⟩ : ∃ z, Z ax = z := ⟨_, rfl⟩
      rw [eza] at HHA
      have R1 := Lib.hid (fun m : Nat => show ((wr.drewN m).setCell ⟨w.heap.size, ax, none⟩ (.int .i64 za)).rowIs w.heap.size 3 N (ivF (rxR R C Z (rx0 Z ax) 0)) from
        ((hrow.of_block (w' := wr.drewN m) rfl).set ax (.int .i64 za)).congr (fun j hj => by
          show _ = ivF (rx0 Z ax) j
          unfold ivF rx0
          by_cases e : j = ax
          · subst e; simp [eza]
          · simp [e, show j < k by omega]))
      have B1 := Lib.hid (fun m : Nat => (below_drewN hb m).setCell (p := ⟨w.heap.size, ax, none⟩) (Nat.le_refl _) (.int .i64 za))
      clear hrow hb ek eza hlt
      go_wp2_with fail
      refine HHA.out.mono ?_
      rintro e w2 ⟨rfl, m0, rfl⟩
      go_wp2
      have R2 := Lib.hid (R1.out m0)
      have B2 := Lib.hid (B1.out m0)
      generalize hV2 : (wr.drewN m0).setCell ⟨w.heap.size, ax, none⟩ (.int .i64 za) = V2 at R2 B2 ⊢
      clear hV2 R1 B1 c1 f1 HROW HB HHA
      obtain ⟨wo, rfl⟩ : ∃ wo : World, wo = wr := ⟨_, rfl⟩
      go_loopw [7] (fun s wr => ∃ r : Nat, r ≤ N ∧ s = .int .i64 r ∧ wr.rowIs w.heap.size 3 N (ivF (rxR R C Z (rx0 Z ax) r)) ∧ Below w.heap.size w wr) (fun s _ => N - (intOf s).toNat)
      case atStart => exact ⟨0, Nat.zero_le _, rfl, R2.out, B2.out⟩
      case round =>
        obtain ⟨r, hr, rfl, hrow, hb⟩ := hrel
        clear R2 B2
        have HROW := Lib.hid hrow
        have HB := Lib.hid hb
        clear hrow hb
        by_cases hlt : r < N
        case neg =>
          have er : r = N := by omega
          have hge : ¬ (r : Int) < N := by omega
          have HE := Lib.hid (show wr.rowIs w.heap.size 3 (R * C) (ivF (psV R C Z a)) from by
            rw [EN.out]
            refine HROW.out.congr (fun j hj => ?_)
            unfold ivF
            have := HDN.out ⟨j, by rw [EN.out]; exact hj⟩
            rw [er, ← EN.out]
            exact congrArg (Value.int .i64) this)
          clear er hlt
          go_wp2
          go_ret
          exact ⟨w.heap.size, by rw [EN.out] <;> rfl, Nat.le_refl _, HE.out, HB.out⟩
        case pos =>
          have hlt' : (r : Int) < N := by omega
          obtain ⟨f0, ef0⟩ : ∃ f, rxR R C Z (rx0 Z ax) r = f := ⟨_, rfl⟩
          have HSUC := Lib.hid (show rxR R C Z (rx0 Z ax) (r + 1) = rxN R C Z f0 (R * C) by rw [← ef0]; rfl)
          rw [ef0] at HROW
          clear ef0 hlt
          go_wp2
          obtain ⟨wp, rfl⟩ : ∃ wp : World, wp = wr := ⟨_, rfl⟩
          go_loopw [8] (fun s wr => ∃ k : Nat, k ≤ N ∧ s = .int .i64 k ∧ wr.rowIs w.heap.size 3 N (ivF (rxN R C Z f0 k)) ∧ Below w.heap.size w wr) (fun s _ => N - (intOf s).toNat)
          case atStart => exact ⟨0, Nat.zero_le _, rfl, HROW.out, HB.out⟩
          case round =>
            obtain ⟨i, hi, rfl, hrow, hb⟩ := hrel
            clear HROW HB
            have HROW := Lib.hid hrow
            have HB := Lib.hid hb
            have hsz := hb.size
            have hblt := hrow.lt
            clear hrow hb
            by_cases hlt : i < N
            case neg =>
              have ei : i = N := by omega
              have hge : ¬ (i : Int) < N := by omega
              have HRN := Lib.hid (show wr.rowIs w.heap.size 3 N (ivF (rxR R C Z (rx0 Z ax) (r + 1))) by rw [HSUC.out, EN.out]; have h := HROW.out; rw [ei] at h; exact h)
              clear ei hlt
              go_wp2
              go_roundw
              case rel => exact ⟨r + 1, by omega, by go_num, HRN.out, HB.out⟩
              case measure => simp [intOf]; omega
            case pos =>
              have hlt' : (i : Int) < N := by omega
              obtain ⟨y, hy⟩ : ∃ y : Ix (R * C), y.1 = i := ⟨⟨i, by rw [EN.out]; exact hlt⟩, rfl⟩
              have HY := Lib.hid hy
              have HNI := Lib.hid (HNR.out y wr (HV.out.same (SameIn.below HB.out hh)) (by omega))
              rw [hy] at HNI
              have HSI := Lib.hid (show rxN R C Z f0 (i + 1) = rxL Z i (near R C y 4) (rxN R C Z f0 i) by rw [← hy]; exact rxN_succ y)
              have hl4 := near_len R C y 4
              clear hy
              go_wp2_with fail
              refine HNI.out.mono ?_
              rintro e w3 ⟨rv, rfl, ⟨ao, c, rfl⟩, hnr, hb3⟩
              have HB3 := Lib.hid (HB.out.trans (hb3.mono hsz))
              have HR3 := Lib.hid (HROW.out.of_block (hb3.block _ hblt))
              have HNL := Lib.hid hnr
              have hs3 := hb3.size
              clear hnr hb3
              obtain ⟨l, el⟩ : ∃ l, near R C y 4 = l := ⟨_, rfl⟩
              rw [el] at HNL hl4 HSI ⊢
              clear el
              obtain ⟨f1, ef1⟩ : ∃ f, rxN R C Z f0 i = f := ⟨_, rfl⟩
              rw [ef1] at HR3 HSI
              clear ef1 HROW HB
              go_wp2
              obtain ⟨wq, hwq⟩ : ∃ wq : World, wq = wr := ⟨_, rfl⟩
              rw [← hwq] at HNL hs3
              subst hwq
              go_loopw [10] (fun s wr => ∃ k : Nat, k ≤ l.length ∧ s = .int .i64 k ∧ wr.rowIs w.heap.size 3 N (ivF (rxL Z i (l.take k) f1)) ∧ RdI wq.heap.size w3.heap.size wr (.slice ao l.length c) l.length (ixZ l) ∧ w3.heap.size ≤ wr.heap.size ∧ Below w.heap.size w wr) (fun s _ => l.length - (intOf s).toNat)
              case atStart => exact ⟨0, Nat.zero_le _, rfl, HR3.out, HNL.out, Nat.le_refl _, HB3.out⟩
              case round =>
                obtain ⟨k, hk, rfl, hrow, hnl, hs4, hb⟩ := hrel
                clear HR3 HNL HB3
                have HB := Lib.hid hb
                by_cases hlt : k < l.length
                case neg =>
                  have ek : k = l.length := by omega
                  have hge : ¬ (k : Int) < l.length := by omega
                  have HRN := Lib.hid (show wr.rowIs w.heap.size 3 N (ivF (rxN R C Z f0 (i + 1))) by rw [HSI.out]; rw [ek, List.take_length] at hrow; exact hrow)
                  clear hrow hnl hb ek hlt
                  go_wp2
                  go_roundw
                  case rel => exact ⟨i + 1, by omega, by go_num, HRN.out, HB.out⟩
                  case measure => simp [intOf]; omega
                case pos =>
                  have hlt' : (k : Int) < l.length := by omega
                  have hlk := hlt
                  obtain ⟨ao', cp, b, off, e1, i2, i3, i4, i5, i6⟩ := hnl
                  have q1 := i6 k hlk
                  rw [ixZ_at l hlk] at q1
                  simp only [Value.slice.injEq] at e1
                  obtain ⟨rfl, _, rfl⟩ := e1
                  obtain ⟨rfl, i7, i8⟩ := i5 (by omega)
                  have HNL := Lib.hid (show RdI wq.heap.size w3.heap.size wr (.slice (some ⟨b, off, none⟩) l.length c) l.length (ixZ l) from ⟨_, c, b, off, rfl, i2, i3, i4, fun _ => ⟨rfl, i7, i8⟩, i6⟩)
                  have HTK := Lib.hid (show rxL Z i (l.take (k + 1)) f1 = rx1 Z (rxL Z i (l.take k) f1) i (l[k]).1 by rw [List.take_succ_eq_append_getElem hlk, rxL_snoc])
                  obtain ⟨f2, ef2⟩ : ∃ f, rxL Z i (l.take k) f1 = f := ⟨_, rfl⟩
                  rw [ef2] at hrow HTK
                  have hxN : (l[k]).1 < N := by rw [← EN.out]; exact (l[k]).2
                  obtain ⟨x, ex⟩ : ∃ x, (l[k]).1 = x := ⟨_, rfl⟩
                  rw [ex] at q1 HTK hxN
                  have hiN : i < N := by omega
                  have c1 := hrow.cell hiN
                  have c2 := hrow.cell hxN
                  have f3 : wr.frozen? ⟨w.heap.size, i, none⟩ = false := hrow.frozen i
                  unfold ivF at c1 c2
                  have HROW := Lib.hid hrow
                  have HHI := Lib.hid (fun n => HHT.out i (by rw [EN.out]; exact hiN) (wr.drewN n) (HV.out.same (fun k _ hk => hb.block k (by omega))))
                  obtain ⟨p1, ep1⟩ : ∃ z, f2 i = z := ⟨_, rfl⟩
                  obtain ⟨p2, ep2⟩ : ∃ z, f2 x = z := ⟨_, rfl⟩
                  obtain ⟨p3, ep3⟩ : ∃ z, Z i = z := ⟨_, rfl⟩
                  obtain ⟨p4, ep4⟩ : ∃ z, min p3 p2 = z := ⟨_, rfl⟩
                  obtain ⟨p5, ep5⟩ : ∃ z, max p1 p4 = z := ⟨_, rfl⟩
                  have HUP := Lib.hid (show rx1 Z f2 i x = updZ f2 i p5 by unfold rx1; rw [ep1, ep2, ep3, ep4, ep5])
                  rw [ep1] at c1
                  rw [ep2] at c2
                  rw [ep3] at HHI
                  have hlt2 : (i : Int) < N := by omega
                  have hxN' : (x : Int) < N := by omega
                  have hbne : w.heap.size ≠ b := by omega
                  clear i2 i3 i4 i5 i6 hlt ef2 ex ep1 ep2 ep3 hrow hb
                  have R1 := Lib.hid (fun m : Nat => show ((wr.drewN m).setCell ⟨w.heap.size, i, none⟩ (.int .i64 p5)).rowIs w.heap.size 3 N (ivF (rxL Z i (l.take (k + 1)) f1)) from by rw [HTK.out, HUP.out]; exact ivF_set (HROW.out.of_block (w' := wr.drewN m) rfl) i p5)
                  have B1 := Lib.hid (fun m : Nat => (below_drewN HB.out m).setCell (p := ⟨w.heap.size, i, none⟩) (Nat.le_refl _) (.int .i64 p5))
                  have N1 := Lib.hid (fun m : Nat => show RdI wq.heap.size w3.heap.size ((wr.drewN m).setCell ⟨w.heap.size, i, none⟩ (.int .i64 p5)) (.slice (some ⟨b, off, none⟩) l.length c) l.length (ixZ l) from HNL.out.same (fun k hk1 hk2 => Below.heap_setCell (wr.drewN m) _ _ _ (by show k ≠ w.heap.size; omega)))
                  have S1 := Lib.hid (fun m : Nat => show w3.heap.size ≤ ((wr.drewN m).setCell ⟨w.heap.size, i, none⟩ (.int .i64 p5)).heap.size by simpa [World.setCell] using hs4)
                  go_wp2_with fail
                  go_region_law (first
                    | (go_simp; (refine (HHI.out 1).mono ?_); rintro e w5 ⟨rfl, m5, rfl⟩))
                  all_goals
                    go_wp2
                    go_roundw
                    case rel => exact ⟨k + 1, by omega, by go_num, R1.out (1 + m5), N1.out (1 + m5), S1.out (1 + m5), B1.out (1 + m5)⟩
                    case measure => simp [intOf]; omega

end Go.Proofs.Ytcfeckpbjdipeaa
