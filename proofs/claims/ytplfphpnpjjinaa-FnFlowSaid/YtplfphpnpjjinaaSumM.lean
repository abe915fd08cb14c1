/- Sums over cells, row by row: land, sides, shore and corners. -/
import Derived.Test.YtplfphpnpjjinaaLvM
namespace Go.Proofs.Ytplfphpnpjjinaa
open Go.RowKit
set_option linter.unusedVariables false

def Sm : Nat → (Nat → Nat) → Nat
  | 0, _ => 0
  | n + 1, f => Sm n f + f n
theorem Sm_congr {f g : Nat → Nat} : ∀ {n : Nat}, (∀ i, i < n → f i = g i) → Sm n f = Sm n g
  | 0, _ => rfl
  | n + 1, h => by simp only [Sm]; rw [Sm_congr (fun i hi => h i (by omega)), h n (by omega)]
theorem Sm_le {f g : Nat → Nat} : ∀ {n : Nat}, (∀ i, i < n → f i ≤ g i) → Sm n f ≤ Sm n g
  | 0, _ => Nat.le_refl _
  | n + 1, h => Nat.add_le_add (Sm_le (fun i hi => h i (by omega))) (h n (by omega))
theorem Sm_more {f : Nat → Nat} {a : Nat} : ∀ {b : Nat}, a ≤ b → Sm a f ≤ Sm b f
  | 0, h => by have : a = 0 := by omega
               subst this; exact Nat.le_refl _
  | b + 1, h => by
    by_cases e : a = b + 1
    · subst e; exact Nat.le_refl _
    · exact Nat.le_trans (Sm_more (show a ≤ b by omega)) (Nat.le_add_right _ _)
theorem Sm_add (f g : Nat → Nat) : ∀ n : Nat, Sm n (fun i => f i + g i) = Sm n f + Sm n g
  | 0 => rfl
  | n + 1 => by simp only [Sm]; rw [Sm_add f g n]; omega
theorem Sm_zero : ∀ n : Nat, Sm n (fun _ => 0) = 0
  | 0 => rfl
  | n + 1 => by simp only [Sm]; rw [Sm_zero n]
theorem Sm_front (f : Nat → Nat) : ∀ n : Nat, Sm (n + 1) f = f 0 + Sm n (fun i => f (i + 1))
  | 0 => by simp [Sm]
  | n + 1 => by rw [Sm, Sm_front f n]; simp only [Sm]; omega
theorem Sm_rev (f : Nat → Nat) : ∀ n : Nat, Sm n (fun i => f (n - 1 - i)) = Sm n f
  | 0 => rfl
  | n + 1 => by
    rw [Sm_front]
    have h := Sm_rev f n
    have h2 : Sm n (fun i => f (n + 1 - 1 - (i + 1))) = Sm n (fun i => f (n - 1 - i)) := Sm_congr (fun i _ => by congr 1; omega)
    rw [h2, h]
    simp only [Sm]
    have : n + 1 - 1 - 0 = n := by omega
    rw [this]; omega
theorem Sm_swap (f : Nat → Nat → Nat) (m : Nat) : ∀ n : Nat, Sm n (fun i => Sm m (fun j => f i j)) = Sm m (fun j => Sm n (fun i => f i j))
  | 0 => by simp only [Sm]; exact (Sm_zero m).symm
  | n + 1 => by simp only [Sm]; rw [Sm_swap f m n, Sm_add]
theorem Sm_cat (f : Nat → Nat) (a : Nat) : ∀ b : Nat, Sm (a + b) f = Sm a f + Sm b (fun i => f (a + i))
  | 0 => by simp [Sm]
  | b + 1 => by
    have e : a + (b + 1) = (a + b) + 1 := by omega
    rw [e]; simp only [Sm]; rw [Sm_cat f a b]; omega
theorem Sm_rows (f : Nat → Nat) (C : Nat) : ∀ R : Nat, Sm (R * C) f = Sm R (fun r => Sm C (fun c => f (r * C + c)))
  | 0 => by simp [Sm]
  | R + 1 => by rw [Nat.add_mul, Nat.one_mul, Sm_cat, Sm_rows f C R]; rfl
theorem Sm_cut (f : Nat → Nat) : ∀ n : Nat, Sm n (fun i => if i + 1 < n then f i else 0) = Sm (n - 1) f
  | 0 => rfl
  | n + 1 => by
    simp only [Sm]
    rw [if_neg (by omega), Sm_congr (g := f) (fun i hi => by rw [if_pos (by omega)])]; simp
theorem Sm_shift (f : Nat → Nat) : ∀ n : Nat, Sm n (fun i => if 1 ≤ i then f (i - 1) else 0) = Sm (n - 1) f
  | 0 => rfl
  | n + 1 => by
    rw [Sm_front, if_neg (by omega), Sm_congr (g := f) (fun i hi => by rw [if_pos (by omega)]; congr 1)]; simp

def lz (C : Nat) (Z : Nat → Int) (lv : Int) (r c : Nat) : Nat := if lv ≤ Z (r * C + c) then 1 else 0
def hz (C : Nat) (Z : Nat → Int) (lv : Int) (r c : Nat) : Nat := if lv ≤ Z (r * C + c) ∧ lv ≤ Z (r * C + (c + 1)) then 1 else 0
def vz (C : Nat) (Z : Nat → Int) (lv : Int) (r c : Nat) : Nat := if lv ≤ Z (r * C + c) ∧ lv ≤ Z ((r + 1) * C + c) then 1 else 0
def cz (C : Nat) (Z : Nat → Int) (lv : Int) (r c : Nat) : Nat := if CrOk C Z lv r c then 1 else 0
def Sh (R C : Nat) (Z : Nat → Int) (lv : Int) : Nat := Sm R (fun r => Sm (C - 1) (fun c => hz C Z lv r c))
def Sv (R C : Nat) (Z : Nat → Int) (lv : Int) : Nat := Sm (R - 1) (fun r => Sm C (fun c => vz C Z lv r c))
def Sl (R C : Nat) (Z : Nat → Int) (lv : Int) : Nat := Sm R (fun r => Sm C (fun c => lz C Z lv r c))
def Sc (R C : Nat) (Z : Nat → Int) (lv : Int) : Nat := Sm (R - 1) (fun r => Sm (C - 1) (fun c => cz C Z lv r c))

theorem landN_Sm (Z : Nat → Int) (lv : Int) : ∀ n : Nat, landN Z lv n = Sm n (fun k => if lv ≤ Z k then 1 else 0)
  | 0 => rfl
  | n + 1 => by simp only [landN, Sm]; rw [landN_Sm Z lv n]
theorem landN_S (R C : Nat) (Z : Nat → Int) (lv : Int) : landN Z lv (R * C) = Sl R C Z lv := by rw [landN_Sm, Sm_rows]; rfl
theorem sidesN_Sm (R C : Nat) (Z : Nat → Int) (lv : Int) : ∀ n : Nat, sidesN R C Z lv n = Sm n (sdAt R C Z lv)
  | 0 => rfl
  | n + 1 => by simp only [sidesN, Sm]; rw [sidesN_Sm R C Z lv n]
theorem crRow_Sm (C : Nat) (Z : Nat → Int) (lv : Int) (r : Nat) : ∀ n : Nat, crRow C Z lv r n = Sm n (fun c => cz C Z lv r c)
  | 0 => rfl
  | n + 1 => by simp only [crRow, Sm]; rw [crRow_Sm C Z lv r n]; rfl
theorem cornN_Sm (C : Nat) (Z : Nat → Int) (lv : Int) : ∀ n : Nat, cornN C Z lv n = Sm n (fun r => Sm (C - 1) (fun c => cz C Z lv r c))
  | 0 => rfl
  | n + 1 => by simp only [cornN, Sm]; rw [cornN_Sm C Z lv n, crRow_Sm]
theorem cornN_S (R C : Nat) (Z : Nat → Int) (lv : Int) : cornN C Z lv (R - 1) = Sc R C Z lv := cornN_Sm C Z lv (R - 1)

theorem rc_lt {R C r c : Nat} (hr : r < R) (hc : c < C) : r * C + c < R * C := by
  have : (r + 1) * C ≤ R * C := Nat.mul_le_mul_right C hr
  rw [Nat.add_mul, Nat.one_mul] at this; omega
theorem rc_mod {C r c : Nat} (hc : c < C) : (r * C + c) % C = c := by rw [Nat.mul_comm, Nat.mul_add_mod, Nat.mod_eq_of_lt hc]
theorem rc_south {R C r c : Nat} (hr : r < R) (hc : c < C) : r * C + c + C < R * C ↔ r + 1 < R := by
  constructor
  · intro h
    apply Classical.byContradiction
    intro e
    have e2 : R = r + 1 := by omega
    rw [e2, Nat.add_mul, Nat.one_mul] at h; omega
  · intro h
    have := rc_lt (c := c) h hc
    rw [Nat.add_mul, Nat.one_mul] at this; omega
theorem rc_north {C r c : Nat} (hc : c < C) : C ≤ r * C + c ↔ 1 ≤ r := by
  constructor
  · intro h
    apply Classical.byContradiction
    intro e
    have e2 : r = 0 := by omega
    subst e2; simp at h; omega
  · intro h
    have : 1 * C ≤ r * C := Nat.mul_le_mul_right C h
    omega

theorem nb0_yes {R C r c : Nat} (hk : r * C + c < R * C) (hc : c < C) (h : 1 ≤ r) : ∃ x, nb R C ⟨r * C + c, hk⟩ 0 = some x ∧ x.1 = (r - 1) * C + c := by
  have h2 := (rc_north hc).2 h
  obtain ⟨q, rfl⟩ : ∃ q, r = q + 1 := ⟨r - 1, by omega⟩
  refine ⟨⟨(q + 1) * C + c - C, by omega⟩, by simp only [nb]; simp [h2], ?_⟩
  simp only [Nat.add_sub_cancel, Nat.add_mul, Nat.one_mul]; omega
theorem nb0_no {R C r c : Nat} (hk : r * C + c < R * C) (hc : c < C) (h : ¬ 1 ≤ r) : nb R C ⟨r * C + c, hk⟩ 0 = none := by
  have h2 : ¬ C ≤ r * C + c := fun e => h ((rc_north hc).1 e)
  simp only [nb]; simp [h2]
theorem nb1_yes {R C r c : Nat} (hk : r * C + c < R * C) (hc : c < C) (h : c + 1 < C) : ∃ x, nb R C ⟨r * C + c, hk⟩ 1 = some x ∧ x.1 = r * C + (c + 1) := by
  have m := rc_mod (r := r) hc
  refine ⟨⟨r * C + c + 1, east_lt hk (by rw [m]; exact h)⟩, by simp only [nb, m]; simp [h], ?_⟩
  simp only; omega
theorem nb1_no {R C r c : Nat} (hk : r * C + c < R * C) (hc : c < C) (h : ¬ c + 1 < C) : nb R C ⟨r * C + c, hk⟩ 1 = none := by
  have m := rc_mod (r := r) hc
  simp only [nb, m]; simp [h]
theorem nb2_yes {R C r c : Nat} (hk : r * C + c < R * C) (hr : r < R) (hc : c < C) (h : r + 1 < R) : ∃ x, nb R C ⟨r * C + c, hk⟩ 2 = some x ∧ x.1 = (r + 1) * C + c := by
  have h2 := (rc_south hr hc).2 h
  refine ⟨⟨r * C + c + C, h2⟩, by simp only [nb]; simp [h2], ?_⟩
  simp only [Nat.add_mul, Nat.one_mul]; omega
theorem nb2_no {R C r c : Nat} (hk : r * C + c < R * C) (hr : r < R) (hc : c < C) (h : ¬ r + 1 < R) : nb R C ⟨r * C + c, hk⟩ 2 = none := by
  have h2 : ¬ (r * C + c + C < R * C) := fun h2 => h ((rc_south hr hc).1 h2)
  simp only [nb]; simp [h2]
theorem nb3_yes {R C r c : Nat} (hk : r * C + c < R * C) (hc : c < C) (h : 1 ≤ c) : ∃ x, nb R C ⟨r * C + c, hk⟩ 3 = some x ∧ x.1 = r * C + (c - 1) := by
  have m := rc_mod (r := r) hc
  have h2 : 0 < c := h
  refine ⟨⟨r * C + c - 1, by omega⟩, by simp only [nb, m]; simp [h2], ?_⟩
  simp only; omega
theorem nb3_no {R C r c : Nat} (hk : r * C + c < R * C) (hc : c < C) (h : ¬ 1 ≤ c) : nb R C ⟨r * C + c, hk⟩ 3 = none := by
  have m := rc_mod (r := r) hc
  have h2 : ¬ 0 < c := h
  simp only [nb, m]; simp [h2]
theorem near_four {R C : Nat} (i : Ix (R * C)) : near R C i 4 = (nb R C i 0).toList ++ (nb R C i 1).toList ++ (nb R C i 2).toList ++ (nb R C i 3).toList := by
  have hz0 : near R C i 0 = [] := by simp [near]
  rw [near_succ, near_succ, near_succ, near_succ, hz0, List.nil_append]

theorem sdAt_rc {R C : Nat} (Z : Nat → Int) (lv : Int) {r c : Nat} (hr : r < R) (hc : c < C) : sdAt R C Z lv (r * C + c) = (if c + 1 < C then hz C Z lv r c else 0) + (if r + 1 < R then vz C Z lv r c else 0) := by
  have hk := rc_lt hr hc
  have h0 := sdAt_at (Z := Z) (lv := lv) (⟨r * C + c, hk⟩ : Ix (R * C))
  simp only at h0
  rw [h0, near_four]
  simp only [sdL_append]
  have n0 : sdL Z lv ⟨r * C + c, hk⟩ (nb R C ⟨r * C + c, hk⟩ 0).toList = 0 := by
    by_cases h : 1 ≤ r
    · obtain ⟨x, e, ex⟩ := nb0_yes hk hc h
      have : (r - 1) * C + C = r * C := by
        obtain ⟨q, rfl⟩ : ∃ q, r = q + 1 := ⟨r - 1, by omega⟩
        rw [Nat.add_sub_cancel, Nat.add_mul, Nat.one_mul]
      rw [e]; simp only [Option.toList_some, sdL]
      rw [if_neg (by rw [ex]; omega)]
    · rw [nb0_no hk hc h]; rfl
  have n1 : sdL Z lv ⟨r * C + c, hk⟩ (nb R C ⟨r * C + c, hk⟩ 1).toList = (if c + 1 < C then hz C Z lv r c else 0) := by
    by_cases h : c + 1 < C
    · obtain ⟨x, e, ex⟩ := nb1_yes hk hc h
      rw [e, if_pos h]; simp only [Option.toList_some, sdL, ex, hz]
      simp only [show r * C + c < r * C + (c + 1) by omega, true_and, Nat.add_zero]
    · rw [nb1_no hk hc h, if_neg h]; rfl
  have n2 : sdL Z lv ⟨r * C + c, hk⟩ (nb R C ⟨r * C + c, hk⟩ 2).toList = (if r + 1 < R then vz C Z lv r c else 0) := by
    by_cases h : r + 1 < R
    · obtain ⟨x, e, ex⟩ := nb2_yes hk hr hc h
      rw [e, if_pos h]; simp only [Option.toList_some, sdL, ex, vz]
      simp only [show r * C + c < (r + 1) * C + c by rw [Nat.add_mul, Nat.one_mul]; omega, true_and, Nat.add_zero]
    · rw [nb2_no hk hr hc h, if_neg h]; rfl
  have n3 : sdL Z lv ⟨r * C + c, hk⟩ (nb R C ⟨r * C + c, hk⟩ 3).toList = 0 := by
    by_cases h : 1 ≤ c
    · obtain ⟨x, e, ex⟩ := nb3_yes hk hc h
      rw [e]; simp only [Option.toList_some, sdL]
      rw [if_neg (by rw [ex]; omega)]
    · rw [nb3_no hk hc h]; rfl
  rw [n0, n1, n2, n3]; omega

/-- land neighbors of a land cell -/
def lnb (R C : Nat) (Z : Nat → Int) (lv : Int) (k : Nat) : Nat := if lv ≤ Z k then nbl R C Z lv k else 0
theorem lnb_rc {R C : Nat} (Z : Nat → Int) (lv : Int) {r c : Nat} (hr : r < R) (hc : c < C) : lnb R C Z lv (r * C + c) = ((if 1 ≤ r then vz C Z lv (r - 1) c else 0) + (if c + 1 < C then hz C Z lv r c else 0)) + ((if r + 1 < R then vz C Z lv r c else 0) + (if 1 ≤ c then hz C Z lv r (c - 1) else 0)) := by
  have hk := rc_lt hr hc
  have h0 := nbl_at (Z := Z) (lv := lv) (⟨r * C + c, hk⟩ : Ix (R * C))
  simp only at h0
  unfold lnb
  rw [h0, near_four]
  simp only [landL_append]
  by_cases hl : lv ≤ Z (r * C + c)
  · rw [if_pos hl]
    have n0 : landL Z lv (nb R C ⟨r * C + c, hk⟩ 0).toList = (if 1 ≤ r then vz C Z lv (r - 1) c else 0) := by
      by_cases h : 1 ≤ r
      · obtain ⟨x, e, ex⟩ := nb0_yes hk hc h
        have e2 : r - 1 + 1 = r := by omega
        rw [e, if_pos h]; simp only [Option.toList_some, landL, ex, vz, e2, hl, and_true, Nat.add_zero]
      · rw [nb0_no hk hc h, if_neg h]; rfl
    have n1 : landL Z lv (nb R C ⟨r * C + c, hk⟩ 1).toList = (if c + 1 < C then hz C Z lv r c else 0) := by
      by_cases h : c + 1 < C
      · obtain ⟨x, e, ex⟩ := nb1_yes hk hc h
        rw [e, if_pos h]; simp only [Option.toList_some, landL, ex, hz, hl, true_and, Nat.add_zero]
      · rw [nb1_no hk hc h, if_neg h]; rfl
    have n2 : landL Z lv (nb R C ⟨r * C + c, hk⟩ 2).toList = (if r + 1 < R then vz C Z lv r c else 0) := by
      by_cases h : r + 1 < R
      · obtain ⟨x, e, ex⟩ := nb2_yes hk hr hc h
        rw [e, if_pos h]; simp only [Option.toList_some, landL, ex, vz, hl, true_and, Nat.add_zero]
      · rw [nb2_no hk hr hc h, if_neg h]; rfl
    have n3 : landL Z lv (nb R C ⟨r * C + c, hk⟩ 3).toList = (if 1 ≤ c then hz C Z lv r (c - 1) else 0) := by
      by_cases h : 1 ≤ c
      · obtain ⟨x, e, ex⟩ := nb3_yes hk hc h
        have e2 : c - 1 + 1 = c := by omega
        rw [e, if_pos h]; simp only [Option.toList_some, landL, ex, hz, e2, hl, and_true, Nat.add_zero]
      · rw [nb3_no hk hc h, if_neg h]; rfl
    rw [n0, n1, n2, n3]; omega
  · rw [if_neg hl]
    have v0 : (if 1 ≤ r then vz C Z lv (r - 1) c else 0) = 0 := by
      split
      · have e2 : r - 1 + 1 = r := by omega
        unfold vz; rw [e2, if_neg (fun h => hl h.2)]
      · rfl
    have v1 : hz C Z lv r c = 0 := by unfold hz; rw [if_neg (fun h => hl h.1)]
    have v2 : vz C Z lv r c = 0 := by unfold vz; rw [if_neg (fun h => hl h.1)]
    have v3 : (if 1 ≤ c then hz C Z lv r (c - 1) else 0) = 0 := by
      split
      · have e2 : c - 1 + 1 = c := by omega
        unfold hz; rw [e2, if_neg (fun h => hl h.2)]
      · rfl
    rw [v0, v1, v2, v3]; simp

theorem Sm_if {R C : Nat} (p : Nat → Prop) [DecidablePred p] (f : Nat → Nat → Nat) : Sm R (fun r => Sm C (fun c => if p r then f r c else 0)) = Sm R (fun r => if p r then Sm C (fun c => f r c) else 0) := Sm_congr (fun r hr => by
  by_cases h : p r
  · simp only [h, if_true]
  · simp only [h, if_false]; exact Sm_zero C)
theorem lnb_S (R C : Nat) (Z : Nat → Int) (lv : Int) : Sm (R * C) (lnb R C Z lv) = 2 * (Sh R C Z lv + Sv R C Z lv) := by
  rw [Sm_rows]
  rw [Sm_congr (g := fun r => (Sm C (fun c => if 1 ≤ r then vz C Z lv (r - 1) c else 0) + Sm C (fun c => if c + 1 < C then hz C Z lv r c else 0)) + (Sm C (fun c => if r + 1 < R then vz C Z lv r c else 0) + Sm C (fun c => if 1 ≤ c then hz C Z lv r (c - 1) else 0))) (fun r hr => by
    rw [← Sm_add, ← Sm_add, ← Sm_add]
    exact Sm_congr (fun c hc => lnb_rc Z lv hr hc))]
  rw [Sm_add, Sm_add, Sm_add]
  have a1 : Sm R (fun r => Sm C (fun c => if 1 ≤ r then vz C Z lv (r - 1) c else 0)) = Sv R C Z lv := by
    rw [Sm_if (fun r => 1 ≤ r) (fun r c => vz C Z lv (r - 1) c)]
    exact Sm_shift (fun r => Sm C (fun c => vz C Z lv r c)) R
  have a2 : Sm R (fun r => Sm C (fun c => if c + 1 < C then hz C Z lv r c else 0)) = Sh R C Z lv := Sm_congr (fun r hr => Sm_cut _ C)
  have a3 : Sm R (fun r => Sm C (fun c => if r + 1 < R then vz C Z lv r c else 0)) = Sv R C Z lv := by
    rw [Sm_if (fun r => r + 1 < R) (fun r c => vz C Z lv r c)]
    exact Sm_cut _ R
  have a4 : Sm R (fun r => Sm C (fun c => if 1 ≤ c then hz C Z lv r (c - 1) else 0)) = Sh R C Z lv := Sm_congr (fun r hr => Sm_shift (fun c => hz C Z lv r c) C)
  rw [a1, a2, a3, a4]; omega
theorem shoreN_Sm (R C : Nat) (Z : Nat → Int) (lv : Int) : ∀ n : Nat, shoreN R C Z lv n + Sm n (lnb R C Z lv) = 4 * landN Z lv n
  | 0 => rfl
  | n + 1 => by
    have h := shoreN_Sm R C Z lv n
    have h2 := nbl_le R C Z lv n
    simp only [shoreN, Sm, landN, lnb]
    split <;> omega
theorem shoreN_S (R C : Nat) (Z : Nat → Int) (lv : Int) : shoreN R C Z lv (R * C) + 2 * (Sh R C Z lv + Sv R C Z lv) = 4 * Sl R C Z lv := by
  rw [← lnb_S, shoreN_Sm, landN_S]

theorem sidesN_S (R C : Nat) (Z : Nat → Int) (lv : Int) : sidesN R C Z lv (R * C) = Sh R C Z lv + Sv R C Z lv := by
  rw [sidesN_Sm, Sm_rows]
  have h1 : Sm R (fun r => Sm C (fun c => sdAt R C Z lv (r * C + c))) = Sm R (fun r => Sm C (fun c => (if c + 1 < C then hz C Z lv r c else 0)) + Sm C (fun c => (if r + 1 < R then vz C Z lv r c else 0))) := Sm_congr (fun r hr => by
    rw [← Sm_add]
    exact Sm_congr (fun c hc => sdAt_rc Z lv hr hc))
  rw [h1, Sm_add]
  congr 1
  · exact Sm_congr (fun r hr => Sm_cut _ C)
  · have h2 : Sm R (fun r => Sm C (fun c => (if r + 1 < R then vz C Z lv r c else 0))) = Sm R (fun r => if r + 1 < R then Sm C (fun c => vz C Z lv r c) else 0) := Sm_congr (fun r hr => by
      by_cases h : r + 1 < R
      · simp only [h, if_true]
      · simp only [h, if_false]; exact Sm_zero C)
    rw [h2]
    exact Sm_cut _ R

/-- turned and mirrored cells -/
theorem Sl_turn {R C : Nat} {Z Y : Nat → Int} (lv : Int) (h : ∀ r c, r < C → c < R → Y (r * R + c) = Z ((R - 1 - c) * C + r)) : Sl C R Y lv = Sl R C Z lv := by
  unfold Sl
  rw [Sm_congr (g := fun r => Sm R (fun c => lz C Z lv (R - 1 - c) r)) (fun r hr => Sm_congr fun c hc => by unfold lz; rw [h r c hr hc])]
  rw [Sm_swap]
  exact Sm_rev (fun r => Sm C (fun c => lz C Z lv r c)) R
theorem Sh_turn {R C : Nat} {Z Y : Nat → Int} (lv : Int) (h : ∀ r c, r < C → c < R → Y (r * R + c) = Z ((R - 1 - c) * C + r)) : Sh C R Y lv = Sv R C Z lv := by
  unfold Sh Sv
  rw [Sm_congr (g := fun r => Sm (R - 1) (fun c => vz C Z lv (R - 1 - 1 - c) r)) (fun r hr => Sm_congr fun c hc => by
    unfold hz vz
    rw [h r c hr (by omega), h r (c + 1) hr (by omega)]
    have e1 : R - 1 - (c + 1) = R - 1 - 1 - c := by omega
    have e2 : R - 1 - c = R - 1 - 1 - c + 1 := by omega
    rw [e1, ← e2]
    simp only [and_comm])]
  rw [Sm_swap]
  exact Sm_rev (fun r => Sm C (fun c => vz C Z lv r c)) (R - 1)
theorem Sv_turn {R C : Nat} {Z Y : Nat → Int} (lv : Int) (h : ∀ r c, r < C → c < R → Y (r * R + c) = Z ((R - 1 - c) * C + r)) : Sv C R Y lv = Sh R C Z lv := by
  unfold Sh Sv
  rw [Sm_congr (g := fun r => Sm R (fun c => hz C Z lv (R - 1 - c) r)) (fun r hr => Sm_congr fun c hc => by
    unfold hz vz
    rw [h r c (by omega) hc, h (r + 1) c (by omega) hc])]
  rw [Sm_swap]
  exact Sm_rev (fun r => Sm (C - 1) (fun c => hz C Z lv r c)) R
theorem Sc_turn {R C : Nat} {Z Y : Nat → Int} (lv : Int) (h : ∀ r c, r < C → c < R → Y (r * R + c) = Z ((R - 1 - c) * C + r)) : Sc C R Y lv = Sc R C Z lv := by
  unfold Sc
  rw [Sm_congr (g := fun r => Sm (R - 1) (fun c => cz C Z lv (R - 1 - 1 - c) r)) (fun r hr => Sm_congr fun c hc => by
    have e1 : R - 1 - (c + 1) = R - 1 - 1 - c := by omega
    have e2 : R - 1 - c = R - 1 - 1 - c + 1 := by omega
    have hiff : CrOk R Y lv r c ↔ CrOk C Z lv (R - 1 - 1 - c) r := by
      unfold CrOk
      rw [h r c (by omega) (by omega), h r (c + 1) (by omega) (by omega), h (r + 1) c (by omega) (by omega), h (r + 1) (c + 1) (by omega) (by omega), e1, ← e2]
      constructor
      · rintro ⟨a, b, c, d⟩; exact ⟨b, d, a, c⟩
      · rintro ⟨a, b, c, d⟩; exact ⟨c, a, d, b⟩
    unfold cz
    by_cases e : CrOk C Z lv (R - 1 - 1 - c) r
    · rw [if_pos e, if_pos (hiff.2 e)]
    · rw [if_neg e, if_neg (fun k => e (hiff.1 k))])]
  rw [Sm_swap]
  exact Sm_rev (fun r => Sm (C - 1) (fun c => cz C Z lv r c)) (R - 1)
theorem Sh_mirror {R C : Nat} {Z Y : Nat → Int} (lv : Int) (h : ∀ r c, r < R → c < C → Y (r * C + c) = Z (r * C + (C - 1 - c))) : Sh R C Y lv = Sh R C Z lv := by
  unfold Sh
  refine Sm_congr (fun r hr => ?_)
  rw [Sm_congr (g := fun c => hz C Z lv r (C - 1 - 1 - c)) (fun c hc => by
    unfold hz
    rw [h r c hr (by omega), h r (c + 1) hr (by omega)]
    have e1 : C - 1 - (c + 1) = C - 1 - 1 - c := by omega
    have e2 : C - 1 - c = C - 1 - 1 - c + 1 := by omega
    rw [e1, ← e2]
    simp only [and_comm])]
  exact Sm_rev (fun c => hz C Z lv r c) (C - 1)
theorem Sv_mirror {R C : Nat} {Z Y : Nat → Int} (lv : Int) (h : ∀ r c, r < R → c < C → Y (r * C + c) = Z (r * C + (C - 1 - c))) : Sv R C Y lv = Sv R C Z lv := by
  unfold Sv
  refine Sm_congr (fun r hr => ?_)
  rw [Sm_congr (g := fun c => vz C Z lv r (C - 1 - c)) (fun c hc => by
    unfold vz
    rw [h r c (by omega) hc, h (r + 1) c (by omega) hc])]
  exact Sm_rev (fun c => vz C Z lv r c) C

/-- sides are few, and fewer at a higher level -/
theorem hz_le (C : Nat) (Z : Nat → Int) (lv : Int) (r c : Nat) : hz C Z lv r c ≤ lz C Z lv r c := by
  unfold hz lz
  split
  · rename_i h; rw [if_pos h.1]; omega
  · omega
theorem vz_le (C : Nat) (Z : Nat → Int) (lv : Int) (r c : Nat) : vz C Z lv r c ≤ lz C Z lv r c := by
  unfold vz lz
  split
  · rename_i h; rw [if_pos h.1]; omega
  · omega
theorem Sh_le (R C : Nat) (Z : Nat → Int) (lv : Int) : Sh R C Z lv ≤ Sl R C Z lv := Sm_le fun r _ => Nat.le_trans (Sm_le fun c _ => hz_le C Z lv r c) (Sm_more (by omega))
theorem Sv_le (R C : Nat) (Z : Nat → Int) (lv : Int) : Sv R C Z lv ≤ Sl R C Z lv := Nat.le_trans (Sm_le fun r _ => Sm_le fun c _ => vz_le C Z lv r c) (Sm_more (f := fun r => Sm C (fun c => lz C Z lv r c)) (by omega))
theorem Sc_le (R C : Nat) (Z : Nat → Int) (lv : Int) : Sc R C Z lv ≤ Sh R C Z lv := Nat.le_trans (Sm_le fun r _ => Sm_le fun c _ => (by
    unfold cz hz
    by_cases e : CrOk C Z lv r c
    · rw [if_pos e, if_pos ⟨e.1, e.2.1⟩]; omega
    · rw [if_neg e]; omega)) (Sm_more (f := fun r => Sm (C - 1) (fun c => hz C Z lv r c)) (by omega))
theorem Sh_down (R C : Nat) (Z : Nat → Int) {a b : Int} (h : a ≤ b) : Sh R C Z b ≤ Sh R C Z a := Sm_le fun r _ => Sm_le fun c _ => (by
    unfold hz
    split
    · rename_i e; rw [if_pos ⟨by omega, by omega⟩]; omega
    · omega)
theorem Sv_down (R C : Nat) (Z : Nat → Int) {a b : Int} (h : a ≤ b) : Sv R C Z b ≤ Sv R C Z a := Sm_le fun r _ => Sm_le fun c _ => (by
    unfold vz
    split
    · rename_i e; rw [if_pos ⟨by omega, by omega⟩]; omega
    · omega)
theorem Sc_down (R C : Nat) (Z : Nat → Int) {a b : Int} (h : a ≤ b) : Sc R C Z b ≤ Sc R C Z a := Sm_le fun r _ => Sm_le fun c _ => (by
    unfold cz
    by_cases e : CrOk C Z b r c
    · obtain ⟨e1, e2, e3, e4⟩ := e
      rw [if_pos ⟨e1, e2, e3, e4⟩, if_pos ⟨by omega, by omega, by omega, by omega⟩]; omega
    · rw [if_neg e]; omega)

end Go.Proofs.Ytplfphpnpjjinaa
