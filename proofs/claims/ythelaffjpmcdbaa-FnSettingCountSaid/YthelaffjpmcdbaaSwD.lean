/- Settings counted one by one: what is reckoned. -/
import Derived.Test.YthelaffjpmcdbaaSwC
namespace Go.Proofs.Ythelaffjpmcdbaa
set_option linter.unusedVariables false

/-- how many numbers below n have a mark -/
def cnS (P : Nat → Bool) : Nat → Nat
  | 0 => 0
  | k + 1 => cnS P k + (if P k = true then 1 else 0)
theorem cnS_le (P : Nat → Bool) : ∀ n, cnS P n ≤ n
  | 0 => Nat.le_refl _
  | k + 1 => by have := cnS_le P k; unfold cnS; split <;> omega
theorem cnS_congr {P Q : Nat → Bool} : ∀ {n : Nat}, (∀ x, x < n → P x = Q x) → cnS P n = cnS Q n
  | 0, _ => rfl
  | k + 1, h => by
    have h1 := cnS_congr (P := P) (Q := Q) (n := k) (fun x hx => h x (by omega))
    unfold cnS
    rw [h1, h k (by omega)]
theorem cnS_zero {P : Nat → Bool} : ∀ {n : Nat}, (∀ x, x < n → P x = false) → cnS P n = 0
  | 0, _ => rfl
  | k + 1, h => by
    have h1 := cnS_zero (P := P) (n := k) (fun x hx => h x (by omega))
    unfold cnS
    rw [h1, h k (by omega)]
    rfl
theorem cnS_step (P : Nat → Bool) (k : Nat) : cnS P (k + 1) = cnS P k + (if P k = true then 1 else 0) := rfl
theorem cnS_five (P : Nat → Bool) : ∀ N, cnS P (5 * N) = cnS (fun s => P (5 * s)) N + cnS (fun s => P (5 * s + 1)) N + cnS (fun s => P (5 * s + 2)) N + cnS (fun s => P (5 * s + 3)) N + cnS (fun s => P (5 * s + 4)) N
  | 0 => rfl
  | N + 1 => by
    have ih := cnS_five P N
    rw [show 5 * (N + 1) = 5 * N + 1 + 1 + 1 + 1 + 1 by omega, cnS_step, cnS_step, cnS_step, cnS_step, cnS_step, cnS_step, cnS_step, cnS_step, cnS_step, cnS_step, ih]
    show _ = _ + (if P (5 * N) = true then 1 else 0) + (_ + (if P (5 * N + 1) = true then 1 else 0)) + (_ + (if P (5 * N + 2) = true then 1 else 0)) + (_ + (if P (5 * N + 3) = true then 1 else 0)) + (_ + (if P (5 * N + 4) = true then 1 else 0))
    rw [show 5 * N + 1 + 1 = 5 * N + 2 by omega, show 5 * N + 2 + 1 = 5 * N + 3 by omega, show 5 * N + 3 + 1 = 5 * N + 4 by omega]
    omega
/-- the digits of a number, one less each -/
def dg (s i : Nat) : Int := ((s / 5 ^ i % 5 : Nat) : Int) - 1
theorem dg_zero (s d : Nat) (hd : d < 5) : dg (5 * s + d) 0 = (d : Int) - 1 := by
  unfold dg
  rw [Nat.pow_zero, Nat.div_one, Nat.mul_add_mod, Nat.mod_eq_of_lt hd]
theorem dg_succ (s d i : Nat) (hd : d < 5) : dg (5 * s + d) (i + 1) = dg s i := by
  unfold dg
  rw [Nat.pow_succ, Nat.mul_comm (5 ^ i) 5, ← Nat.div_div_eq_div_mul, Nat.mul_add_div (by omega), Nat.div_eq_of_lt hd, Nat.add_zero]
noncomputable def vaB (Z : Nat → Int) (n : Nat) (sd : Nat → Int) : Bool := (alK Z n sd n).isSome
def extS (sd : Nat → Int) (k s i : Nat) : Int := if i < k then sd i else dg s (i - k)
theorem ext_step (sd : Nat → Int) (k s d i : Nat) (hd : d < 5) : extS sd k (5 * s + d) i = extS (upS sd k ((d : Int) - 1)) (k + 1) s i := by
  unfold extS upS
  by_cases h : i < k
  · rw [if_pos h, if_pos (by omega), if_neg (by omega)]
  · rw [if_neg h]
    by_cases e : i = k
    · subst e
      rw [if_pos (by omega), if_pos rfl, Nat.sub_self, dg_zero s d hd]
    · rw [if_neg (by omega), show i - k = (i - (k + 1)) + 1 by omega, dg_succ s d _ hd]
theorem vaB_congr {Z : Nat → Int} {n : Nat} {sd sd' : Nat → Int} (h : ∀ i, sd i = sd' i) : vaB Z n sd = vaB Z n sd' := by
  unfold vaB; rw [alK_congr (fun k _ => h k)]
theorem count_ext {Z : Nat → Int} {n : Nat} : ∀ f k sd M, k + f = n → alK Z n sd k = some M → cnS (fun s => vaB Z n (extS sd k s)) (5 ^ f) = ct Z f k M
  | 0, k, sd, M, hk, hM => by
    obtain rfl : k = n := by omega
    have e : vaB Z k (extS sd k 0) = true := by
      unfold vaB
      rw [alK_congr (sd' := sd) (fun i hi => by unfold extS; rw [if_pos hi]), hM]
      rfl
    show (0 + if vaB Z k (extS sd k 0) = true then 1 else 0) = 1
    rw [e]; rfl
  | f + 1, k, sd, M, hk, hM => by
    have hupk : ∀ d : Int, alK Z n (upS sd k d) k = some M := fun d => by
      rw [← hM]; exact alK_congr (fun i hi => by unfold upS; rw [if_neg (by omega)])
    have hself : ∀ d : Int, upS sd k d k = d := fun d => if_pos rfl
    have hc : ∀ d : Nat, d < 5 → cnS (fun s => vaB Z n (extS sd k (5 * s + d))) (5 ^ f) = cnS (fun s => vaB Z n (extS (upS sd k ((d : Int) - 1)) (k + 1) s)) (5 ^ f) := fun d hd => cnS_congr (fun s _ => vaB_congr (fun i => ext_step sd k s d i hd))
    have h0 : cnS (fun s => vaB Z n (extS sd k (5 * s))) (5 ^ f) = ct Z f (k + 1) M := by
      have := hc 0 (by omega)
      simp only [Nat.add_zero] at this
      rw [this]
      exact count_ext f (k + 1) _ M (by omega) (alK_out (hupk _) (hself _))
    have hs : ∀ s : Nat, s < 4 → cnS (fun t => vaB Z n (extS sd k (5 * t + (s + 1)))) (5 ^ f) = (if ftB Z M k (s : Int) = true then ct Z f (k + 1) (stp Z M k s) else 0) := fun s hs4 => by
      rw [hc (s + 1) (by omega), show (((s + 1 : Nat) : Int) - 1) = (s : Int) by omega]
      by_cases hf : Fit Z M k s
      · rw [ftB_yes hf, if_pos rfl]
        have := alK_yes (hupk (s : Int)) (by rw [hself]; omega) (by rw [hself]; exact hf)
        rw [hself] at this
        exact count_ext f (k + 1) _ _ (by omega) this
      · rw [ftB_no hf]
        have hno := alK_no (hupk (s : Int)) (by rw [hself]; omega) (by rw [hself]; exact hf)
        refine cnS_zero (fun t _ => ?_)
        unfold vaB
        have e : alK Z n (extS (upS sd k (s : Int)) (k + 1) t) (k + 1) = none := by
          rw [← hno]; exact alK_congr (fun i hi => by unfold extS; rw [if_pos hi])
        rw [alK_none_le e n (by omega)]
        rfl
    rw [Nat.pow_succ, Nat.mul_comm, cnS_five]
    have a0 : cnS (fun t => vaB Z n (extS sd k (5 * t + 1))) (5 ^ f) = _ := hs 0 (by omega)
    have a1 : cnS (fun t => vaB Z n (extS sd k (5 * t + 2))) (5 ^ f) = _ := hs 1 (by omega)
    have a2 : cnS (fun t => vaB Z n (extS sd k (5 * t + 3))) (5 ^ f) = _ := hs 2 (by omega)
    have a3 : cnS (fun t => vaB Z n (extS sd k (5 * t + 4))) (5 ^ f) = _ := hs 3 (by omega)
    rw [h0]
    show _ = ct Z f (k + 1) M + ((((0 + (if ftB Z M k ((0 : Nat) : Int) = true then ct Z f (k + 1) (stp Z M k ((0 : Nat) : Int)) else 0)) + (if ftB Z M k ((1 : Nat) : Int) = true then ct Z f (k + 1) (stp Z M k ((1 : Nat) : Int)) else 0)) + (if ftB Z M k ((2 : Nat) : Int) = true then ct Z f (k + 1) (stp Z M k ((2 : Nat) : Int)) else 0)) + (if ftB Z M k ((3 : Nat) : Int) = true then ct Z f (k + 1) (stp Z M k ((3 : Nat) : Int)) else 0))
    omega
theorem count_all {Z : Nat → Int} {n : Nat} (h : LsOk n Z) : cnS (fun s => svB n Z n (dg s)) (5 ^ n) = ct Z n 0 (mpK Z n) := by
  rw [← count_ext (Z := Z) (n := n) n 0 (fun _ => -1) (mpK Z n) (by omega) rfl]
  refine cnS_congr (fun s _ => ?_)
  have e : ∀ i, extS (fun _ => -1) 0 s i = dg s i := fun i => by unfold extS; rw [if_neg (by omega), Nat.sub_zero]
  rw [vaB_congr e]
  unfold vaB
  cases g : alK Z n (dg s) n with
  | none => exact svB_no (fun k => by obtain ⟨_, _, M, hM⟩ := k; rw [g] at hM; cases hM)
  | some M => exact svB_yes ⟨h, rfl, M, g⟩
theorem dg_range (s i : Nat) : -1 ≤ dg s i ∧ dg s i ≤ 3 := by
  unfold dg
  have := Nat.mod_lt (s / 5 ^ i) (show 0 < 5 by omega)
  omega
end Go.Proofs.Ythelaffjpmcdbaa
