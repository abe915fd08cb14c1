/- Regions and their highest peaks: what is reckoned. -/
import Derived.Test.YtcfeckpbjdipeaaPkP
import Derived.Test.YtcfeckpbjdipeaaKeZ
import Derived.Test.YtcfeckpbjdipeaaRgZ
import Derived.Test.YtcfeckpbjdipeaaIslZ
namespace Go.Proofs.Ytcfeckpbjdipeaa
set_option linter.unusedVariables false

/-- how many numbers below n have a mark -/
def cnB (P : Nat → Bool) : Nat → Nat
  | 0 => 0
  | k + 1 => cnB P k + (if P k = true then 1 else 0)
theorem cnB_le (P : Nat → Bool) : ∀ n, cnB P n ≤ n
  | 0 => Nat.le_refl _
  | k + 1 => by have := cnB_le P k; unfold cnB; split <;> omega
theorem cnB_congr {P Q : Nat → Bool} : ∀ {n : Nat}, (∀ x, x < n → P x = Q x) → cnB P n = cnB Q n
  | 0, _ => rfl
  | k + 1, h => by
    have h1 := cnB_congr (P := P) (Q := Q) (n := k) (fun x hx => h x (by omega))
    unfold cnB
    rw [h1, h k (by omega)]
theorem cnB_zero {P : Nat → Bool} : ∀ {n : Nat}, (∀ x, x < n → P x = false) → cnB P n = 0
  | 0, _ => rfl
  | k + 1, h => by
    have h1 := cnB_zero (P := P) (n := k) (fun x hx => h x (by omega))
    unfold cnB
    rw [h1, h k (by omega)]
    rfl
theorem cnB_one {P : Nat → Bool} {b : Nat} : ∀ {n : Nat}, b < n → P b = true → (∀ x, x < n → P x = true → x = b) → cnB P n = 1
  | 0, h, _, _ => by omega
  | k + 1, hb, h1, h2 => by
    by_cases e : b = k
    · subst e
      have h0 := cnB_zero (P := P) (n := b) (fun x hx => by
        cases hp : P x with
        | false => rfl
        | true => have := h2 x (by omega) hp; omega)
      unfold cnB
      rw [h0, if_pos h1]
    · have ih := cnB_one (P := P) (b := b) (n := k) (by omega) h1 (fun x hx hp => h2 x (by omega) hp)
      have hk : ¬ P k = true := fun hp => e (h2 k (by omega) hp).symm
      unfold cnB
      rw [ih, if_neg hk]
theorem cnB_add {P Q S : Nat → Bool} : ∀ {n : Nat}, (∀ x, x < n → (if P x = true then 1 else 0) = (if Q x = true then 1 else 0) + (if S x = true then 1 else (0 : Nat))) → cnB P n = cnB Q n + cnB S n
  | 0, _ => rfl
  | k + 1, h => by
    have h1 := cnB_add (P := P) (Q := Q) (S := S) (n := k) (fun x hx => h x (by omega))
    have h2 := h k (by omega)
    unfold cnB
    omega

/-! Ways and regions. -/
theorem rch_cm {R C : Nat} {Z : Nat → Int} {lv : Int} {a b : Ix (R * C)} (h : Rch R C Z lv a b) : cmZ R C Z lv a.1 = cmZ R C Z lv b.1 := by
  induction h with
  | here h => rfl
  | step h hn hc ih => exact ih.trans (cm_adj ⟨hn, h.lst, hc⟩)
theorem cm_rch {R C : Nat} {Z : Nat → Int} {lv : Int} {a b : Ix (R * C)} (ha : lv ≤ Z a.1) (e : cmZ R C Z lv a.1 = cmZ R C Z lv b.1) : Rch R C Z lv a b := by
  have h := cm_closed (R := R) (C := C) (Z := Z) (lv := lv) (fun y => ∃ h : y < R * C, Rch R C Z lv a ⟨y, h⟩) (fun x y hab hx => by
    obtain ⟨h1, h2⟩ := hx
    exact ⟨y.2, h2.step hab.1 hab.2.2⟩) (x := a.1) (y := b.1) e ⟨a.2, .here ha⟩
  exact h.2
theorem ps_rch {R C : Nat} {Z : Nat → Int} {lv v : Int} {a b : Ix (R * C)} (h : IsPs R C Z a b v) : lv ≤ v ↔ Rch R C Z lv a b := ⟨fun k => h.1.low k, fun k => h.2 _ k⟩

theorem pkQ_iff {R C : Nat} {Z : Nat → Int} {i : Ix (R * C)} : pkQ R C Z i = true ↔ ∀ x, x ∈ near R C i 4 → hiB Z x.1 i.1 = false := by
  unfold pkQ pkL
  rw [List.all_eq_true]
  constructor
  · intro h x hx
    have := h x hx
    simpa using this
  · intro h x hx
    have := h x hx
    simp [this]

/-- the highest cell of a region -/
def TopR (R C : Nat) (Z : Nat → Int) (lv : Int) (j : Nat) : Prop := lv ≤ Z j ∧ ∀ x, x < R * C → lv ≤ Z x → cmZ R C Z lv x = cmZ R C Z lv j → hiB Z x j = false
theorem TopR.peak {R C : Nat} {Z : Nat → Int} {lv : Int} {i : Ix (R * C)} (h : TopR R C Z lv i.1) : pkQ R C Z i = true := by
  rw [pkQ_iff]
  intro x hx
  cases g : hiB Z x.1 i.1 with
  | false => rfl
  | true =>
    have g2 := hiB_iff.1 g
    have hl : lv ≤ Z x.1 := by have := h.1; omega
    have e := cm_adj (R := R) (C := C) (Z := Z) (lv := lv) (x := i) (y := x) ⟨hx, h.1, hl⟩
    rw [h.2 x.1 x.2 hl e.symm] at g
    cases g
theorem top_iff {R C : Nat} {Z : Nat → Int} {lv : Int} (hZ : ∀ x, x < R * C → 0 ≤ Z x ∧ Z x ≤ 99) (hlow : mn Z (R * C) < lv) (i : Ix (R * C)) (hl : lv ≤ Z i.1) :
    (pkQ R C Z i = true ∧ keyV R C Z i < lv) ↔ TopR R C Z lv i.1 := by
  constructor
  · rintro ⟨h1, h2⟩
    refine ⟨hl, fun x hx hlx e => ?_⟩
    cases g : hiB Z x i.1 with
    | false => rfl
    | true =>
      have hr : Rch R C Z lv i ⟨x, hx⟩ := cm_rch hl e.symm
      rcases keyV_is hZ i with ⟨y, k1, k2, k3⟩ | ⟨k1, k2, k3⟩
      · have hp := psV_is hZ i ⟨x, hx⟩
        have := k3 ⟨x, hx⟩ _ g hp
        have := (ps_rch hp).2 hr
        omega
      · have := k1 ⟨x, hx⟩
        simp only at this
        rw [g] at this; cases this
  · intro h
    refine ⟨h.peak, ?_⟩
    rcases keyV_is hZ i with ⟨y, k1, k2, k3⟩ | ⟨k1, k2, k3⟩
    · by_cases hv : lv ≤ keyV R C Z i
      · have hr := (ps_rch k2).1 hv
        have k4 := h.2 y.1 y.2 hr.lst (rch_cm hr).symm
        have k5 : hiB Z y.1 i.1 = true := k1
        rw [k4] at k5; cases k5
      · omega
    · obtain ⟨x, hx, e⟩ := mn_isK Z (n := R * C) (by have := i.2; omega)
      have := k2 ⟨x, hx⟩
      simp only at this
      omega
/-- of those with a mark one is the highest -/
theorem best_in (Z : Nat → Int) (S : Nat → Prop) : ∀ n, (∃ x, x < n ∧ S x) → ∃ b, b < n ∧ S b ∧ ∀ x, x < n → S x → hiB Z x b = false
  | 0, h => by obtain ⟨x, h, _⟩ := h; omega
  | n + 1, h => by
    by_cases hn : ∃ x, x < n ∧ S x
    · obtain ⟨b, hb, hs, hm⟩ := best_in Z S n hn
      by_cases hSn : S n
      · by_cases g : hiB Z n b = true
        · refine ⟨n, by omega, hSn, fun x hx hx2 => ?_⟩
          by_cases e : x = n
          · rw [e]; exact hiB_irr Z n
          · have h1 := hm x (by omega) hx2
            cases g2 : hiB Z x n with
            | false => rfl
            | true => rw [hiB_trans g2 g] at h1; cases h1
        · refine ⟨b, by omega, hs, fun x hx hx2 => ?_⟩
          by_cases e : x = n
          · rw [e]; simpa using g
          · exact hm x (by omega) hx2
      · exact ⟨b, by omega, hs, fun x hx hx2 => hm x (by
          rcases Nat.lt_or_ge x n with h | h
          · exact h
          · exact absurd (by rwa [show x = n by omega] at hx2) hSn) hx2⟩
    · obtain ⟨x, hx, hs⟩ := h
      have e : x = n := by
        rcases Nat.lt_or_ge x n with h | h
        · exact absurd ⟨x, h, hs⟩ hn
        · omega
      subst e
      refine ⟨x, by omega, hs, fun y hy hy2 => ?_⟩
      rcases Nat.lt_or_ge y x with h | h
      · exact absurd ⟨y, h, hy2⟩ hn
      · rw [show y = x by omega]; exact hiB_irr Z x

open Classical in
noncomputable def topB (R C : Nat) (Z : Nat → Int) (lv : Int) (j : Nat) : Bool := decide (TopR R C Z lv j)
theorem topB_iff {R C : Nat} {Z : Nat → Int} {lv : Int} {j : Nat} : topB R C Z lv j = true ↔ TopR R C Z lv j := by unfold topB; simp
theorem top_cnt (R C : Nat) (Z : Nat → Int) (lv : Int) : ∀ k, k ≤ R * C → cnB (fun j => topB R C Z lv j && decide (cmZ R C Z lv j < k)) (R * C) = rgN R C Z lv k
  | 0, _ => cnB_zero (fun x _ => by simp)
  | k + 1, hk => by
    have ih := top_cnt R C Z lv k (by omega)
    rw [cnB_add (Q := fun j => topB R C Z lv j && decide (cmZ R C Z lv j < k)) (S := fun j => topB R C Z lv j && decide (cmZ R C Z lv j = k)) (fun x _ => by
      cases topB R C Z lv x
      · simp
      · rcases Nat.lt_trichotomy (cmZ R C Z lv x) k with h | h | h
        · have h1 : cmZ R C Z lv x < k + 1 := by omega
          have h2 : ¬ cmZ R C Z lv x = k := by omega
          simp [h, h1, h2]
        · have h1 : cmZ R C Z lv x < k + 1 := by omega
          have h2 : ¬ cmZ R C Z lv x < k := by omega
          simp [h]
        · have h1 : ¬ cmZ R C Z lv x < k + 1 := by omega
          have h2 : ¬ cmZ R C Z lv x < k := by omega
          have h3 : ¬ cmZ R C Z lv x = k := by omega
          simp [h1, h2, h3]), ih]
    show rgN R C Z lv k + _ = rgN R C Z lv k + (if lv ≤ Z k ∧ cmZ R C Z lv k = k then 1 else 0)
    congr 1
    by_cases hr : lv ≤ Z k ∧ cmZ R C Z lv k = k
    · rw [if_pos hr]
      obtain ⟨b, hb, ⟨hs1, hs2⟩, hm⟩ := best_in Z (fun x => lv ≤ Z x ∧ cmZ R C Z lv x = k) (R * C) ⟨k, by omega, hr⟩
      have hT : TopR R C Z lv b := ⟨hs1, fun x hx hlx e => hm x hx ⟨hlx, by rw [e, hs2]⟩⟩
      refine cnB_one (b := b) hb (by rw [topB_iff.2 hT, hs2]; simp) (fun x hx hp => ?_)
      simp only [Bool.and_eq_true, decide_eq_true_eq] at hp
      have hx1 := topB_iff.1 hp.1
      exact hiB_tot (hm x hx ⟨hx1.1, hp.2⟩) (hx1.2 b hb hs1 (by rw [hs2, hp.2]))
    · rw [if_neg hr]
      refine cnB_zero (fun x hx => ?_)
      cases ht : topB R C Z lv x with
      | false => simp
      | true =>
        have hx1 := topB_iff.1 ht
        have h1 := cm_land (R := R) (C := C) hx1.1
        have h2 := cmZ_idem R C Z lv x
        have : ¬ cmZ R C Z lv x = k := fun e => hr ⟨by rw [← e]; exact h1, by rw [← e]; exact h2⟩
        simp [this]
theorem top_all (R C : Nat) (Z : Nat → Int) (lv : Int) : cnB (topB R C Z lv) (R * C) = rgN R C Z lv (R * C) := by
  rw [← top_cnt R C Z lv (R * C) (Nat.le_refl _)]
  exact cnB_congr (fun x hx => by
    have := cmZ_le R C Z lv x
    have h : cmZ R C Z lv x < R * C := by omega
    simp [h])

/-! Counts over the list of the peaks. -/
theorem insR_cnt {M : Nat} {Z : Nat → Int} {i : Ix M} (p : Ix M → Bool) : ∀ {l : List (Ix M)}, (insR Z i l).countP p = l.countP p + (if p i = true then 1 else 0)
  | [] => by simp [insR, List.countP_cons]
  | a :: t => by
    unfold insR
    by_cases h : hiB Z a.1 i.1 = true
    · rw [if_pos h, List.countP_cons, List.countP_cons, insR_cnt p (l := t)]; omega
    · rw [if_neg h, List.countP_cons]
theorem rkL_cnt {R C : Nat} {Z : Nat → Int} (p : Nat → Bool) : ∀ {k : Nat}, k ≤ R * C → (rkL R C Z k).countP (fun x => p x.1) = cnB (fun j => pkAt R C Z j && p j) k
  | 0, _ => by simp [rkL, cnB]
  | k + 1, hk => by
    have ih := rkL_cnt (R := R) (C := C) (Z := Z) p (k := k) (by omega)
    have e := pkAt_eq (R := R) (C := C) (Z := Z) ⟨k, by omega⟩
    simp only at e
    unfold cnB
    by_cases h : pkQ R C Z ⟨k, by omega⟩ = true
    · rw [rkL_yes ⟨k, by omega⟩ h, insR_cnt, ih, e, h]
      simp
    · have h2 : pkQ R C Z ⟨k, by omega⟩ = false := by simpa using h
      rw [rkL_no ⟨k, by omega⟩ h2, ih, e, h2]
      simp
open Classical in
/-- a peak over the level whose key is lower -/
noncomputable def topP (R C : Nat) (Z : Nat → Int) (lv : Int) (j : Nat) : Bool := decide (lv ≤ Z j) && decide (∃ h : j < R * C, keyV R C Z ⟨j, h⟩ < lv)
theorem topP_at {R C : Nat} {Z : Nat → Int} {lv : Int} (i : Ix (R * C)) : topP R C Z lv i.1 = (decide (lv ≤ Z i.1) && decide (keyV R C Z i < lv)) := by
  unfold topP
  congr 1
  exact decide_eq_decide.2 ⟨fun h => h.2, fun h => ⟨i.2, h⟩⟩
/-- regions are peaks whose keys are lower -/
theorem peaks_regions {R C : Nat} {Z : Nat → Int} {lv : Int} (hZ : ∀ x, x < R * C → 0 ≤ Z x ∧ Z x ≤ 99) (hlow : mn Z (R * C) < lv) : (rkL R C Z (R * C)).countP (fun x => topP R C Z lv x.1) = rgN R C Z lv (R * C) := by
  rw [rkL_cnt _ (Nat.le_refl _), ← top_all]
  refine cnB_congr (fun j hj => ?_)
  have e := pkAt_eq (R := R) (C := C) (Z := Z) ⟨j, hj⟩
  have e2 := topP_at (R := R) (C := C) (Z := Z) (lv := lv) ⟨j, hj⟩
  simp only at e e2
  rw [e, e2]
  by_cases hl : lv ≤ Z j
  · have h := top_iff hZ hlow ⟨j, hj⟩ hl
    rw [decide_eq_true hl, Bool.true_and]
    by_cases ht : TopR R C Z lv j
    · rw [topB_iff.2 ht, (h.2 ht).1, decide_eq_true (h.2 ht).2]; rfl
    · have h1 : topB R C Z lv j = false := by
        cases g : topB R C Z lv j with
        | false => rfl
        | true => exact absurd (topB_iff.1 g) ht
      rw [h1]
      cases g : pkQ R C Z ⟨j, hj⟩ with
      | false => rfl
      | true =>
        rw [Bool.true_and, decide_eq_false_iff_not]
        exact fun k => ht (h.1 ⟨g, k⟩)
  · have h1 : topB R C Z lv j = false := by
      cases g : topB R C Z lv j with
      | false => rfl
      | true => exact absurd (topB_iff.1 g).1 hl
    rw [h1, decide_eq_false hl]
    simp

/-! Prominences, level by level. -/
theorem smF_add {α : Type} (f : α → Int) (c : Int) : ∀ (l : List α), l.foldl (fun s i => s + f i) c = c + l.foldl (fun s i => s + f i) 0
  | [] => by simp
  | a :: t => by
    rw [List.foldl_cons, List.foldl_cons, smF_add f (c + f a) t, smF_add f (0 + f a) t]; omega
/-- what of the prominences lies below a height -/
def prT (t : Int) (z k : Int) : Int := max 0 (min t z - k)
noncomputable def prS {M : Nat} (t : Int) (Z K : Ix M → Int) (l : List (Ix M)) : Int := l.foldl (fun s i => s + prT t (Z i) (K i)) 0
theorem prS_cons {M : Nat} (t : Int) (Z K : Ix M → Int) (a : Ix M) (l : List (Ix M)) : prS t Z K (a :: l) = prT t (Z a) (K a) + prS t Z K l := by
  unfold prS
  rw [List.foldl_cons, smF_add]
  omega
theorem prS_step {M : Nat} (t : Int) (Z K : Ix M → Int) : ∀ l : List (Ix M), prS (t + 1) Z K l = prS t Z K l + (l.countP (fun i => decide (t + 1 ≤ Z i) && decide (K i < t + 1)) : Nat)
  | [] => by simp [prS]
  | a :: l => by
    rw [prS_cons, prS_cons, prS_step t Z K l, List.countP_cons]
    by_cases h1 : t + 1 ≤ Z a
    · by_cases h2 : K a < t + 1
      · simp only [decide_eq_true h1, decide_eq_true h2, Bool.and_self, if_pos]
        unfold prT; omega
      · simp only [decide_eq_true h1, decide_eq_false h2, Bool.and_false, Bool.false_eq_true, if_false]
        unfold prT; omega
    · simp only [decide_eq_false h1, Bool.false_and, Bool.false_eq_true, if_false]
      unfold prT; omega
theorem prS_low {M : Nat} {t : Int} {Z K : Ix M → Int} (h : ∀ i, t ≤ K i) : ∀ l : List (Ix M), prS t Z K l = 0
  | [] => by simp [prS]
  | a :: l => by
    rw [prS_cons, prS_low h l]
    have := h a
    unfold prT; omega
theorem prS_top {M : Nat} {t : Int} {Z K : Ix M → Int} (h : ∀ i, Z i ≤ t ∧ K i ≤ Z i) : ∀ l : List (Ix M), prS t Z K l = l.foldl (fun s i => s + (Z i - K i)) 0
  | [] => by simp [prS]
  | a :: l => by
    rw [prS_cons, prS_top h l, List.foldl_cons, smF_add (fun i => Z i - K i) (0 + (Z a - K a))]
    have := h a
    unfold prT; omega
theorem keyV_low {R C : Nat} {Z : Nat → Int} (hZ : ∀ x, x < R * C → 0 ≤ Z x ∧ Z x ≤ 99) (i : Ix (R * C)) : mn Z (R * C) ≤ keyV R C Z i := by
  rcases keyV_is hZ i with ⟨x, h1, h2, h3⟩ | ⟨h1, h2, h3⟩
  · exact h2.2 _ (rch_all (fun y hy => mn_leK Z hy) i x)
  · exact h3 _ (fun x => mn_leK Z x.2)
theorem keyV_top {R C : Nat} {Z : Nat → Int} (hZ : ∀ x, x < R * C → 0 ≤ Z x ∧ Z x ≤ 99) (i : Ix (R * C)) : keyV R C Z i ≤ Z i.1 := by
  rcases keyV_is hZ i with ⟨x, h1, h2, h3⟩ | ⟨h1, h2, h3⟩
  · exact h2.1.fst
  · exact h2 i
/-- the regions of m levels over the least height -/
def rgS (R C : Nat) (Z : Nat → Int) (low : Int) : Nat → Int
  | 0 => 0
  | m + 1 => rgS R C Z low m + rgN R C Z (low + m + 1) (R * C)
theorem rgS_succ (R C : Nat) (Z : Nat → Int) (low : Int) (m : Nat) : rgS R C Z low (m + 1) = rgS R C Z low m + rgN R C Z (low + m + 1) (R * C) := rfl
theorem rgS_range {R C : Nat} {Z : Nat → Int} {low : Int} (h : R * C ≤ 49) : ∀ m, 0 ≤ rgS R C Z low m ∧ rgS R C Z low m ≤ 49 * m
  | 0 => by simp [rgS]
  | m + 1 => by
    have := rgS_range (R := R) (C := C) (Z := Z) (low := low) h m
    have := rgN_le R C Z (low + m + 1) (R * C)
    rw [rgS_succ]; omega
theorem rgS_prS {R C : Nat} {Z : Nat → Int} (hZ : ∀ x, x < R * C → 0 ≤ Z x ∧ Z x ≤ 99) : ∀ m, rgS R C Z (mn Z (R * C)) m = prS (mn Z (R * C) + m) (fun i : Ix (R * C) => Z i.1) (fun i => keyV R C Z i) (rkL R C Z (R * C))
  | 0 => by
    rw [show mn Z (R * C) + ((0 : Nat) : Int) = mn Z (R * C) by omega, prS_low (fun i => keyV_low hZ i)]; rfl
  | m + 1 => by
    rw [rgS_succ, rgS_prS hZ m, show mn Z (R * C) + ((m + 1 : Nat) : Int) = mn Z (R * C) + m + 1 by omega, prS_step, ← peaks_regions hZ (lv := mn Z (R * C) + m + 1) (by omega)]
    congr 2
    exact List.countP_congr (fun x _ => by rw [topP_at])
theorem flat_mx {n : Nat} {Z : Nat → Int} {x : Nat} (h : x < n) : Z x ≤ mx Z n := mx_ge Z n x h
/-- the prominences count the regions level by level -/
theorem rgS_all {R C : Nat} {Z : Nat → Int} (hZ : ∀ x, x < R * C → 0 ≤ Z x ∧ Z x ≤ 99) {m : Nat} (hm : mn Z (R * C) + m = mx Z (R * C)) : rgS R C Z (mn Z (R * C)) m = (rkL R C Z (R * C)).foldl (fun s i => s + (Z i.1 - keyV R C Z i)) 0 := by
  rw [rgS_prS hZ, hm]
  exact prS_top (fun i => ⟨mx_ge Z _ _ i.2, keyV_top hZ i⟩) _
theorem mn_mx {Z : Nat → Int} {n : Nat} (h : 0 < n) : mn Z n ≤ mx Z n := by
  have h1 := mn_leK Z (n := n) (x := 0) h
  have h2 := mx_ge Z n 0 h
  omega
theorem foldl_ext {α : Type} {f g : α → Int} : ∀ {l : List α} {c : Int}, (∀ x, x ∈ l → f x = g x) → l.foldl (fun s i => s + f i) c = l.foldl (fun s i => s + g i) c
  | [], _, _ => rfl
  | a :: t, c, h => by
    rw [List.foldl_cons, List.foldl_cons, h a (by simp)]
    exact foldl_ext (fun x hx => h x (by simp [hx]))
theorem G.smV_levels {g : G} (h : g.Valid) {m : Nat} (hm : mn g.flat (g.n * g.len 0) + m = mx g.flat (g.n * g.len 0)) : g.smV = rgS g.n (g.len 0) g.flat (mn g.flat (g.n * g.len 0)) m := by
  have hrk := G.rkV_yes h
  rw [rgS_all (fun x hx => flat_okW h hx) hm]
  unfold G.smV
  rw [if_pos h]
  unfold G.smL
  rw [← hrk]
  exact foldl_ext (fun x hx => prV_mem h hx)

/-! The peaks of all regions. -/
theorem pcN_area (R C : Nat) (Z : Nat → Int) (lv s : Int) : ∀ k, pcN R C Z lv s k ≤ cntZ (numZ R C Z lv) s k
  | 0 => Nat.le_refl _
  | k + 1 => by
    have ih := pcN_area R C Z lv s k
    by_cases h : numZ R C Z lv k = s
    · rw [cntZ_yes h]
      by_cases e : pkAt R C Z k = true
      · rw [pcN_yes h e]; omega
      · rw [pcN_no (fun k => e k.2)]; omega
    · rw [cntZ_no h, pcN_no (fun k => h k.1)]; omega
theorem pcN_cn (R C : Nat) (Z : Nat → Int) (lv s : Int) : ∀ k, pcN R C Z lv s k = cnB (fun j => pkAt R C Z j && decide (numZ R C Z lv j = s)) k
  | 0 => rfl
  | k + 1 => by
    unfold pcN cnB
    rw [pcN_cn R C Z lv s k]
    congr 1
    by_cases h : numZ R C Z lv k = s <;> cases e : pkAt R C Z k <;> simp [h]
/-- how many peaks lie in the first m regions -/
def ilS (R C : Nat) (Z : Nat → Int) (lv : Int) : Nat → Nat
  | 0 => 0
  | m + 1 => ilS R C Z lv m + pcN R C Z lv m (R * C)
theorem ilS_cn (R C : Nat) (Z : Nat → Int) (lv : Int) : ∀ m : Nat, ilS R C Z lv m = cnB (fun j => pkAt R C Z j && (decide (lv ≤ Z j) && decide (numZ R C Z lv j < m))) (R * C)
  | 0 => by
    symm
    refine cnB_zero (fun x _ => ?_)
    by_cases h : lv ≤ Z x
    · have := numZ_nonneg (R := R) (C := C) h
      have h2 : ¬ numZ R C Z lv x < ((0 : Nat) : Int) := by omega
      rw [decide_eq_false h2]; simp
    · rw [decide_eq_false h]; simp
  | m + 1 => by
    show ilS R C Z lv m + pcN R C Z lv m (R * C) = _
    rw [ilS_cn R C Z lv m, pcN_cn]
    symm
    refine cnB_add (fun x _ => ?_)
    cases pkAt R C Z x
    · simp
    · by_cases h : lv ≤ Z x
      · rw [decide_eq_true h]
        rcases Int.lt_trichotomy (numZ R C Z lv x) m with k | k | k
        · have h1 : numZ R C Z lv x < ((m + 1 : Nat) : Int) := by omega
          have h2 : ¬ numZ R C Z lv x = m := by omega
          rw [decide_eq_true h1, decide_eq_true k, decide_eq_false h2]; rfl
        · have h1 : numZ R C Z lv x < ((m + 1 : Nat) : Int) := by omega
          have h2 : ¬ numZ R C Z lv x < m := by omega
          rw [decide_eq_true h1, decide_eq_true k, decide_eq_false h2]; rfl
        · have h1 : ¬ numZ R C Z lv x < ((m + 1 : Nat) : Int) := by omega
          have h2 : ¬ numZ R C Z lv x < m := by omega
          have h3 : ¬ numZ R C Z lv x = m := by omega
          rw [decide_eq_false h1, decide_eq_false h2, decide_eq_false h3]; rfl
      · have h1 := numZ_no (R := R) (C := C) h
        have h3 : ¬ numZ R C Z lv x = m := by omega
        rw [decide_eq_false h, decide_eq_false h3]; rfl
theorem ilS_le (R C : Nat) (Z : Nat → Int) (lv : Int) (m : Nat) : ilS R C Z lv m ≤ R * C := by rw [ilS_cn]; exact cnB_le _ _
theorem ilS_all (R C : Nat) (Z : Nat → Int) (lv : Int) : ilS R C Z lv (rgN R C Z lv (R * C)) = (rkL R C Z (R * C)).countP (fun x => decide (lv ≤ Z x.1)) := by
  rw [ilS_cn, rkL_cnt (fun j => decide (lv ≤ Z j)) (Nat.le_refl _)]
  refine cnB_congr (fun x hx => ?_)
  by_cases h : lv ≤ Z x
  · have h1 := cmZ_le R C Z lv x
    have h2 := numZ_lt (R := R) (C := C) (Z := Z) (k := R * C) h (by omega)
    rw [decide_eq_true h2, decide_eq_true h]; rfl
  · rw [decide_eq_false h]; rfl
/-- each region has a peak -/
theorem pcN_one {R C : Nat} {Z : Nat → Int} {lv : Int} {s : Nat} (hs : s < rgN R C Z lv (R * C)) : 1 ≤ pcN R C Z lv s (R * C) := by
  obtain ⟨k, h1, h2, h3, h4⟩ := rgN_hit hs
  obtain ⟨b, hb, ⟨hs1, hs2⟩, hm⟩ := best_in Z (fun x => lv ≤ Z x ∧ cmZ R C Z lv x = k) (R * C) ⟨k, h1, h2, h3⟩
  have hT : TopR R C Z lv b := ⟨hs1, fun x hx hlx e => hm x hx ⟨hlx, by rw [e, hs2]⟩⟩
  have hp := TopR.peak (i := ⟨b, hb⟩) hT
  have hn : numZ R C Z lv b = s := by rw [numZ_yes hs1, hs2, h4]
  have e := pkAt_eq (R := R) (C := C) (Z := Z) ⟨b, hb⟩
  have k1 := pcN_yes hn (e.trans hp)
  have mono : ∀ a c, a ≤ c → pcN R C Z lv s a ≤ pcN R C Z lv s c := by
    intro a c h
    induction h with
    | refl => exact Nat.le_refl _
    | step _ ih => exact Nat.le_trans ih (by rw [pcN]; exact Nat.le_add_right _ _)
  have := mono (b + 1) (R * C) hb
  omega
end Go.Proofs.Ytcfeckpbjdipeaa
