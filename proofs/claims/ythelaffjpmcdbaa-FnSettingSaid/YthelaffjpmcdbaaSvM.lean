/- Settings as labels that keep apart: what is reckoned. -/
import Derived.Test.YthelaffjpmcdbaaStT
import Derived.Test.YthelaffjpmcdbaaStU
import Derived.Test.YthelaffjpmcdbaaStB
import Derived.Test.YthelaffjpmcdbaaStX
import Derived.Test.YthelaffjpmcdbaaStZ
namespace Go.Proofs.Ythelaffjpmcdbaa
set_option linter.unusedVariables false

/-- a place of a label at a side -/
def Cv (Z : Nat → Int) (k : Nat) (s : Int) (j : Nat) : Prop := atA Z k s ≤ j ∧ j < atA Z k s + wdN Z k
/-- the place of a label's point -/
def ptN (Z : Nat → Int) (k : Nat) : Nat := (10 * Z (k * 4 + 1) + Z (k * 4)).toNat
theorem mpK_is (Z : Nat → Int) (j : Nat) : ∀ n, (mpK Z n j = 0 ∧ ∀ p, p < n → ptN Z p ≠ j) ∨ (mpK Z n j = -1 ∧ ∃ p, p < n ∧ ptN Z p = j)
  | 0 => Or.inl ⟨rfl, fun p h => by omega⟩
  | n + 1 => by
    show ((if j = ptN Z n then -1 else mpK Z n j) = 0 ∧ _) ∨ ((if j = ptN Z n then -1 else mpK Z n j) = -1 ∧ _)
    by_cases e : j = ptN Z n
    · rw [if_pos e]
      exact Or.inr ⟨rfl, n, by omega, e.symm⟩
    · rw [if_neg e]
      rcases mpK_is Z j n with ⟨h1, h2⟩ | ⟨h1, p, h2, h3⟩
      · refine Or.inl ⟨h1, fun p hp => ?_⟩
        by_cases ep : p = n
        · rw [ep]; exact fun h => e h.symm
        · exact h2 p (by omega)
      · exact Or.inr ⟨h1, p, by omega, h3⟩
/-- label k at its side lies on the map, on no point and on no label before it -/
def Seat (Z : Nat → Int) (n : Nat) (sd : Nat → Int) (k : Nat) : Prop :=
  (0 ≤ sd k ∧ sd k ≤ 3) ∧ PcZ Z k (sd k) ∧ ∀ j, Cv Z k (sd k) j → (∀ p, p < n → ptN Z p ≠ j) ∧ ∀ l, l < k → sd l ≠ -1 → ¬ Cv Z l (sd l) j
def Apt (Z : Nat → Int) (n : Nat) (sd : Nat → Int) (i : Nat) : Prop := ∀ k, k < i → sd k = -1 ∨ Seat Z n sd k
/-- what a map bears -/
def Brs (Z : Nat → Int) (n : Nat) (sd : Nat → Int) (i : Nat) (M : Nat → Int) : Prop :=
  ∀ j, M j = 0 ↔ (∀ p, p < n → ptN Z p ≠ j) ∧ ∀ l, l < i → sd l ≠ -1 → ¬ Cv Z l (sd l) j
theorem brs_zero (Z : Nat → Int) (n : Nat) (sd : Nat → Int) : Brs Z n sd 0 (mpK Z n) := by
  intro j
  rcases mpK_is Z j n with ⟨h1, h2⟩ | ⟨h1, p, h2, h3⟩
  · exact ⟨fun _ => ⟨h2, fun l h => by omega⟩, fun _ => h1⟩
  · exact ⟨fun h => by omega, fun h => absurd h3 (h.1 p h2)⟩
theorem Brs.out {Z : Nat → Int} {n i : Nat} {sd M : Nat → Int} (h : Brs Z n sd i M) (hs : sd i = -1) : Brs Z n sd (i + 1) M := by
  intro j
  rw [h j]
  exact ⟨fun k => ⟨k.1, fun l hl hn => by
    by_cases e : l = i
    · rw [e] at hn; exact absurd hs hn
    · exact k.2 l (by omega) hn⟩, fun k => ⟨k.1, fun l hl => k.2 l (by omega)⟩⟩
instance (Z : Nat → Int) (k : Nat) (s : Int) (j : Nat) : Decidable (Cv Z k s j) := by unfold Cv; exact inferInstance
theorem Brs.set {Z : Nat → Int} {n i : Nat} {sd M : Nat → Int} (h : Brs Z n sd i M) (hs : sd i ≠ -1) : Brs Z n sd (i + 1) (stp Z M i (sd i)) := by
  intro j
  show (if Cv Z i (sd i) j then (i : Int) + 1 else M j) = 0 ↔ _
  by_cases c : Cv Z i (sd i) j
  · rw [if_pos c]
    exact ⟨fun e => by omega, fun k => absurd c (k.2 i (by omega) hs)⟩
  · rw [if_neg c, h j]
    exact ⟨fun k => ⟨k.1, fun l hl hn => by
      by_cases e : l = i
      · rw [e]; exact c
      · exact k.2 l (by omega) hn⟩, fun k => ⟨k.1, fun l hl => k.2 l (by omega)⟩⟩
theorem fit_seat {Z : Nat → Int} {n i : Nat} {sd M : Nat → Int} (h : Brs Z n sd i M) : Fit Z M i (sd i) ↔ Seat Z n sd i := by
  unfold Fit Seat
  constructor
  · rintro ⟨h1, h2, h3⟩
    refine ⟨h1, h2, fun j hj => (h j).1 ?_⟩
    have := h3 (j - atA Z i (sd i)) (by have := hj.1; have := hj.2; omega)
    rwa [show atA Z i (sd i) + (j - atA Z i (sd i)) = j by have := hj.1; omega] at this
  · rintro ⟨h1, h2, h3⟩
    exact ⟨h1, h2, fun k hk => (h _).2 (h3 _ ⟨by omega, by omega⟩)⟩
theorem alK_apt (Z : Nat → Int) (n : Nat) (sd : Nat → Int) : ∀ i, (∀ M, alK Z n sd i = some M → Apt Z n sd i ∧ Brs Z n sd i M) ∧ (Apt Z n sd i → ∃ M, alK Z n sd i = some M ∧ Brs Z n sd i M)
  | 0 => ⟨fun M h => by
      have e : mpK Z n = M := by simpa [alK] using h
      subst e
      exact ⟨fun k h => by omega, brs_zero Z n sd⟩, fun _ => ⟨_, rfl, brs_zero Z n sd⟩⟩
  | i + 1 => by
    obtain ⟨ih1, ih2⟩ := alK_apt Z n sd i
    constructor
    · intro M h
      cases e : alK Z n sd i with
      | none => rw [alK_none e] at h; cases h
      | some M0 =>
        obtain ⟨a1, a2⟩ := ih1 M0 e
        by_cases hs : sd i = -1
        · rw [alK_out e hs] at h
          simp only [Option.some.injEq] at h
          subst h
          refine ⟨fun k hk => ?_, a2.out hs⟩
          by_cases ek : k = i
          · rw [ek]; exact Or.inl hs
          · exact a1 k (by omega)
        · by_cases hf : Fit Z M0 i (sd i)
          · rw [alK_yes e hs hf] at h
            simp only [Option.some.injEq] at h
            subst h
            refine ⟨fun k hk => ?_, a2.set hs⟩
            by_cases ek : k = i
            · rw [ek]; exact Or.inr ((fit_seat a2).1 hf)
            · exact a1 k (by omega)
          · rw [alK_no e hs hf] at h; cases h
    · intro h
      obtain ⟨M0, e, a2⟩ := ih2 (fun k hk => h k (by omega))
      by_cases hs : sd i = -1
      · exact ⟨M0, alK_out e hs, a2.out hs⟩
      · have hf : Fit Z M0 i (sd i) := (fit_seat a2).2 ((h i (by omega)).resolve_left hs)
        exact ⟨_, alK_yes e hs hf, a2.set hs⟩
theorem stOk_iff {n m : Nat} {Z sd : Nat → Int} : StOk n Z m sd ↔ LsOk n Z ∧ m = n ∧ Apt Z n sd n := by
  unfold StOk
  constructor
  · rintro ⟨h1, h2, M, h3⟩
    exact ⟨h1, h2, ((alK_apt Z n sd n).1 M h3).1⟩
  · rintro ⟨h1, h2, h3⟩
    obtain ⟨M, h4, _⟩ := (alK_apt Z n sd n).2 h3
    exact ⟨h1, h2, M, h4⟩
/-- with fewer labels set, it is a setting, too -/
theorem Apt.less {Z : Nat → Int} {n i k : Nat} {sd : Nat → Int} (h : Apt Z n sd i) : Apt Z n (upS sd k (-1)) i := by
  intro l hl
  by_cases e : l = k
  · exact Or.inl (by unfold upS; rw [if_pos e])
  · rcases h l hl with h1 | ⟨h1, h2, h3⟩
    · exact Or.inl (by unfold upS; rw [if_neg e]; exact h1)
    · have el : upS sd k (-1) l = sd l := by unfold upS; rw [if_neg e]
      refine Or.inr ⟨by rw [el]; exact h1, by rw [el]; exact h2, fun j hj => ?_⟩
      rw [el] at hj
      obtain ⟨g1, g2⟩ := h3 j hj
      refine ⟨g1, fun q hq hn => ?_⟩
      by_cases eq : q = k
      · unfold upS at hn; rw [if_pos eq] at hn; exact absurd rfl hn
      · have eu : upS sd k (-1) q = sd q := by unfold upS; rw [if_neg eq]
        rw [eu] at hn ⊢
        exact g2 q hq hn
theorem apt_none (Z : Nat → Int) (n i : Nat) {sd : Nat → Int} (h : ∀ k, k < i → sd k = -1) : Apt Z n sd i := fun k hk => Or.inl (h k hk)
/-- settings that agree -/
theorem Apt.congr {Z : Nat → Int} {n i : Nat} {sd sd' : Nat → Int} (h : Apt Z n sd i) (e : ∀ k, k < i → sd k = sd' k) : Apt Z n sd' i := by
  intro k hk
  rcases h k hk with h1 | ⟨h1, h2, h3⟩
  · exact Or.inl ((e k hk).symm.trans h1)
  · refine Or.inr ⟨by rw [← e k hk]; exact h1, by rw [← e k hk]; exact h2, fun j hj => ?_⟩
    rw [← e k hk] at hj
    obtain ⟨g1, g2⟩ := h3 j hj
    exact ⟨g1, fun l hl hn => by rw [← e l (by omega)] at hn ⊢; exact g2 l hl hn⟩

/-! Weights, or numbers of labels that are set. -/
def owK (Z : Nat → Int) (b : Bool) (sd : Nat → Int) : Nat → Int
  | 0 => 0
  | i + 1 => owK Z b sd i + (if sd i = -1 then 0 else ow Z b i)
theorem owK_succ (Z : Nat → Int) (b : Bool) (sd : Nat → Int) (i : Nat) : owK Z b sd (i + 1) = owK Z b sd i + (if sd i = -1 then 0 else ow Z b i) := rfl
theorem wtK_ow (Z sd : Nat → Int) : ∀ i, wtK Z sd i = owK Z true sd i
  | 0 => rfl
  | i + 1 => by
    show (if sd i = -1 then wtK Z sd i else wtK Z sd i + Z (i * 4 + 3)) = owK Z true sd i + (if sd i = -1 then 0 else Z (i * 4 + 3))
    rw [wtK_ow Z sd i]
    split <;> omega
theorem owK_congr {Z : Nat → Int} {b : Bool} {sd sd' : Nat → Int} : ∀ {i : Nat}, (∀ k, k < i → sd k = sd' k) → owK Z b sd i = owK Z b sd' i
  | 0, _ => rfl
  | i + 1, h => by rw [owK_succ, owK_succ, owK_congr (fun k hk => h k (by omega)), h i (by omega)]
theorem owK_less {Z : Nat → Int} {b : Bool} {sd : Nat → Int} {k : Nat} : ∀ {i : Nat}, owK Z b (upS sd k (-1)) i = owK Z b sd i - (if k < i ∧ sd k ≠ -1 then ow Z b k else 0)
  | 0 => by simp [owK]
  | i + 1 => by
    rw [owK_succ, owK_succ, owK_less (i := i)]
    by_cases e : i = k
    · subst e
      unfold upS
      by_cases h : sd i = -1
      · simp [h]
      · simp [h]
    · have eu : upS sd k (-1) i = sd i := by unfold upS; rw [if_neg e]
      rw [eu]
      by_cases hk : k < i
      · by_cases h : sd k = -1
        · simp [h]
        · have h2 : k < i + 1 := by omega
          simp only [hk, h2, h, ne_eq, not_false_eq_true, and_self, if_true]
          omega
      · have h2 : ¬ k < i + 1 := by omega
        simp [hk, h2]
theorem owK_none (Z : Nat → Int) (b : Bool) {sd : Nat → Int} : ∀ {i : Nat}, (∀ k, k < i → sd k = -1) → owK Z b sd i = 0
  | 0, _ => rfl
  | i + 1, h => by rw [owK_succ, owK_none Z b (fun k hk => h k (by omega)), if_pos (h i (by omega))]; rfl
/-- the weight of the labels from k on is at most the best one -/
theorem bst_ub {Z : Nat → Int} {b : Bool} {n : Nat} {sd : Nat → Int} : ∀ f k M, k + f = n → alK Z n sd k = some M → (∃ M', alK Z n sd n = some M') → owK Z b sd n - owK Z b sd k ≤ bst Z b f k M
  | 0, k, M, hk, _, _ => by
    obtain rfl : k = n := by omega
    show owK Z b sd k - owK Z b sd k ≤ 0
    omega
  | f + 1, k, M, hk, hM, hex => by
    show owK Z b sd n - owK Z b sd k ≤ bs1 Z k M (ow Z b k) (bst Z b f (k + 1) M) (bst Z b f (k + 1)) 4
    have hw := owK_succ Z b sd k
    by_cases hs : sd k = -1
    · have ih := bst_ub (b := b) f (k + 1) M (by omega) (alK_out hM hs) hex
      rw [if_pos hs] at hw
      have h0 : bst Z b f (k + 1) M ≤ bs1 Z k M (ow Z b k) (bst Z b f (k + 1) M) (bst Z b f (k + 1)) 4 := bs1_mono 0 4 (by omega)
      omega
    · by_cases hf : Fit Z M k (sd k)
      · have ih := bst_ub (b := b) f (k + 1) _ (by omega) (alK_yes hM hs hf) hex
        rw [if_neg hs] at hw
        have e : sd k = ((sd k).toNat : Int) := by have := hf.1; omega
        have hf2 := hf
        rw [e] at hf2
        have h0 := bs1_ub (Z := Z) (k := k) (M := M) (o := ow Z b k) (c := bst Z b f (k + 1) M) (r := bst Z b f (k + 1)) (s := (sd k).toNat) (by have := hf.1; omega) hf2
        rw [← e] at h0
        omega
      · obtain ⟨M', h⟩ := hex
        rw [alK_none_le (alK_no hM hs hf) n (by omega)] at h
        cases h
theorem owK_best {n m : Nat} {Z sd : Nat → Int} (b : Bool) (h : StOk n Z m sd) : owK Z b sd n ≤ bst Z b n 0 (mpK Z n) := by
  have := bst_ub (Z := Z) (b := b) (n := n) (sd := sd) n 0 (mpK Z n) (by omega) rfl h.2.2
  have e : owK Z b sd 0 = 0 := rfl
  omega
/-! The best setting is one, and weighs most. -/
theorem alK_congr {Z : Nat → Int} {n : Nat} {sd sd' : Nat → Int} : ∀ {i : Nat}, (∀ k, k < i → sd k = sd' k) → alK Z n sd i = alK Z n sd' i
  | 0, _ => rfl
  | i + 1, h => by
    have ih := alK_congr (Z := Z) (n := n) (sd := sd) (sd' := sd') (i := i) (fun k hk => h k (by omega))
    simp only [alK, ih, h i (by omega)]
theorem ch1_is {Z : Nat → Int} {k : Nat} {M : Nat → Int} {o best : Int} {r : (Nat → Int) → Int} : ∀ s : Nat, 0 ≤ ch1 Z k M o best r s → ∃ j : Nat, ch1 Z k M o best r s = (j : Int) ∧ j < s ∧ Fit Z M k j ∧ o + r (stp Z M k j) = best
  | 0, h => by exact absurd h (by show ¬ (0 : Int) ≤ -1; omega)
  | s + 1, h => by
    by_cases h0 : 0 ≤ ch1 Z k M o best r s
    · obtain ⟨j, h1, h2, h3⟩ := ch1_is s h0
      exact ⟨j, by rw [ch1_keep h0, h1], by omega, h3⟩
    · by_cases hc : Fit Z M k s ∧ o + r (stp Z M k s) = best
      · exact ⟨s, ch1_yes (by omega) hc.1 hc.2, by omega, hc⟩
      · rw [ch1_no (by omega) hc] at h
        omega
theorem gd_best {Z : Nat → Int} {b : Bool} {n : Nat} : ∀ f k sd M, k + f = n → (∀ i, k ≤ i → sd i = -1) → alK Z n sd k = some M → (∃ M', alK Z n (gd Z b f k sd M) n = some M') ∧ owK Z b (gd Z b f k sd M) n = owK Z b sd k + bst Z b f k M
  | 0, k, sd, M, hk, hs, hM => by
    obtain rfl : k = n := by omega
    exact ⟨⟨M, hM⟩, by show owK Z b sd k = owK Z b sd k + 0; omega⟩
  | f + 1, k, sd, M, hk, hs, hM => by
    have hbs : bst Z b (f + 1) k M = bs1 Z k M (ow Z b k) (bst Z b f (k + 1) M) (bst Z b f (k + 1)) 4 := rfl
    by_cases hc : ch1 Z k M (ow Z b k) (bst Z b (f + 1) k M) (bst Z b f (k + 1)) 4 < 0
    · have e : gd Z b (f + 1) k sd M = gd Z b f (k + 1) sd M := if_pos hc
      have ih := gd_best (Z := Z) (b := b) (n := n) f (k + 1) sd M (by omega) (fun i hi => hs i (by omega)) (alK_out hM (hs k (Nat.le_refl _)))
      have hw := owK_succ Z b sd k
      rw [if_pos (hs k (Nat.le_refl _))] at hw
      rw [e]
      refine ⟨ih.1, ?_⟩
      rw [ih.2, hw]
      have h1 : bst Z b (f + 1) k M = bst Z b f (k + 1) M := by
        rw [hbs]
        rcases bs1_at (Z := Z) (k := k) (M := M) (o := ow Z b k) (c := bst Z b f (k + 1) M) (r := bst Z b f (k + 1)) 4 with h | ⟨j, h1, h2, h3⟩
        · exact h
        · exact absurd (h3.trans hbs.symm) (ch1_none 4 hc j h1 h2)
      omega
    · obtain ⟨j, h1, h2, h3, h4⟩ := ch1_is 4 (by omega : 0 ≤ ch1 Z k M (ow Z b k) (bst Z b (f + 1) k M) (bst Z b f (k + 1)) 4)
      have e : gd Z b (f + 1) k sd M = gd Z b f (k + 1) (upS sd k j) (stp Z M k j) := by
        have e0 : gd Z b (f + 1) k sd M = gd Z b f (k + 1) (upS sd k (ch1 Z k M (ow Z b k) (bst Z b (f + 1) k M) (bst Z b f (k + 1)) 4)) (stp Z M k (ch1 Z k M (ow Z b k) (bst Z b (f + 1) k M) (bst Z b f (k + 1)) 4)) := if_neg hc
        rw [e0, h1]
      have eu : upS sd k j k = j := if_pos rfl
      have ha : alK Z n (upS sd k j) k = some M := by
        rw [← hM]
        exact (alK_congr (fun l hl => by unfold upS; rw [if_neg (by omega)]))
      have ha2 := alK_yes (Z := Z) (n := n) (sd := upS sd k j) (i := k) ha (by rw [eu]; omega) (by rw [eu]; exact h3)
      rw [eu] at ha2
      have ih := gd_best (Z := Z) (b := b) (n := n) f (k + 1) (upS sd k j) _ (by omega) (fun i hi => by unfold upS; rw [if_neg (by omega)]; exact hs i (by omega)) ha2
      have hw := owK_succ Z b (upS sd k j) k
      have hcg : owK Z b (upS sd k j) k = owK Z b sd k := owK_congr (fun l hl => by unfold upS; rw [if_neg (by omega)])
      rw [eu, if_neg (by omega), hcg] at hw
      rw [e]
      refine ⟨ih.1, ?_⟩
      rw [ih.2, hw]
      omega
theorem bsG_best {Z : Nat → Int} {n : Nat} (h : LsOk n Z) : StOk n Z n (bsG n Z) ∧ wtK Z (bsG n Z) n = bst Z true n 0 (mpK Z n) := by
  have h1 := gd_best (Z := Z) (b := true) (n := n) n 0 (fun _ => -1) (mpK Z n) (by omega) (fun _ _ => rfl) rfl
  refine ⟨⟨h, rfl, h1.1⟩, ?_⟩
  have e : owK Z true (fun _ => -1) 0 = 0 := rfl
  rw [wtK_ow]
  show owK Z true (gd Z true n 0 (fun _ => -1) (mpK Z n)) n = _
  omega
/-- some setting has the most labels -/
theorem most_ex {Z : Nat → Int} {n : Nat} (b : Bool) (h : LsOk n Z) : ∃ sd, StOk n Z n sd ∧ owK Z b sd n = bst Z b n 0 (mpK Z n) := by
  have h1 := gd_best (Z := Z) (b := b) (n := n) n 0 (fun _ => -1) (mpK Z n) (by omega) (fun _ _ => rfl) rfl
  have e : owK Z b (fun _ => -1) 0 = 0 := rfl
  exact ⟨_, ⟨h, rfl, h1.1⟩, by omega⟩

/-! Their number. -/
theorem ct_posM (Z : Nat → Int) : ∀ f k M, 1 ≤ ct Z f k M
  | 0, _, _ => Nat.le_refl 1
  | f + 1, k, M => Nat.le_trans (ct_posM Z f (k + 1) M) (Nat.le_add_right _ _)
theorem ct1_zero {Z : Nat → Int} {k : Nat} {M : Nat → Int} {c : (Nat → Int) → Nat} : ∀ s : Nat, (∀ j : Nat, j < s → ¬ Fit Z M k j) → ct1 Z k M c s = 0
  | 0, _ => rfl
  | s + 1, h => by
    show ct1 Z k M c s + (if ftB Z M k (s : Int) = true then _ else 0) = 0
    rw [ct1_zero s (fun j hj => h j (by omega)), ftB_no (h s (by omega))]
    rfl
theorem ct1_pos {Z : Nat → Int} {k : Nat} {M : Nat → Int} {c : (Nat → Int) → Nat} (hc : ∀ M, 1 ≤ c M) {j : Nat} (hf : Fit Z M k j) : ∀ s : Nat, j < s → 1 ≤ ct1 Z k M c s
  | 0, h => by omega
  | s + 1, h => by
    show 1 ≤ ct1 Z k M c s + (if ftB Z M k (s : Int) = true then c (stp Z M k s) else 0)
    by_cases e : j = s
    · subst e
      rw [ftB_yes hf, if_pos rfl]
      have := hc (stp Z M k j)
      omega
    · have := ct1_pos hc hf s (by omega)
      omega
theorem ct_some {Z : Nat → Int} {M : Nat → Int} : ∀ f k, (1 < ct Z f k M ↔ ∃ i, k ≤ i ∧ i < k + f ∧ ∃ s : Nat, s < 4 ∧ Fit Z M i s)
  | 0, k => ⟨fun h => by exact absurd h (by show ¬ 1 < 1; omega), fun ⟨i, h1, h2, _⟩ => by omega⟩
  | f + 1, k => by
    have ih := ct_some (Z := Z) (M := M) f (k + 1)
    have h0 := ct_posM Z f (k + 1) M
    show 1 < ct Z f (k + 1) M + ct1 Z k M (ct Z f (k + 1)) 4 ↔ _
    by_cases hx : ∃ s : Nat, s < 4 ∧ Fit Z M k s
    · obtain ⟨s, h1, h2⟩ := hx
      have := ct1_pos (c := ct Z f (k + 1)) (fun M => ct_posM Z f (k + 1) M) h2 4 h1
      exact ⟨fun _ => ⟨k, by omega, by omega, s, h1, h2⟩, fun _ => by omega⟩
    · have h1 := ct1_zero (Z := Z) (k := k) (M := M) (c := ct Z f (k + 1)) 4 (fun j hj hf => hx ⟨j, hj, hf⟩)
      rw [h1, Nat.add_zero, ih]
      constructor
      · rintro ⟨i, h2, h3, h4⟩
        exact ⟨i, by omega, by omega, h4⟩
      · rintro ⟨i, h2, h3, h4⟩
        by_cases e : i = k
        · rw [e] at h4; exact absurd h4 hx
        · exact ⟨i, by omega, by omega, h4⟩
/-- one label alone -/
theorem one_ok {Z : Nat → Int} {n i : Nat} {s : Int} (h : LsOk n Z) (hi : i < n) (hs : 0 ≤ s) : StOk n Z n (fun j => if j = i then s else -1) ↔ Fit Z (mpK Z n) i s := by
  rw [stOk_iff]
  have hb : Brs Z n (fun j => if j = i then s else -1) i (mpK Z n) := by
    intro j
    rw [brs_zero Z n (fun j => if j = i then s else -1) j]
    exact ⟨fun k => ⟨k.1, fun l hl hn => absurd (if_neg (by omega)) hn⟩, fun k => ⟨k.1, fun l hl => by omega⟩⟩
  have hf := fit_seat hb
  have e : (fun j => if j = i then s else -1) i = s := if_pos rfl
  simp only [if_true] at hf
  rw [hf]
  constructor
  · rintro ⟨_, _, h3⟩
    exact (h3 i hi).resolve_left (by rw [e]; omega)
  · intro h3
    refine ⟨h, rfl, fun k hk => ?_⟩
    by_cases ek : k = i
    · rw [ek]; exact Or.inr h3
    · exact Or.inl (if_neg ek)
end Go.Proofs.Ythelaffjpmcdbaa
