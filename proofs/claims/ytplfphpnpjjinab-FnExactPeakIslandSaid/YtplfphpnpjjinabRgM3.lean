/- Regions: areas, levels at which all land is one region, regions in regions: what is reckoned. -/
import Derived.Test.YtplfphpnpjjinabRgM2
import Derived.Test.YtplfphpnpjjinabCnt
import Derived.Test.YtplfphpnpjjinabWSpec
namespace Go.Proofs.Ytplfphpnpjjinab
set_option linter.unusedVariables false

theorem numZ_range (R C : Nat) (Z : Nat → Int) (lv : Int) {j : Nat} (hj : j ≤ 1000) : -1 ≤ numZ R C Z lv j ∧ numZ R C Z lv j ≤ 1000 := by
  have h := lab_range R C Z lv (j + 1) j hj
  rw [lab_all (Nat.lt_succ_self j)] at h
  exact h
theorem rgN_hit {R C : Nat} {Z : Nat → Int} {lv : Int} : ∀ {N s : Nat}, s < rgN R C Z lv N → ∃ k, k < N ∧ lv ≤ Z k ∧ cmZ R C Z lv k = k ∧ rgN R C Z lv k = s
  | 0, s, h => by simp [rgN] at h
  | N + 1, s, h => by
    by_cases e : lv ≤ Z N ∧ cmZ R C Z lv N = N
    · rw [rgN_yes e.1 e.2] at h
      by_cases e2 : s = rgN R C Z lv N
      · exact ⟨N, by omega, e.1, e.2, e2.symm⟩
      · obtain ⟨k, h1, h2⟩ := rgN_hit (R := R) (C := C) (Z := Z) (lv := lv) (N := N) (s := s) (by omega)
        exact ⟨k, by omega, h2⟩
    · rw [rgN_no e] at h
      obtain ⟨k, h1, h2⟩ := rgN_hit h
      exact ⟨k, by omega, h2⟩
theorem area_iff {R C : Nat} {Z : Nat → Int} {lv : Int} {N : Nat} {s : Int} (hs : 0 ≤ s) : 0 < cntZ (numZ R C Z lv) s N ↔ s < rgN R C Z lv N := by
  constructor
  · intro h
    obtain ⟨j, hj, e⟩ := cntZ_ex h
    by_cases hl : lv ≤ Z j
    · rw [← e]; exact numZ_lt hl (by have := cmZ_le R C Z lv j; omega)
    · rw [numZ_no hl] at e; omega
  · intro h
    obtain ⟨k, h1, h2, h3, h4⟩ := rgN_hit (R := R) (C := C) (Z := Z) (lv := lv) (N := N) (s := s.toNat) (by omega)
    exact cntZ_pos h1 (by rw [numZ_yes h2, h3, h4]; omega)

/-- at two roots the numbers are two -/
theorem rgN_inj {R C : Nat} {Z : Nat → Int} {lv : Int} {a b : Nat} (ha : lv ≤ Z a ∧ cmZ R C Z lv a = a) (hb : lv ≤ Z b ∧ cmZ R C Z lv b = b) (e : rgN R C Z lv a = rgN R C Z lv b) : a = b := by
  rcases Nat.lt_trichotomy a b with h | h | h
  · have h1 := rgN_yes (R := R) (C := C) ha.1 ha.2
    have h2 := rgN_mono R C Z lv (a := a + 1) (b := b) h
    omega
  · exact h
  · have h1 := rgN_yes (R := R) (C := C) hb.1 hb.2
    have h2 := rgN_mono R C Z lv (a := b + 1) (b := a) h
    omega
theorem numZ_inj {R C : Nat} {Z : Nat → Int} {lv : Int} {x y : Nat} (h : 0 ≤ numZ R C Z lv x) (e : numZ R C Z lv x = numZ R C Z lv y) : cmZ R C Z lv x = cmZ R C Z lv y := by
  have hx : lv ≤ Z x := by
    by_cases hl : lv ≤ Z x
    · exact hl
    · rw [numZ_no hl] at h; omega
  have hy : lv ≤ Z y := by
    by_cases hl : lv ≤ Z y
    · exact hl
    · rw [e, numZ_no hl] at h; omega
  rw [numZ_yes hx, numZ_yes hy] at e
  exact rgN_inj ⟨cm_land hx, cmZ_idem R C Z lv x⟩ ⟨cm_land hy, cmZ_idem R C Z lv y⟩ (by omega)
theorem cm_down {R C : Nat} {Z : Nat → Int} {hv lv : Int} (hl : lv ≤ hv) {x y : Nat} (e : cmZ R C Z hv x = cmZ R C Z hv y) : cmZ R C Z lv x = cmZ R C Z lv y :=
  (cm_closed (R := R) (C := C) (Z := Z) (lv := hv) (fun q => cmZ R C Z lv x = cmZ R C Z lv q) (fun a b hab h => h.trans (cm_adj ⟨hab.1, by have := hab.2.1; omega, by have := hab.2.2; omega⟩)) (x := x) (y := y) e rfl)
theorem numZ_down {R C : Nat} {Z : Nat → Int} {hv lv : Int} (hl : lv ≤ hv) {x y : Nat} (h : 0 ≤ numZ R C Z hv x) (e : numZ R C Z hv x = numZ R C Z hv y) : numZ R C Z lv x = numZ R C Z lv y := by
  have hx : hv ≤ Z x := by
    by_cases hl : hv ≤ Z x
    · exact hl
    · rw [numZ_no hl] at h; omega
  have hy : hv ≤ Z y := by
    by_cases hl : hv ≤ Z y
    · exact hl
    · rw [e, numZ_no hl] at h; omega
  rw [numZ_yes (show lv ≤ Z x by omega), numZ_yes (show lv ≤ Z y by omega), cm_down hl (numZ_inj h e)]

/-- the number, at the lower level, of the region in which the region k lies -/
noncomputable def inZ (R C : Nat) (Z : Nat → Int) (hv lv : Int) (k : Nat) : Int := open Classical in if h : ∃ x, x < R * C ∧ numZ R C Z hv x = k then numZ R C Z lv h.choose else 0
theorem inZ_at {R C : Nat} {Z : Nat → Int} {hv lv : Int} (hl : lv ≤ hv) {x k : Nat} (hx : x < R * C) (e : numZ R C Z hv x = k) : inZ R C Z hv lv k = numZ R C Z lv x := by
  have h : ∃ x, x < R * C ∧ numZ R C Z hv x = k := ⟨x, hx, e⟩
  unfold inZ
  rw [dif_pos h]
  have h2 := h.choose_spec
  exact numZ_down hl (by rw [h2.2]; omega) (h2.2.trans e.symm)
theorem inZ_ex {R C : Nat} {Z : Nat → Int} {hv lv : Int} (hl : lv ≤ hv) {k : Nat} (hk : k < rgN R C Z hv (R * C)) : ∃ x, x < R * C ∧ numZ R C Z hv x = k := by
  obtain ⟨x, h1, h2, h3, h4⟩ := rgN_hit hk
  exact ⟨x, h1, by rw [numZ_yes h2, h3, h4]⟩
theorem inZ_range {R C : Nat} {Z : Nat → Int} {hv lv : Int} (h : R * C ≤ 1000) (k : Nat) : -1 ≤ inZ R C Z hv lv k ∧ inZ R C Z hv lv k ≤ 1000 := by
  unfold inZ
  split
  · rename_i h2
    exact numZ_range R C Z lv (by have := h2.choose_spec.1; omega)
  · omega

theorem near_nb {R C : Nat} {x y : Ix (R * C)} {k : Nat} (hk : k < 4) (h : nb R C x k = some y) : y ∈ near R C x 4 := by
  have h1 : y ∈ near R C x (k + 1) := by rw [near_some h]; simp
  exact (near_pre R C x (k + 1) 4 (by omega)).subset h1
/-- where all is land, all hangs together -/
theorem cm_whole {R C : Nat} {Z : Nat → Int} {lv : Int} (hC : 1 ≤ C) (h : ∀ x, x < R * C → lv ≤ Z x) : ∀ n x, x ≤ n → x < R * C → cmZ R C Z lv x = 0
  | 0, x, h0, hx => by have := cmZ_le R C Z lv x; omega
  | n + 1, x, h0, hx => by
    by_cases e0 : x = 0
    · have := cmZ_le R C Z lv x; omega
    · by_cases hc : 0 < x % C
      · have hy : x - 1 < R * C := by omega
        have ha : Adj R C Z lv ⟨x, hx⟩ ⟨x - 1, hy⟩ := ⟨near_nb (k := 3) (by omega) (by
          have := (nb_cases R C ⟨x, hx⟩ 3).1 (by unfold nbC; simpa using hc)
          obtain ⟨z, h1, h2⟩ := this
          rw [h1]
          exact congrArg some (Subtype.ext (by rw [h2]; simp [nbV]))), h _ hx, h _ hy⟩
        have e1 := cm_adj ha
        rw [e1]
        exact cm_whole hC h n (x - 1) (by omega) hy
      · have hxc : C ≤ x := by
          rcases Nat.lt_or_ge x C with h2 | h2
          · rw [Nat.mod_eq_of_lt h2] at hc; omega
          · exact h2
        have hy : x - C < R * C := by omega
        have ha : Adj R C Z lv ⟨x, hx⟩ ⟨x - C, hy⟩ := ⟨near_nb (k := 0) (by omega) (by
          have := (nb_cases R C ⟨x, hx⟩ 0).1 (by unfold nbC; simpa using hxc)
          obtain ⟨z, h1, h2⟩ := this
          rw [h1]
          exact congrArg some (Subtype.ext (by rw [h2]; simp [nbV]))), h _ hx, h _ hy⟩
        have e1 := cm_adj ha
        rw [e1]
        exact cm_whole hC h n (x - C) (by omega) hy
theorem rgN_whole {R C : Nat} {Z : Nat → Int} {lv : Int} (hC : 1 ≤ C) (h : ∀ x, x < R * C → lv ≤ Z x) : ∀ n, n < R * C → rgN R C Z lv (n + 1) = 1
  | 0, hn => by rw [rgN_yes (h 0 hn) (by have := cmZ_le R C Z lv 0; omega)]; rfl
  | n + 1, hn => by
    rw [rgN_no (fun k => by have := cm_whole hC h (n + 1) (n + 1) (Nat.le_refl _) hn; omega)]
    exact rgN_whole hC h n (by omega)

/-- a greatest number up to which all are so -/
theorem up_to (P : Nat → Prop) (h0 : P 0) (M : Nat) : ∃ x, x ≤ M ∧ (∀ k, k ≤ x → P k) ∧ (x = M ∨ ¬ P (x + 1)) := by
  induction M with
  | zero => exact ⟨0, Nat.le_refl _, fun k hk => by obtain rfl : k = 0 := by omega
                                                    exact h0, Or.inl rfl⟩
  | succ M ih =>
    obtain ⟨x, h1, h2, h3⟩ := ih
    rcases h3 with h3 | h3
    · subst h3
      by_cases h : P (x + 1)
      · exact ⟨x + 1, Nat.le_refl _, fun k hk => by
          by_cases e : k = x + 1
          · subst e; exact h
          · exact h2 k (by omega), Or.inl rfl⟩
      · exact ⟨x, by omega, h2, Or.inr h⟩
    · exact ⟨x, by omega, h2, Or.inr h3⟩

end Go.Proofs.Ytplfphpnpjjinab
