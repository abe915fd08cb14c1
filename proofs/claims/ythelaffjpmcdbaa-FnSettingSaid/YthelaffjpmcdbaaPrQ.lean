/- Profiles in mathematics: climbs, profiles turned over, tilted and lowered, pairs counted twice. -/
import Derived.Test.YthelaffjpmcdbaaPrM
namespace Go.Proofs.Ythelaffjpmcdbaa
set_option linter.unusedVariables false

theorem up_sub_dn (z : Nat → Int) : ∀ k, upV z k - dnV z k = z k - z 0 := by
  intro k
  induction k with
  | zero => simp [upV, dnV]
  | succ k ih => simp only [upV, dnV]; omega
theorem up_pos (z : Nat → Int) : ∀ k, 0 ≤ upV z k := by
  intro k
  induction k with
  | zero => simp [upV]
  | succ k ih => simp only [upV]; omega
theorem dn_pos (z : Nat → Int) : ∀ k, 0 ≤ dnV z k := by
  intro k
  induction k with
  | zero => simp [dnV]
  | succ k ih => simp only [dnV]; omega
theorem up_le (z : Nat → Int) (hz : ∀ i, 0 ≤ z i ∧ z i ≤ 99) : ∀ k, upV z k ≤ 99 * k := by
  intro k
  induction k with
  | zero => simp [upV]
  | succ k ih => have := hz k; have := hz (k + 1); simp only [upV]; omega
theorem level_iff (z : Nat → Int) : ∀ k, upV z k + dnV z k = 0 ↔ ∀ i, i ≤ k → z i = z 0 := by
  intro k
  induction k with
  | zero => simp [upV, dnV]
  | succ k ih =>
    have h1 := up_pos z k
    have h2 := dn_pos z k
    simp only [upV, dnV]
    constructor
    · intro h i hi
      have h3 := ih.1 (by omega)
      by_cases e : i = k + 1
      · subst e; have := h3 k (Nat.le_refl _); omega
      · exact h3 i (by omega)
    · intro h
      have h3 := ih.2 (fun i hi => h i (by omega))
      have h4 := h k (by omega)
      have h5 := h (k + 1) (by omega)
      omega

/-- turned over -/
def revZ (m : Nat) (z : Nat → Int) : Nat → Int := fun i => z (m - i)
theorem up_rev (z : Nat → Int) (m : Nat) : ∀ k, k ≤ m → upV (revZ m z) k + dnV z (m - k) = dnV z m := by
  intro k
  induction k with
  | zero => intro _; simp [upV]
  | succ k ih =>
    intro hk
    have h1 := ih (by omega)
    obtain ⟨q, hq⟩ : ∃ q, m - k = q + 1 := ⟨m - k - 1, by omega⟩
    have h2 : m - (k + 1) = q := by omega
    rw [hq] at h1
    simp only [upV, revZ, dnV] at *
    rw [h2, hq]
    omega
theorem dn_rev (z : Nat → Int) (m : Nat) : ∀ k, k ≤ m → dnV (revZ m z) k + upV z (m - k) = upV z m := by
  intro k
  induction k with
  | zero => intro _; simp [dnV]
  | succ k ih =>
    intro hk
    have h1 := ih (by omega)
    obtain ⟨q, hq⟩ : ∃ q, m - k = q + 1 := ⟨m - k - 1, by omega⟩
    have h2 : m - (k + 1) = q := by omega
    rw [hq] at h1
    simp only [upV, revZ, dnV] at *
    rw [h2, hq]
    omega
theorem up_rev_all (z : Nat → Int) (m : Nat) : upV (revZ m z) m = dnV z m := by
  have := up_rev z m m (Nat.le_refl _)
  simp [dnV] at this
  exact this
theorem dn_rev_all (z : Nat → Int) (m : Nat) : dnV (revZ m z) m = upV z m := by
  have := dn_rev z m m (Nat.le_refl _)
  simp [upV] at this
  exact this
theorem up_congr {z z' : Nat → Int} : ∀ k, (∀ i, i ≤ k → z i = z' i) → upV z k = upV z' k := by
  intro k
  induction k with
  | zero => intro _; rfl
  | succ k ih => intro h; simp only [upV]; rw [ih (fun i hi => h i (by omega)), h k (by omega), h (k + 1) (by omega)]
theorem dn_congr {z z' : Nat → Int} : ∀ k, (∀ i, i ≤ k → z i = z' i) → dnV z k = dnV z' k := by
  intro k
  induction k with
  | zero => intro _; rfl
  | succ k ih => intro h; simp only [dnV]; rw [ih (fun i hi => h i (by omega)), h k (by omega), h (k + 1) (by omega)]

theorem und_rev (z : Nat → Int) (m a b j : Nat) (ha hb : Int) (h1 : a ≤ m) (h2 : b ≤ m) (h3 : j ≤ m) :
    Und (revZ m z) (m - b) hb (m - a) ha (m - j) ↔ Und z a ha b hb j := by
  unfold Und revZ
  have e1 : m - (m - j) = j := by omega
  have c1 : ((m - a : Nat) : Int) = m - a := by omega
  have c2 : ((m - b : Nat) : Int) = m - b := by omega
  have c3 : ((m - j : Nat) : Int) = m - j := by omega
  rw [e1, c1, c2, c3]
  have d1 : (m : Int) - a - (m - b) = b - a := by omega
  have d2 : (m : Int) - a - (m - j) = j - a := by omega
  have d3 : (m : Int) - j - (m - b) = b - j := by omega
  rw [d1, d2, d3, Int.add_comm]
theorem free_rev (z : Nat → Int) (m a b : Nat) (ha hb : Int) (h1 : a ≤ m) (h2 : b ≤ m) :
    Free (revZ m z) (m - b) hb (m - a) ha ↔ Free z a ha b hb := by
  constructor
  · intro h j hj1 hj2
    exact (und_rev z m a b j ha hb h1 h2 (by omega)).1 (h (m - j) (by omega) (by omega))
  · intro h j hj1 hj2
    have := (und_rev z m a b (m - j) ha hb h1 h2 (by omega)).2 (h (m - j) (by omega) (by omega))
    have e : m - (m - j) = j := by omega
    rwa [e] at this
theorem sees_rev (z : Nat → Int) (m i k : Nat) (h1 : i ≤ m) (h2 : k ≤ m) : Sees (revZ m z) (m - i) (m - k) 0 ↔ Sees z i k 0 := by
  have e1 : revZ m z (m - i) = z i := by unfold revZ; congr 1; omega
  have e2 : revZ m z (m - k) = z k := by unfold revZ; congr 1; omega
  unfold Sees
  simp only [Int.add_zero, e1, e2]
  by_cases e : i = k
  · subst e
    constructor
    · intro _; exact ⟨fun _ j a b => by omega, fun h => by omega⟩
    · intro _; exact ⟨fun _ j a b => by omega, fun h => by omega⟩
  · by_cases hik : i < k
    · constructor
      · rintro ⟨_, b⟩
        exact ⟨fun _ => (free_rev z m i k _ _ h1 h2).1 (b (by omega)), fun h => by omega⟩
      · rintro ⟨a, _⟩
        exact ⟨fun h => by omega, fun _ => (free_rev z m i k _ _ h1 h2).2 (a (by omega))⟩
    · constructor
      · rintro ⟨b, _⟩
        exact ⟨fun h => by omega, fun _ => (free_rev z m k i _ _ h2 h1).1 (b (by omega))⟩
      · rintro ⟨_, a⟩
        exact ⟨fun _ => (free_rev z m k i _ _ h2 h1).2 (a (by omega)), fun h => by omega⟩
theorem sees_congr {z z' : Nat → Int} {i k n : Nat} {e : Int} (h : ∀ j, j < n → z j = z' j) (hi : i < n) (hk : k < n) : Sees z i k e ↔ Sees z' i k e := by
  unfold Sees Free Und
  rw [h i hi, h k hk]
  constructor
  · rintro ⟨a, b⟩
    exact ⟨fun g j h1 h2 => by rw [← h j (by omega)]; exact a g j h1 h2, fun g j h1 h2 => by rw [← h j (by omega)]; exact b g j h1 h2⟩
  · rintro ⟨a, b⟩
    exact ⟨fun g j h1 h2 => by rw [h j (by omega)]; exact a g j h1 h2, fun g j h1 h2 => by rw [h j (by omega)]; exact b g j h1 h2⟩

/-- one number changed -/
def setZ (z : Nat → Int) (j : Nat) (x : Int) : Nat → Int := fun i => if i = j then x else z i
theorem setZ_at (z : Nat → Int) (j : Nat) (x : Int) : setZ z j x j = x := by simp [setZ]
theorem setZ_far (z : Nat → Int) (j i : Nat) (x : Int) (h : i ≠ j) : setZ z j x i = z i := by simp [setZ, h]
theorem free_low {z : Nat → Int} {a b j : Nat} {ha hb x : Int} (h : Free z a ha b hb) (hx : x ≤ z j) (hab : a ≤ b) : Free (setZ z j x) a ha b hb := by
  intro i h1 h2
  have h3 := h i h1 h2
  unfold Und at *
  by_cases e : i = j
  · subst e
    rw [setZ_at]
    exact Int.le_trans (Int.mul_le_mul_of_nonneg_right hx (by omega)) h3
  · rw [setZ_far _ _ _ _ e]; exact h3
theorem sees_low {z : Nat → Int} {i k j : Nat} {x : Int} (h : Sees z i k 0) (hx : x ≤ z j) (hi : j ≠ i) (hk : j ≠ k) : Sees (setZ z j x) i k 0 := by
  obtain ⟨h1, h2⟩ := h
  unfold Sees
  rw [setZ_far _ _ _ _ (Ne.symm hi), setZ_far _ _ _ _ (Ne.symm hk)]
  exact ⟨fun g => free_low (h1 g) hx (by omega), fun g => free_low (h2 g) hx (by omega)⟩
theorem sees_near (z : Nat → Int) (i k : Nat) (h1 : k ≤ i + 1) (h2 : i ≤ k + 1) (e : Int) : Sees z i k e :=
  ⟨fun _ j a b => by omega, fun _ j a b => by omega⟩

/-- tilted -/
def tilZ (z : Nat → Int) (t : Int) : Nat → Int := fun i => z i + i * t
theorem und_tilt (z : Nat → Int) (t : Int) (a b j : Nat) (ha hb : Int) : Und (tilZ z t) a (ha + a * t) b (hb + b * t) j ↔ Und z a ha b hb j := by
  unfold Und tilZ
  have e : (ha + a * t) * ((b : Int) - j) + (hb + b * t) * ((j : Int) - a) - (z j + j * t) * ((b : Int) - a) = ha * ((b : Int) - j) + hb * ((j : Int) - a) - z j * ((b : Int) - a) := by
    simp only [Int.add_mul, Int.mul_sub]
    have q1 : (a : Int) * t * b = b * t * a := by rw [Int.mul_assoc, Int.mul_comm t, ← Int.mul_assoc, Int.mul_comm (a : Int), Int.mul_assoc, Int.mul_comm (a : Int), ← Int.mul_assoc]
    have q2 : (a : Int) * t * j = j * t * a := by rw [Int.mul_assoc, Int.mul_comm t, ← Int.mul_assoc, Int.mul_comm (a : Int), Int.mul_assoc, Int.mul_comm (a : Int), ← Int.mul_assoc]
    have q3 : (b : Int) * t * j = j * t * b := by rw [Int.mul_assoc, Int.mul_comm t, ← Int.mul_assoc, Int.mul_comm (b : Int), Int.mul_assoc, Int.mul_comm (b : Int), ← Int.mul_assoc]
    omega
  constructor <;> intro h <;> omega
theorem sees_tilt (z : Nat → Int) (t : Int) (i k : Nat) : Sees (tilZ z t) i k 0 ↔ Sees z i k 0 := by
  unfold Sees Free
  simp only [Int.add_zero]
  constructor
  · rintro ⟨a, b⟩
    exact ⟨fun g j h1 h2 => (und_tilt z t i k j _ _).1 (a g j h1 h2), fun g j h1 h2 => (und_tilt z t k i j _ _).1 (b g j h1 h2)⟩
  · rintro ⟨a, b⟩
    exact ⟨fun g j h1 h2 => (und_tilt z t i k j _ _).2 (a g j h1 h2), fun g j h1 h2 => (und_tilt z t k i j _ _).2 (b g j h1 h2)⟩
theorem hul_tilt (n : Nat) (z : Nat → Int) (t : Int) (j : Nat) : Hul n (tilZ z t) j ↔ Hul n z j := by
  constructor
  · intro h i k h1 h2 h3 hu
    exact h i k h1 h2 h3 ((und_tilt z t i k j _ _).2 hu)
  · intro h i k h1 h2 h3 hu
    exact h i k h1 h2 h3 ((und_tilt z t i k j _ _).1 hu)
theorem huL_congr {n : Nat} {z z' : Nat → Int} : ∀ k, (∀ j, j < k → (Hul n z j ↔ Hul n z' j)) → huL n z k = huL n z' k := by
  intro k
  induction k with
  | zero => intro _; rfl
  | succ k ih =>
    intro h
    have h1 := ih (fun j hj => h j (by omega))
    by_cases e : Hul n z k
    · rw [huL_yes e, huL_yes ((h k (by omega)).1 e), h1]
    · rw [huL_no e, huL_no (fun g => e ((h k (by omega)).2 g)), h1]
theorem hul_congr {n : Nat} {z z' : Nat → Int} {j : Nat} (h : ∀ j, j < n → z j = z' j) (hj : j < n) : Hul n z j ↔ Hul n z' j := by
  unfold Hul Und
  constructor
  · intro g i k h1 h2 h3
    rw [← h i (by omega), ← h k h3, ← h j hj]; exact g i k h1 h2 h3
  · intro g i k h1 h2 h3
    rw [h i (by omega), h k h3, h j hj]; exact g i k h1 h2 h3

/-- counting a relation over the first points -/
noncomputable def cnR (s : Nat → Nat → Bool) (i : Nat) : Nat → Nat
  | 0 => 0
  | k + 1 => cnR s i k + if s i k = true then 1 else 0
noncomputable def smR (s : Nat → Nat → Bool) (n : Nat) : Nat → Nat
  | 0 => 0
  | i + 1 => smR s n i + cnR s i n
noncomputable def paR (s : Nat → Nat → Bool) : Nat → Nat
  | 0 => 0
  | k + 1 => paR s k + cnR s k k
theorem smR_col (s : Nat → Nat → Bool) (n : Nat) : ∀ i, smR s (n + 1) i = smR s n i + cnR (fun a b => s b a) n i := by
  intro i
  induction i with
  | zero => rfl
  | succ i ih =>
    simp only [smR, cnR] at *
    rw [ih]; omega
theorem cnR_congr {s s' : Nat → Nat → Bool} {i : Nat} : ∀ k, (∀ j, j < k → s i j = s' i j) → cnR s i k = cnR s' i k := by
  intro k
  induction k with
  | zero => intro _; rfl
  | succ k ih => intro h; simp only [cnR]; rw [ih (fun j hj => h j (by omega)), h k (by omega)]
theorem smR_twice (s : Nat → Nat → Bool) (hs : ∀ a b, s a b = s b a) (hd : ∀ a, s a a = true) : ∀ n, smR s n n = n + 2 * paR s n := by
  intro n
  induction n with
  | zero => rfl
  | succ n ih =>
    have h1 := smR_col s n n
    have h2 : cnR (fun a b => s b a) n n = cnR s n n := cnR_congr n (fun j _ => hs j n)
    show smR s (n + 1) n + cnR s n (n + 1) = _
    have h3 : cnR s n (n + 1) = cnR s n n + 1 := by show cnR s n n + (if s n n = true then 1 else 0) = _; rw [hd]; rfl
    have h4 : paR s (n + 1) = paR s n + cnR s n n := rfl
    rw [h1, h2, h3, h4, ih]; omega
theorem cnR_split (s : Nat → Nat → Bool) (i a : Nat) : ∀ b, cnR s i (a + b) = cnR s i a + cnR (fun x y => s x (a + y)) i b := by
  intro b
  induction b with
  | zero => rfl
  | succ b ih => show cnR s i (a + b) + (if s i (a + b) = true then 1 else 0) = cnR s i a + (cnR (fun x y => s x (a + y)) i b + (if s i (a + b) = true then 1 else 0)); rw [ih]; omega
theorem cnR_head (s : Nat → Nat → Bool) (i b : Nat) : cnR s i (b + 1) = (if s i 0 = true then 1 else 0) + cnR (fun x y => s x (y + 1)) i b := by
  have h := cnR_split s i 1 b
  rw [Nat.add_comm 1 b] at h
  rw [h]
  have e : cnR (fun x y => s x (1 + y)) i b = cnR (fun x y => s x (y + 1)) i b := cnR_congr b (fun j _ => by rw [Nat.add_comm])
  rw [e]
  simp [cnR]
theorem cnR_rev (i : Nat) : ∀ n (s : Nat → Nat → Bool), cnR (fun a b => s a (n - 1 - b)) i n = cnR s i n := by
  intro n
  induction n with
  | zero => intro s; rfl
  | succ n ih =>
    intro s
    have h1 := cnR_head s i n
    have h2 : cnR (fun a b => s a (n + 1 - 1 - b)) i (n + 1) = cnR (fun a b => s a (n + 1 - 1 - b)) i n + if s i (n + 1 - 1 - n) = true then 1 else 0 := rfl
    have h3 : n + 1 - 1 - n = 0 := by omega
    have h4 : cnR (fun a b => s a (n + 1 - 1 - b)) i n = cnR (fun x y => s x (y + 1)) i n := by
      rw [← ih (fun x y => s x (y + 1))]
      refine cnR_congr n (fun j hj => ?_)
      show s i (n + 1 - 1 - j) = s i (n - 1 - j + 1)
      congr 1; omega
    rw [h2, h1, h3, h4]; omega
theorem cnR_row {s s' : Nat → Nat → Bool} {i i' : Nat} : ∀ k, (∀ j, j < k → s i j = s' i' j) → cnR s i k = cnR s' i' k := by
  intro k
  induction k with
  | zero => intro _; rfl
  | succ k ih => intro h; simp only [cnR]; rw [ih (fun j hj => h j (by omega)), h k (by omega)]
theorem smR_congr {s s' : Nat → Nat → Bool} {n : Nat} : ∀ k, (∀ i, i < k → cnR s i n = cnR s' i n) → smR s n k = smR s' n k := by
  intro k
  induction k with
  | zero => intro _; rfl
  | succ k ih => intro h; simp only [smR]; rw [ih (fun j hj => h j (by omega)), h k (by omega)]
theorem smR_as (s : Nat → Nat → Bool) (n : Nat) (f : Nat → Nat) : ∀ k, (∀ i, i < k → cnR s i n = f i) → smR s n k = (List.range k).foldl (fun a i => a + f i) 0 := by
  intro k
  induction k with
  | zero => intro _; rfl
  | succ k ih =>
    intro h
    show smR s n k + cnR s k n = _
    rw [List.range_succ, List.foldl_append, ih (fun i hi => h i (by omega)), h k (by omega)]
    rfl
theorem smR_head (s : Nat → Nat → Bool) (n : Nat) : ∀ k, smR s n (k + 1) = cnR s 0 n + smR (fun a b => s (a + 1) b) n k := by
  intro k
  induction k with
  | zero => show 0 + cnR s 0 n = cnR s 0 n + 0; omega
  | succ k ih =>
    show smR s n (k + 1) + cnR s (k + 1) n = _
    rw [ih]
    have e : cnR (fun a b => s (a + 1) b) k n = cnR s (k + 1) n := cnR_row n (fun _ _ => rfl)
    show _ = cnR s 0 n + (smR (fun a b => s (a + 1) b) n k + cnR (fun a b => s (a + 1) b) k n)
    rw [e]; omega
theorem smR_turn (n : Nat) : ∀ k (s : Nat → Nat → Bool), smR (fun a b => s (k - 1 - a) b) n k = smR s n k := by
  intro k
  induction k with
  | zero => intro s; rfl
  | succ k ih =>
    intro s
    have h1 := smR_head s n k
    have h2 : smR (fun a b => s (k + 1 - 1 - a) b) n (k + 1) = smR (fun a b => s (k + 1 - 1 - a) b) n k + cnR (fun a b => s (k + 1 - 1 - a) b) k n := rfl
    have h3 : cnR (fun a b => s (k + 1 - 1 - a) b) k n = cnR s 0 n := cnR_row n (fun j _ => by
      show s (k + 1 - 1 - k) j = s 0 j
      congr 1; omega)
    have h4 : smR (fun a b => s (k + 1 - 1 - a) b) n k = smR (fun a b => s (a + 1) b) n k := by
      rw [← ih (fun a b => s (a + 1) b)]
      refine smR_congr k (fun i hi => cnR_row n (fun j _ => ?_))
      show s (k + 1 - 1 - i) j = s (k - 1 - i + 1) j
      congr 1; omega
    rw [h2, h1, h3, h4]; omega
theorem paR_rev (s : Nat → Nat → Bool) (hs : ∀ a b, s a b = s b a) (hd : ∀ a, s a a = true) (n : Nat) : paR (fun a b => s (n - 1 - a) (n - 1 - b)) n = paR s n := by
  have h1 := smR_twice s hs hd n
  have h2 := smR_twice (fun a b => s (n - 1 - a) (n - 1 - b)) (fun a b => hs _ _) (fun a => hd _) n
  have h3 : smR (fun a b => s (n - 1 - a) (n - 1 - b)) n n = smR s n n := by
    rw [show smR (fun a b => s (n - 1 - a) (n - 1 - b)) n n = smR (fun a b => s (n - 1 - a) b) n n from smR_congr n (fun i _ => cnR_rev i n (fun a b => s (n - 1 - a) b))]
    exact smR_turn n n s
  omega

theorem seB_symm (z : Nat → Int) (a b : Nat) : seB z a b 0 = seB z b a 0 := by
  by_cases h : Sees z a b 0
  · rw [seB_yes h, seB_yes (sees_symm h)]
  · rw [seB_no h, seB_no (fun g => h (sees_symm g))]
theorem seB_congr {z z' : Nat → Int} {i k i' k' : Nat} {e e' : Int} (h : Sees z i k e ↔ Sees z' i' k' e') : seB z i k e = seB z' i' k' e' := by
  by_cases g : Sees z i k e
  · rw [seB_yes g, seB_yes (h.1 g)]
  · rw [seB_no g, seB_no (fun x => g (h.2 x))]
theorem paN_is (z : Nat → Int) (k : Nat) : ∀ i, paN z k i = cnR (fun a b => seB z a b 0) k i := by
  intro i
  induction i with
  | zero => rfl
  | succ i ih => simp only [paN, cnR]; rw [ih]
theorem prN_is (z : Nat → Int) : ∀ k, prN z k = paR (fun a b => seB z a b 0) k := by
  intro k
  induction k with
  | zero => rfl
  | succ k ih => simp only [prN, paR]; rw [ih, paN_is]
theorem snL_cn (z : Nat → Int) (i : Nat) : ∀ k, (snL z i k).length = cnR (fun a b => seB z a b 0) i k := by
  intro k
  induction k with
  | zero => rfl
  | succ k ih =>
    by_cases h : Sees z i k 0
    · rw [snL_yes h]; simp only [List.length_append, List.length_singleton, cnR]; rw [ih]; simp [seB_yes h]
    · rw [snL_no h]; simp only [cnR]; rw [ih]; simp [seB_no h]
theorem paN_congr {z z' : Nat → Int} {k : Nat} : ∀ i, (∀ j, j < i → (Sees z k j 0 ↔ Sees z' k j 0)) → paN z k i = paN z' k i := by
  intro i
  induction i with
  | zero => intro _; rfl
  | succ i ih => intro h; simp only [paN]; rw [ih (fun j hj => h j (by omega)), seB_congr (h i (by omega))]
theorem prN_congr {z z' : Nat → Int} : ∀ k, (∀ a b, a < k → b < k → (Sees z a b 0 ↔ Sees z' a b 0)) → prN z k = prN z' k := by
  intro k
  induction k with
  | zero => intro _; rfl
  | succ k ih => intro h; simp only [prN]; rw [ih (fun a b ha hb => h a b (by omega) (by omega)), paN_congr k (fun j hj => h k j (by omega) (by omega))]
theorem prN_rev (z : Nat → Int) (n : Nat) : prN (revZ (n - 1) z) n = prN z n := by
  rw [prN_is z n, ← paR_rev (fun a b => seB z a b 0) (fun a b => seB_symm z a b) (fun a => seB_yes (sees_self z a 0)) n, prN_is]
  have : ∀ k, k ≤ n → paR (fun a b => seB (revZ (n - 1) z) a b 0) k = paR (fun a b => seB z (n - 1 - a) (n - 1 - b) 0) k := by
    intro k
    induction k with
    | zero => intro _; rfl
    | succ k ih =>
      intro hk
      simp only [paR]
      rw [ih (by omega)]
      congr 1
      refine cnR_congr k (fun j hj => seB_congr ?_)
      have h := sees_rev z (n - 1) (n - 1 - k) (n - 1 - j) (by omega) (by omega)
      have e1 : n - 1 - (n - 1 - k) = k := by omega
      have e2 : n - 1 - (n - 1 - j) = j := by omega
      rw [e1, e2] at h
      exact h
  exact this n (Nat.le_refl _)
theorem paN_near (z : Nat → Int) (k : Nat) : 1 ≤ paN z (k + 1) (k + 1) := by
  rw [paN_yes (sees_near z (k + 1) k (by omega) (by omega) 0)]; omega
theorem prN_ge (z : Nat → Int) : ∀ k, k ≤ prN z (k + 1) := by
  intro k
  induction k with
  | zero => exact Nat.zero_le _
  | succ k ih =>
    have h : prN z (k + 1 + 1) = prN z (k + 1) + paN z (k + 1) (k + 1) := rfl
    have := paN_near z k
    omega

end Go.Proofs.Ythelaffjpmcdbaa
