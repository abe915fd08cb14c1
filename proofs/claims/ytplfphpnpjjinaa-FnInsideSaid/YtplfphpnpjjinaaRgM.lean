/- Regions: what is reckoned. -/
import Derived.Test.YtplfphpnpjjinaaUfM
import Derived.Test.YtplfphpnpjjinaaLvM
namespace Go.Proofs.Ytplfphpnpjjinaa
set_option linter.unusedVariables false

/-- the pairs of land cells from i to later ones of a list -/
def prL {M : Nat} (Z : Nat → Int) (lv : Int) (i : Ix M) : List (Ix M) → List (Ix M × Ix M)
  | [] => []
  | x :: l => (if i.1 < x.1 ∧ lv ≤ Z i.1 ∧ lv ≤ Z x.1 then [(i, x)] else []) ++ prL Z lv i l
theorem prL_append {M : Nat} (Z : Nat → Int) (lv : Int) (i : Ix M) : ∀ a b : List (Ix M), prL Z lv i (a ++ b) = prL Z lv i a ++ prL Z lv i b
  | [], b => by simp [prL]
  | x :: a, b => by simp only [List.cons_append, prL, prL_append Z lv i a b, List.append_assoc]
theorem prL_snoc {M : Nat} (Z : Nat → Int) (lv : Int) (i : Ix M) (a : List (Ix M)) (x : Ix M) : prL Z lv i (a ++ [x]) = prL Z lv i a ++ (if i.1 < x.1 ∧ lv ≤ Z i.1 ∧ lv ≤ Z x.1 then [(i, x)] else []) := by rw [prL_append]; simp [prL]
theorem prL_len {M : Nat} (Z : Nat → Int) (lv : Int) (i : Ix M) : ∀ a : List (Ix M), (prL Z lv i a).length = sdL Z lv i a
  | [] => rfl
  | x :: a => by simp only [prL, sdL, List.length_append, prL_len Z lv i a]; split <;> simp
theorem prL_mem {M : Nat} {Z : Nat → Int} {lv : Int} {i x y : Ix M} : ∀ {a : List (Ix M)}, (x, y) ∈ prL Z lv i a ↔ x = i ∧ y ∈ a ∧ i.1 < y.1 ∧ lv ≤ Z i.1 ∧ lv ≤ Z y.1
  | [] => by simp [prL]
  | z :: a => by
    simp only [prL, List.mem_append, prL_mem (a := a), List.mem_cons]
    constructor
    · rintro (h | h)
      · split at h
        · rename_i hc
          simp only [List.mem_singleton, Prod.mk.injEq] at h
          obtain ⟨rfl, rfl⟩ := h
          exact ⟨rfl, Or.inl rfl, hc⟩
        · cases h
      · exact ⟨h.1, Or.inr h.2.1, h.2.2⟩
    · rintro ⟨rfl, rfl | h, hc⟩
      · exact Or.inl (by rw [if_pos hc]; simp)
      · exact Or.inr ⟨rfl, h, hc⟩

/-- the pairs of the first k cells, as the program meets them -/
def prN (R C : Nat) (Z : Nat → Int) (lv : Int) : Nat → List (Ix (R * C) × Ix (R * C))
  | 0 => []
  | k + 1 => prN R C Z lv k ++ (if h : k < R * C then prL Z lv ⟨k, h⟩ (near R C ⟨k, h⟩ 4) else [])
theorem prN_succ {R C : Nat} {Z : Nat → Int} {lv : Int} (i : Ix (R * C)) : prN R C Z lv (i.1 + 1) = prN R C Z lv i.1 ++ prL Z lv i (near R C i 4) := by
  simp only [prN, i.2, dif_pos]
theorem prN_len (R C : Nat) (Z : Nat → Int) (lv : Int) : ∀ k, (prN R C Z lv k).length = sidesN R C Z lv k
  | 0 => rfl
  | k + 1 => by
    simp only [prN, sidesN, List.length_append, prN_len R C Z lv k, sdAt]
    split
    · rw [prL_len]
    · rfl
theorem prN_mem {R C : Nat} {Z : Nat → Int} {lv : Int} {x y : Ix (R * C)} : ∀ {k : Nat}, (x, y) ∈ prN R C Z lv k ↔ x.1 < k ∧ y ∈ near R C x 4 ∧ x.1 < y.1 ∧ lv ≤ Z x.1 ∧ lv ≤ Z y.1
  | 0 => by simp [prN]
  | k + 1 => by
    simp only [prN, List.mem_append, prN_mem (k := k)]
    constructor
    · rintro (h | h)
      · exact ⟨by omega, h.2⟩
      · split at h
        · rename_i hk
          obtain ⟨e, h2⟩ := prL_mem.1 h
          subst e
          exact ⟨by simp, h2⟩
        · cases h
    · rintro ⟨h1, h2⟩
      by_cases e : x.1 = k
      · refine Or.inr ?_
        have hk : k < R * C := by rw [← e]; exact x.2
        rw [dif_pos hk]
        have ex : (⟨k, hk⟩ : Ix (R * C)) = x := Subtype.ext e.symm
        rw [ex]
        exact prL_mem.2 ⟨rfl, h2⟩
      · exact Or.inl ⟨by omega, h2⟩
theorem prN_pre (R C : Nat) (Z : Nat → Int) (lv : Int) {a b : Nat} (h : a ≤ b) : prN R C Z lv a <+: prN R C Z lv b := by
  induction b with
  | zero => have : a = 0 := by omega
            subst this; exact List.prefix_refl _
  | succ b ih =>
    by_cases e : a = b + 1
    · subst e; exact List.prefix_refl _
    · exact (ih (by omega)).trans (List.prefix_append _ _)

/-- the trees behind the pairs of a list -/
def ufL {M : Nat} (l : List (Ix M × Ix M)) : Nat → Nat := l.foldl (fun p a => joinP p a.1.1 a.2.1) (fun x => x)
theorem ufL_snoc {M : Nat} (l : List (Ix M × Ix M)) (a : Ix M × Ix M) : ufL (l ++ [a]) = joinP (ufL l) a.1.1 a.2.1 := by simp [ufL]
def ePairs {M : Nat} (l : List (Ix M × Ix M)) (x y : Nat) : Prop := ∃ a, a ∈ l ∧ a.1.1 = x ∧ a.2.1 = y
theorem Tells.congr {p : Nat → Nat} {E E' : Nat → Nat → Prop} (h : Tells p E) (e : ∀ x y, E x y ↔ E' x y) : Tells p E' := ⟨h.1, fun x y => (h.2 x y).trans (Jn.congr e)⟩
theorem tells_snoc {M : Nat} {p : Nat → Nat} {l : List (Ix M × Ix M)} (h : Tells p (ePairs l)) (a : Ix M × Ix M) : Tells (joinP p a.1.1 a.2.1) (ePairs (l ++ [a])) := by
  refine (h.join a.1.1 a.2.1).congr fun x y => ?_
  constructor
  · rintro (⟨b, hb, e⟩ | ⟨rfl, rfl⟩)
    · exact ⟨b, by simp [hb], e⟩
    · exact ⟨a, by simp, rfl, rfl⟩
  · rintro ⟨b, hb, e1, e2⟩
    rcases List.mem_append.1 hb with hb | hb
    · exact Or.inl ⟨b, hb, e1, e2⟩
    · simp only [List.mem_singleton] at hb
      subst hb
      exact Or.inr ⟨e1.symm, e2.symm⟩
theorem tells_nil {M : Nat} : Tells (fun x => x) (ePairs ([] : List (Ix M × Ix M))) := tells_id.congr fun x y => ⟨False.elim, fun ⟨_, h, _⟩ => by cases h⟩
theorem tells_ufL {M : Nat} (l : List (Ix M × Ix M)) : Tells (ufL l) (ePairs l) := by
  have key : ∀ (n : Nat) (l : List (Ix M × Ix M)), l.length = n → Tells (ufL l) (ePairs l) := by
    intro n
    induction n with
    | zero => intro l hl; have : l = [] := List.eq_nil_of_length_eq_zero hl
              subst this; exact tells_nil
    | succ n ih =>
      intro l hl
      have hne : l ≠ [] := by intro e; subst e; simp at hl
      rw [← List.dropLast_concat_getLast hne, ufL_snoc]
      exact tells_snoc (ih _ (by simp [hl])) _
  exact key _ l rfl
theorem Tells.uniq {p q : Nat → Nat} {E : Nat → Nat → Prop} (h : Tells p E) (k : Tells q E) (x : Nat) : rt p x = rt q x := by
  have h1 : rt p (rt q x) = rt p x := (h.2 _ _).2 ((k.2 _ _).1 (rt_idem k.1 x))
  have h2 : rt q (rt p x) = rt q x := (k.2 _ _).2 ((h.2 _ _).1 (rt_idem h.1 x))
  have h3 := rt_le h.1 (rt q x)
  have h4 := rt_le k.1 (rt p x)
  omega

/-- the least cell of the region of x -/
def cmZ (R C : Nat) (Z : Nat → Int) (lv : Int) (x : Nat) : Nat := rt (ufL (prN R C Z lv (R * C))) x
theorem cmZ_of {R C : Nat} {Z : Nat → Int} {lv : Int} {p : Nat → Nat} (h : Tells p (ePairs (prN R C Z lv (R * C)))) (x : Nat) : rt p x = cmZ R C Z lv x := h.uniq (tells_ufL _) x
theorem cmZ_le (R C : Nat) (Z : Nat → Int) (lv : Int) (x : Nat) : cmZ R C Z lv x ≤ x := rt_le (tells_ufL _).1 x
theorem cmZ_idem (R C : Nat) (Z : Nat → Int) (lv : Int) (x : Nat) : cmZ R C Z lv (cmZ R C Z lv x) = cmZ R C Z lv x := rt_idem (tells_ufL _).1 x

/-- y is a neighbor of x, and both are land -/
def Adj (R C : Nat) (Z : Nat → Int) (lv : Int) (x y : Ix (R * C)) : Prop := y ∈ near R C x 4 ∧ lv ≤ Z x.1 ∧ lv ≤ Z y.1
theorem near_symm {R C : Nat} {x y : Ix (R * C)} (h : y ∈ near R C x 4) : x ∈ near R C y 4 := by
  unfold near at h ⊢
  rw [List.mem_filterMap] at h ⊢
  obtain ⟨k, hk, hn⟩ := h
  have hk4 : k = 0 ∨ k = 1 ∨ k = 2 ∨ k = 3 := by have := List.mem_range.1 hk; omega
  have hx := x.2
  have hC0 : 0 < C := by
    rcases Nat.eq_zero_or_pos C with e | e
    · subst e; simp at hx
    · exact e
  rcases hk4 with rfl | rfl | rfl | rfl
  · refine ⟨2, by simp, ?_⟩
    simp only [nb, if_true] at hn
    split at hn
    · rename_i hc
      have e : y.1 = x.1 - C := by have := Option.some.inj hn; rw [← this]
      have h2 : y.1 + C < R * C := by omega
      simp only [nb, h2]
      simp
      exact Subtype.ext (by simp only; omega)
    · cases hn
  · refine ⟨3, by simp, ?_⟩
    simp only [nb] at hn
    simp only [Nat.one_ne_zero, if_false, if_true] at hn
    split at hn
    · rename_i hc
      have e : y.1 = x.1 + 1 := by have := Option.some.inj hn; rw [← this]
      have hd := Nat.div_add_mod x.1 C
      have e2 : y.1 = C * (x.1 / C) + (x.1 % C + 1) := by omega
      have h2 : y.1 % C = x.1 % C + 1 := by rw [e2, Nat.mul_add_mod, Nat.mod_eq_of_lt hc]
      simp only [nb]
      simp [h2]
      exact Subtype.ext (by simp only; omega)
    · cases hn
  · refine ⟨0, by simp, ?_⟩
    simp only [nb] at hn
    simp at hn
    obtain ⟨hc, e⟩ := hn
    have e' : y.1 = x.1 + C := by rw [← e]
    have h2 : C ≤ y.1 := by omega
    simp only [nb, h2, if_true]
    exact congrArg some (Subtype.ext (by simp only; omega))
  · refine ⟨1, by simp, ?_⟩
    simp only [nb] at hn
    simp at hn
    obtain ⟨hc, e⟩ := hn
    have e' : y.1 = x.1 - 1 := by rw [← e]
    have hd := Nat.div_add_mod x.1 C
    have hm : x.1 % C < C := Nat.mod_lt _ hC0
    have e2 : y.1 = C * (x.1 / C) + (x.1 % C - 1) := by omega
    have h2 : y.1 % C = x.1 % C - 1 := by rw [e2, Nat.mul_add_mod, Nat.mod_eq_of_lt (by omega)]
    have h3 : y.1 % C + 1 < C := by omega
    simp only [nb]
    simp [h3]
    exact Subtype.ext (by simp only; omega)
theorem near_ne {R C : Nat} {x y : Ix (R * C)} (h : y ∈ near R C x 4) : x.1 ≠ y.1 := by
  unfold near at h
  rw [List.mem_filterMap] at h
  obtain ⟨k, hk, hn⟩ := h
  have hk4 : k = 0 ∨ k = 1 ∨ k = 2 ∨ k = 3 := by have := List.mem_range.1 hk; omega
  have hx := x.2
  have hC0 : 0 < C := by
    rcases Nat.eq_zero_or_pos C with e | e
    · subst e; simp at hx
    · exact e
  rcases hk4 with rfl | rfl | rfl | rfl
  · simp [nb] at hn
    obtain ⟨hc, e⟩ := hn
    rw [← e]; simp only; omega
  · simp [nb] at hn
    obtain ⟨hc, e⟩ := hn
    rw [← e]; simp only; omega
  · simp [nb] at hn
    obtain ⟨hc, e⟩ := hn
    rw [← e]; simp only; omega
  · simp [nb] at hn
    obtain ⟨hc, e⟩ := hn
    have : 0 < x.1 := by
      rcases Nat.eq_zero_or_pos x.1 with e0 | e0
      · rw [e0] at hc; simp at hc
      · exact e0
    rw [← e]; simp only; omega
theorem cm_adj {R C : Nat} {Z : Nat → Int} {lv : Int} {x y : Ix (R * C)} (h : Adj R C Z lv x y) : cmZ R C Z lv x.1 = cmZ R C Z lv y.1 := by
  obtain ⟨h1, h2, h3⟩ := h
  rcases Nat.lt_or_ge x.1 y.1 with hl | hl
  · exact ((tells_ufL _).2 _ _).2 (.pair ⟨(x, y), prN_mem.2 ⟨x.2, h1, hl, h2, h3⟩, rfl, rfl⟩)
  · have hl' : y.1 < x.1 := by have := near_ne h1; omega
    exact (((tells_ufL _).2 _ _).2 (.pair ⟨(y, x), prN_mem.2 ⟨y.2, near_symm h1, hl', h3, h2⟩, rfl, rfl⟩)).symm
/-- a set of cells that is closed under going to neighbors over land holds whole regions -/
theorem cm_closed {R C : Nat} {Z : Nat → Int} {lv : Int} (S : Nat → Prop) (hS : ∀ x y : Ix (R * C), Adj R C Z lv x y → S x.1 → S y.1) {x y : Nat} (e : cmZ R C Z lv x = cmZ R C Z lv y) (hx : S x) : S y := by
  have k := ((tells_ufL (prN R C Z lv (R * C))).2 x y).1 e
  have key : ∀ {x y : Nat}, Jn (ePairs (prN R C Z lv (R * C))) x y → (S x ↔ S y) := by
    intro x y k
    induction k with
    | refl => exact Iff.rfl
    | symm _ ih => exact ih.symm
    | trans _ _ i1 i2 => exact i1.trans i2
    | pair k =>
      obtain ⟨⟨a, b⟩, hm, rfl, rfl⟩ := k
      obtain ⟨_, h1, _, h2, h3⟩ := prN_mem.1 hm
      exact ⟨hS a b ⟨h1, h2, h3⟩, hS b a ⟨near_symm h1, h3, h2⟩⟩
  exact (key k).1 hx

/-- the regions whose least cell is below k -/
def rgN (R C : Nat) (Z : Nat → Int) (lv : Int) : Nat → Nat
  | 0 => 0
  | k + 1 => rgN R C Z lv k + (if lv ≤ Z k ∧ cmZ R C Z lv k = k then 1 else 0)
theorem rgN_yes {R C : Nat} {Z : Nat → Int} {lv : Int} {k : Nat} (h : lv ≤ Z k) (e : cmZ R C Z lv k = k) : rgN R C Z lv (k + 1) = rgN R C Z lv k + 1 := by simp [rgN, h, e]
theorem rgN_no {R C : Nat} {Z : Nat → Int} {lv : Int} {k : Nat} (h : ¬ (lv ≤ Z k ∧ cmZ R C Z lv k = k)) : rgN R C Z lv (k + 1) = rgN R C Z lv k := by simp [rgN, h]
theorem rgN_le (R C : Nat) (Z : Nat → Int) (lv : Int) : ∀ k, rgN R C Z lv k ≤ k
  | 0 => by simp [rgN]
  | k + 1 => by have := rgN_le R C Z lv k; unfold rgN; split <;> omega
theorem rgN_mono (R C : Nat) (Z : Nat → Int) (lv : Int) {a b : Nat} (h : a ≤ b) : rgN R C Z lv a ≤ rgN R C Z lv b := by
  induction h with
  | refl => exact Nat.le_refl _
  | step _ ih => exact Nat.le_trans ih (Nat.le_add_right _ _)

/-- the number of a cell -/
def numZ (R C : Nat) (Z : Nat → Int) (lv : Int) (x : Nat) : Int := if lv ≤ Z x then (rgN R C Z lv (cmZ R C Z lv x) : Int) else -1
theorem numZ_no {R C : Nat} {Z : Nat → Int} {lv : Int} {x : Nat} (h : ¬ lv ≤ Z x) : numZ R C Z lv x = -1 := by simp [numZ, h]
theorem numZ_yes {R C : Nat} {Z : Nat → Int} {lv : Int} {x : Nat} (h : lv ≤ Z x) : numZ R C Z lv x = rgN R C Z lv (cmZ R C Z lv x) := by simp [numZ, h]
/-- the least cell of a region is land -/
theorem cm_land {R C : Nat} {Z : Nat → Int} {lv : Int} {x : Nat} (h : lv ≤ Z x) : lv ≤ Z (cmZ R C Z lv x) :=
  cm_closed (R := R) (C := C) (Z := Z) (lv := lv) (fun x => lv ≤ Z x) (fun x y ha _ => ha.2.2) (cmZ_idem R C Z lv x).symm h
theorem numZ_root {R C : Nat} {Z : Nat → Int} {lv : Int} {x : Nat} (h : lv ≤ Z x) : numZ R C Z lv (cmZ R C Z lv x) = numZ R C Z lv x := by
  rw [numZ_yes h, numZ_yes (cm_land h), cmZ_idem]
theorem numZ_lt {R C : Nat} {Z : Nat → Int} {lv : Int} {x k : Nat} (h : lv ≤ Z x) (hk : cmZ R C Z lv x < k) : numZ R C Z lv x < rgN R C Z lv k := by
  rw [numZ_yes h]
  have h1 := rgN_yes (R := R) (C := C) (cm_land (R := R) (C := C) h) (cmZ_idem R C Z lv x)
  have h2 := rgN_mono R C Z lv (a := cmZ R C Z lv x + 1) (b := k) (by omega)
  omega

end Go.Proofs.Ytplfphpnpjjinaa
