/- Sets of numbers kept as trees: what is reckoned. -/
import Derived.Test.YtlbdglhippapnabM3
import Derived.Test.YtlbdglhippapnabLvM
namespace Go.Proofs.Ytlbdglhippapnab
set_option linter.unusedVariables false

def Dn (p : Nat → Nat) : Prop := ∀ x, p x ≤ x
def rtF (p : Nat → Nat) : Nat → Nat → Nat
  | 0, x => x
  | n + 1, x => if p x = x then x else rtF p n (p x)
def rt (p : Nat → Nat) (x : Nat) : Nat := rtF p x x

theorem rtF_stable {p : Nat → Nat} (h : Dn p) : ∀ (n m x : Nat), x ≤ n → x ≤ m → rtF p n x = rtF p m x
  | 0, 0, x, _, _ => rfl
  | 0, m + 1, x, h1, _ => by
    have e : p x = x := by have := h x; omega
    simp [rtF, e]
  | n + 1, 0, x, _, h1 => by
    have e : p x = x := by have := h x; omega
    simp [rtF, e]
  | n + 1, m + 1, x, h1, h2 => by
    simp only [rtF]
    by_cases e : p x = x
    · simp [e]
    · have := h x
      rw [if_neg e, if_neg e]
      exact rtF_stable h n m (p x) (by omega) (by omega)
theorem rt_self {p : Nat → Nat} {x : Nat} (e : p x = x) : rt p x = x := by
  unfold rt
  cases x with
  | zero => rfl
  | succ x => simp [rtF, e]
theorem rt_step {p : Nat → Nat} (h : Dn p) (x : Nat) : rt p (p x) = rt p x := by
  by_cases e : p x = x
  · rw [e]
  · have h1 := h x
    have h2 : rt p x = rtF p (x - 1) (p x) := by
      unfold rt
      obtain ⟨y, rfl⟩ : ∃ y, x = y + 1 := ⟨x - 1, by omega⟩
      simp [rtF, e]
    rw [h2]
    exact rtF_stable h _ _ _ (Nat.le_refl _) (by omega)
theorem rt_uniq {p f : Nat → Nat} (h : Dn p) (h0 : ∀ x, p x = x → f x = x) (h1 : ∀ x, p x ≠ x → f x = f (p x)) : ∀ x, f x = rt p x := by
  intro x
  induction x using Nat.strongRecOn with
  | _ x ih =>
    by_cases e : p x = x
    · rw [h0 x e, rt_self e]
    · rw [h1 x e, ih (p x) (by have := h x; omega), rt_step h]
theorem rt_root {p : Nat → Nat} (h : Dn p) (x : Nat) : p (rt p x) = rt p x := by
  induction x using Nat.strongRecOn with
  | _ x ih =>
    by_cases e : p x = x
    · rw [rt_self e, e]
    · rw [← rt_step h]; exact ih (p x) (by have := h x; omega)
theorem rt_le {p : Nat → Nat} (h : Dn p) (x : Nat) : rt p x ≤ x := by
  induction x using Nat.strongRecOn with
  | _ x ih =>
    by_cases e : p x = x
    · rw [rt_self e]; exact Nat.le_refl _
    · have := ih (p x) (by have := h x; omega)
      rw [rt_step h] at this
      have := h x
      omega
theorem rt_idem {p : Nat → Nat} (h : Dn p) (x : Nat) : rt p (rt p x) = rt p x := rt_self (rt_root h x)

def upd (p : Nat → Nat) (i v : Nat) (x : Nat) : Nat := if x = i then v else p x
theorem upd_dn {p : Nat → Nat} (h : Dn p) {i v : Nat} (hv : v ≤ i) : Dn (upd p i v) := fun x => by
  unfold upd
  split
  · omega
  · exact h x
/-- shortening a way leaves all roots -/
theorem rt_halve {p : Nat → Nat} (h : Dn p) (i : Nat) : ∀ x, rt (upd p i (p (p i))) x = rt p x := by
  have hd := upd_dn h (i := i) (v := p (p i)) (by have := h i; have := h (p i); omega)
  intro x
  refine (rt_uniq hd (f := rt p) (fun y e => ?_) (fun y e => ?_) x).symm
  · by_cases ey : y = i
    · subst ey
      simp only [upd, if_true] at e
      have h1 := h y
      have h2 := h (p y)
      have e2 : p y = y := by omega
      exact rt_self e2
    · simp only [upd, ey, if_false] at e
      exact rt_self e
  · by_cases ey : y = i
    · subst ey
      simp only [upd, if_true]
      rw [rt_step h, rt_step h]
    · simp only [upd, ey, if_false]
      rw [rt_step h]
theorem dn_halve {p : Nat → Nat} (h : Dn p) (i : Nat) : Dn (upd p i (p (p i))) := upd_dn h (by have := h i; have := h (p i); omega)

/-- two sets become one -/
def joinP (p : Nat → Nat) (a b : Nat) : Nat → Nat := upd p (max (rt p a) (rt p b)) (min (rt p a) (rt p b))
theorem joinP_dn {p : Nat → Nat} (h : Dn p) (a b : Nat) : Dn (joinP p a b) := upd_dn h (by omega)
theorem joinP_rt {p : Nat → Nat} (h : Dn p) (a b x : Nat) : rt (joinP p a b) x = if rt p x = max (rt p a) (rt p b) then min (rt p a) (rt p b) else rt p x := by
  refine (rt_uniq (joinP_dn h a b) (f := fun x => if rt p x = max (rt p a) (rt p b) then min (rt p a) (rt p b) else rt p x) (fun y e => ?_) (fun y e => ?_) x).symm
  · unfold joinP at e
    by_cases ey : y = max (rt p a) (rt p b)
    · simp only [upd, ey, if_true] at e
      have er : rt p y = y := by
        rw [ey]
        rcases Nat.le_total (rt p a) (rt p b) with hl | hl
        · rw [Nat.max_eq_right hl]; exact rt_idem h b
        · rw [Nat.max_eq_left hl]; exact rt_idem h a
      rw [er, if_pos ey]; omega
    · simp only [upd, ey, if_false] at e
      have er : rt p y = y := rt_self e
      rw [er, if_neg ey]
  · unfold joinP at e ⊢
    by_cases ey : y = max (rt p a) (rt p b)
    · simp only [upd, ey, if_true] at e ⊢
      have er : rt p (max (rt p a) (rt p b)) = max (rt p a) (rt p b) := by
        rcases Nat.le_total (rt p a) (rt p b) with hl | hl
        · rw [Nat.max_eq_right hl]; exact rt_idem h b
        · rw [Nat.max_eq_left hl]; exact rt_idem h a
      have em : rt p (min (rt p a) (rt p b)) = min (rt p a) (rt p b) := by
        rcases Nat.le_total (rt p a) (rt p b) with hl | hl
        · rw [Nat.min_eq_left hl]; exact rt_idem h a
        · rw [Nat.min_eq_right hl]; exact rt_idem h b
      rw [er, if_pos rfl, em]
      split <;> rfl
    · simp only [upd, ey, if_false]
      rw [rt_step h]

/-- x and y are joined by pairs of E -/
inductive Jn (E : Nat → Nat → Prop) : Nat → Nat → Prop
  | refl (x : Nat) : Jn E x x
  | pair {x y : Nat} : E x y → Jn E x y
  | symm {x y : Nat} : Jn E x y → Jn E y x
  | trans {x y z : Nat} : Jn E x y → Jn E y z → Jn E x z
theorem Jn.mono {E E' : Nat → Nat → Prop} (h : ∀ x y, E x y → Jn E' x y) {x y : Nat} (k : Jn E x y) : Jn E' x y := by
  induction k with
  | refl x => exact .refl x
  | pair h1 => exact h _ _ h1
  | symm _ ih => exact ih.symm
  | trans _ _ ih1 ih2 => exact ih1.trans ih2
theorem Jn.congr {E E' : Nat → Nat → Prop} (h : ∀ x y, E x y ↔ E' x y) {x y : Nat} : Jn E x y ↔ Jn E' x y :=
  ⟨Jn.mono fun x y k => .pair ((h x y).1 k), Jn.mono fun x y k => .pair ((h x y).2 k)⟩

/-- the trees tell what E joins -/
def Tells (p : Nat → Nat) (E : Nat → Nat → Prop) : Prop := Dn p ∧ ∀ x y, rt p x = rt p y ↔ Jn E x y
theorem tells_id : Tells (fun x => x) (fun _ _ => False) := by
  refine ⟨fun x => Nat.le_refl _, fun x y => ?_⟩
  have e : ∀ x, rt (fun x => x) x = x := fun x => rt_self rfl
  rw [e, e]
  constructor
  · rintro rfl; exact .refl _
  · intro h
    induction h with
    | refl => rfl
    | pair h => exact h.elim
    | symm _ ih => exact ih.symm
    | trans _ _ i1 i2 => exact i1.trans i2
theorem Tells.same {p q : Nat → Nat} {E : Nat → Nat → Prop} (h : Tells p E) (hq : Dn q) (e : ∀ x, rt q x = rt p x) : Tells q E := ⟨hq, fun x y => by rw [e, e]; exact h.2 x y⟩
theorem Tells.join {p : Nat → Nat} {E : Nat → Nat → Prop} (h : Tells p E) (a b : Nat) : Tells (joinP p a b) (fun x y => E x y ∨ (x = a ∧ y = b)) := by
  refine ⟨joinP_dn h.1 a b, fun x y => ?_⟩
  have hE : ∀ {x y}, Jn E x y → Jn (fun x y => E x y ∨ (x = a ∧ y = b)) x y := fun k => k.mono fun x y e => .pair (Or.inl e)
  have hab : Jn (fun x y => E x y ∨ (x = a ∧ y = b)) a b := .pair (Or.inr ⟨rfl, rfl⟩)
  have hr : ∀ x, Jn E x (rt p x) := fun x => (h.2 _ _).1 (rt_idem h.1 x).symm
  have hm : Jn (fun x y => E x y ∨ (x = a ∧ y = b)) (max (rt p a) (rt p b)) (min (rt p a) (rt p b)) := by
    have h1 : Jn (fun x y => E x y ∨ (x = a ∧ y = b)) (rt p a) (rt p b) := ((hE (hr a)).symm.trans hab).trans (hE (hr b))
    rcases Nat.le_total (rt p a) (rt p b) with hl | hl
    · rw [Nat.max_eq_right hl, Nat.min_eq_left hl]; exact h1.symm
    · rw [Nat.max_eq_left hl, Nat.min_eq_right hl]; exact h1
  have hj : ∀ x, Jn (fun x y => E x y ∨ (x = a ∧ y = b)) x (rt (joinP p a b) x) := fun x => by
    rw [joinP_rt h.1]
    split
    · rename_i e
      exact ((hE (hr x)).trans (e ▸ .refl _)).trans hm
    · exact hE (hr x)
  constructor
  · intro e
    exact (hj x).trans (e ▸ (hj y).symm)
  · intro k
    induction k with
    | refl => rfl
    | symm _ ih => exact ih.symm
    | trans _ _ i1 i2 => exact i1.trans i2
    | pair k =>
      rename_i x y
      rcases k with k | ⟨rfl, rfl⟩
      · have e := (h.2 x y).2 (.pair k)
        rw [joinP_rt h.1, joinP_rt h.1, e]
      · rw [joinP_rt h.1, joinP_rt h.1]
        rcases Nat.le_total (rt p x) (rt p y) with hl | hl
        · rw [Nat.max_eq_right hl, Nat.min_eq_left hl, if_pos rfl]
          split
          · rfl
          · rfl
        · rw [Nat.max_eq_left hl, Nat.min_eq_right hl, if_pos rfl]
          split
          · rfl
          · rfl

end Go.Proofs.Ytlbdglhippapnab

/- Regions: what is reckoned. -/
namespace Go.Proofs.Ytlbdglhippapnab
set_option linter.unusedVariables false

/-- the pairs of land cells from i to later ones of a list -/
def prL {M : Nat} (Z : Nat → Int) (lv : Int) (i : Ix M) : List (Ix M) → List (Ix M × Ix M)
  | [] => []
  | x :: l => (if i.1 < x.1 ∧ lv ≤ Z i.1 ∧ lv ≤ Z x.1 then [(i, x)] else []) ++ prL Z lv i l
theorem prL_append {M : Nat} (Z : Nat → Int) (lv : Int) (i : Ix M) : ∀ a b : List (Ix M), prL Z lv i (a ++ b) = prL Z lv i a ++ prL Z lv i b
  | [], b => by simp [prL]
  | x :: a, b => by simp only [List.cons_append, prL, prL_append Z lv i a b, List.append_assoc]
theorem prL_snoc {M : Nat} (Z : Nat → Int) (lv : Int) (i : Ix M) (a : List (Ix M)) (x : Ix M) : prL Z lv i (a ++ [x]) = prL Z lv i a ++ (if i.1 < x.1 ∧ lv ≤ Z i.1 ∧ lv ≤ Z x.1 then [(i, x)] else []) := by rw [prL_append]; simp [prL]
theorem prL_len {M : Nat} (Z : Nat → Int) (lv : Int) (i : Ix M) : ∀ a : List (Ix M), (prL Z lv i a).length = sdL Z lv i a
  | [] => rfl
  | x :: a => by simp only [prL, sdL, List.length_append, prL_len Z lv i a]; split <;> simp
theorem prL_mem {M : Nat} {Z : Nat → Int} {lv : Int} {i x y : Ix M} : ∀ {a : List (Ix M)}, (x, y) ∈ prL Z lv i a ↔ x = i ∧ y ∈ a ∧ i.1 < y.1 ∧ lv ≤ Z i.1 ∧ lv ≤ Z y.1
  | [] => by simp [prL]
  | z :: a => by
    simp only [prL, List.mem_append, prL_mem (a := a), List.mem_cons]
    constructor
    · rintro (h | h)
      · split at h
        · rename_i hc
          simp only [List.mem_singleton, Prod.mk.injEq] at h
          obtain ⟨rfl, rfl⟩ := h
          exact ⟨rfl, Or.inl rfl, hc⟩
        · cases h
      · exact ⟨h.1, Or.inr h.2.1, h.2.2⟩
    · rintro ⟨rfl, rfl | h, hc⟩
      · exact Or.inl (by rw [if_pos hc]; simp)
      · exact Or.inr ⟨rfl, h, hc⟩

/-- the pairs of the first k cells, as the program meets them -/
def prN (R C : Nat) (Z : Nat → Int) (lv : Int) : Nat → List (Ix (R * C) × Ix (R * C))
  | 0 => []
  | k + 1 => prN R C Z lv k ++ (if h : k < R * C then prL Z lv ⟨k, h⟩ (near R C ⟨k, h⟩ 4) else [])
theorem prN_succ {R C : Nat} {Z : Nat → Int} {lv : Int} (i : Ix (R * C)) : prN R C Z lv (i.1 + 1) = prN R C Z lv i.1 ++ prL Z lv i (near R C i 4) := by
  simp only [prN, i.2, dif_pos]
theorem prN_len (R C : Nat) (Z : Nat → Int) (lv : Int) : ∀ k, (prN R C Z lv k).length = sidesN R C Z lv k
  | 0 => rfl
  | k + 1 => by
    simp only [prN, sidesN, List.length_append, prN_len R C Z lv k, sdAt]
    split
    · rw [prL_len]
    · rfl
theorem prN_mem {R C : Nat} {Z : Nat → Int} {lv : Int} {x y : Ix (R * C)} : ∀ {k : Nat}, (x, y) ∈ prN R C Z lv k ↔ x.1 < k ∧ y ∈ near R C x 4 ∧ x.1 < y.1 ∧ lv ≤ Z x.1 ∧ lv ≤ Z y.1
  | 0 => by simp [prN]
  | k + 1 => by
    simp only [prN, List.mem_append, prN_mem (k := k)]
    constructor
    · rintro (h | h)
      · exact ⟨by omega, h.2⟩
      · split at h
        · rename_i hk
          obtain ⟨e, h2⟩ := prL_mem.1 h
          subst e
          exact ⟨by simp, h2⟩
        · cases h
    · rintro ⟨h1, h2⟩
      by_cases e : x.1 = k
      · refine Or.inr ?_
        have hk : k < R * C := by rw [← e]; exact x.2
        rw [dif_pos hk]
        have ex : (⟨k, hk⟩ : Ix (R * C)) = x := Subtype.ext e.symm
        rw [ex]
        exact prL_mem.2 ⟨rfl, h2⟩
      · exact Or.inl ⟨by omega, h2⟩
theorem prN_pre (R C : Nat) (Z : Nat → Int) (lv : Int) {a b : Nat} (h : a ≤ b) : prN R C Z lv a <+: prN R C Z lv b := by
  induction b with
  | zero => have : a = 0 := by omega
            subst this; exact List.prefix_refl _
  | succ b ih =>
    by_cases e : a = b + 1
    · subst e; exact List.prefix_refl _
    · exact (ih (by omega)).trans (List.prefix_append _ _)

/-- the trees behind the pairs of a list -/
def ufL {M : Nat} (l : List (Ix M × Ix M)) : Nat → Nat := l.foldl (fun p a => joinP p a.1.1 a.2.1) (fun x => x)
theorem ufL_snoc {M : Nat} (l : List (Ix M × Ix M)) (a : Ix M × Ix M) : ufL (l ++ [a]) = joinP (ufL l) a.1.1 a.2.1 := by simp [ufL]
def ePairs {M : Nat} (l : List (Ix M × Ix M)) (x y : Nat) : Prop := ∃ a, a ∈ l ∧ a.1.1 = x ∧ a.2.1 = y
theorem Tells.congr {p : Nat → Nat} {E E' : Nat → Nat → Prop} (h : Tells p E) (e : ∀ x y, E x y ↔ E' x y) : Tells p E' := ⟨h.1, fun x y => (h.2 x y).trans (Jn.congr e)⟩
theorem tells_snoc {M : Nat} {p : Nat → Nat} {l : List (Ix M × Ix M)} (h : Tells p (ePairs l)) (a : Ix M × Ix M) : Tells (joinP p a.1.1 a.2.1) (ePairs (l ++ [a])) := by
  refine (h.join a.1.1 a.2.1).congr fun x y => ?_
  constructor
  · rintro (⟨b, hb, e⟩ | ⟨rfl, rfl⟩)
    · exact ⟨b, by simp [hb], e⟩
    · exact ⟨a, by simp, rfl, rfl⟩
  · rintro ⟨b, hb, e1, e2⟩
    rcases List.mem_append.1 hb with hb | hb
    · exact Or.inl ⟨b, hb, e1, e2⟩
    · simp only [List.mem_singleton] at hb
      subst hb
      exact Or.inr ⟨e1.symm, e2.symm⟩
theorem tells_nil {M : Nat} : Tells (fun x => x) (ePairs ([] : List (Ix M × Ix M))) := tells_id.congr fun x y => ⟨False.elim, fun ⟨_, h, _⟩ => by cases h⟩
theorem tells_ufL {M : Nat} (l : List (Ix M × Ix M)) : Tells (ufL l) (ePairs l) := by
  have key : ∀ (n : Nat) (l : List (Ix M × Ix M)), l.length = n → Tells (ufL l) (ePairs l) := by
    intro n
    induction n with
    | zero => intro l hl; have : l = [] := List.eq_nil_of_length_eq_zero hl
              subst this; exact tells_nil
    | succ n ih =>
      intro l hl
      have hne : l ≠ [] := by intro e; subst e; simp at hl
      rw [← List.dropLast_concat_getLast hne, ufL_snoc]
      exact tells_snoc (ih _ (by simp [hl])) _
  exact key _ l rfl
theorem Tells.uniq {p q : Nat → Nat} {E : Nat → Nat → Prop} (h : Tells p E) (k : Tells q E) (x : Nat) : rt p x = rt q x := by
  have h1 : rt p (rt q x) = rt p x := (h.2 _ _).2 ((k.2 _ _).1 (rt_idem k.1 x))
  have h2 : rt q (rt p x) = rt q x := (k.2 _ _).2 ((h.2 _ _).1 (rt_idem h.1 x))
  have h3 := rt_le h.1 (rt q x)
  have h4 := rt_le k.1 (rt p x)
  omega

/-- the least cell of the region of x -/
def cmZ (R C : Nat) (Z : Nat → Int) (lv : Int) (x : Nat) : Nat := rt (ufL (prN R C Z lv (R * C))) x
theorem cmZ_of {R C : Nat} {Z : Nat → Int} {lv : Int} {p : Nat → Nat} (h : Tells p (ePairs (prN R C Z lv (R * C)))) (x : Nat) : rt p x = cmZ R C Z lv x := h.uniq (tells_ufL _) x
theorem cmZ_le (R C : Nat) (Z : Nat → Int) (lv : Int) (x : Nat) : cmZ R C Z lv x ≤ x := rt_le (tells_ufL _).1 x
theorem cmZ_idem (R C : Nat) (Z : Nat → Int) (lv : Int) (x : Nat) : cmZ R C Z lv (cmZ R C Z lv x) = cmZ R C Z lv x := rt_idem (tells_ufL _).1 x

/-- y is a neighbor of x, and both are land -/
def Adj (R C : Nat) (Z : Nat → Int) (lv : Int) (x y : Ix (R * C)) : Prop := y ∈ near R C x 4 ∧ lv ≤ Z x.1 ∧ lv ≤ Z y.1
theorem near_symm {R C : Nat} {x y : Ix (R * C)} (h : y ∈ near R C x 4) : x ∈ near R C y 4 := by
  unfold near at h ⊢
  rw [List.mem_filterMap] at h ⊢
  obtain ⟨k, hk, hn⟩ := h
  have hk4 : k = 0 ∨ k = 1 ∨ k = 2 ∨ k = 3 := by have := List.mem_range.1 hk; omega
  have hx := x.2
  have hC0 : 0 < C := by
    rcases Nat.eq_zero_or_pos C with e | e
    · subst e; simp at hx
    · exact e
  rcases hk4 with rfl | rfl | rfl | rfl
  · refine ⟨2, by simp, ?_⟩
    simp only [nb, if_true] at hn
    split at hn
    · rename_i hc
      have e : y.1 = x.1 - C := by have := Option.some.inj hn; rw [← this]
      have h2 : y.1 + C < R * C := by omega
      simp only [nb, h2]
      simp
      exact Subtype.ext (by simp only; omega)
    · cases hn
  · refine ⟨3, by simp, ?_⟩
    simp only [nb] at hn
    simp only [Nat.one_ne_zero, if_false, if_true] at hn
    split at hn
    · rename_i hc
      have e : y.1 = x.1 + 1 := by have := Option.some.inj hn; rw [← this]
      have hd := Nat.div_add_mod x.1 C
      have e2 : y.1 = C * (x.1 / C) + (x.1 % C + 1) := by omega
      have h2 : y.1 % C = x.1 % C + 1 := by rw [e2, Nat.mul_add_mod, Nat.mod_eq_of_lt hc]
      simp only [nb]
      simp [h2]
      exact Subtype.ext (by simp only; omega)
    · cases hn
  · refine ⟨0, by simp, ?_⟩
    simp only [nb] at hn
    simp at hn
    obtain ⟨hc, e⟩ := hn
    have e' : y.1 = x.1 + C := by rw [← e]
    have h2 : C ≤ y.1 := by omega
    simp only [nb, h2, if_true]
    exact congrArg some (Subtype.ext (by simp only; omega))
  · refine ⟨1, by simp, ?_⟩
    simp only [nb] at hn
    simp at hn
    obtain ⟨hc, e⟩ := hn
    have e' : y.1 = x.1 - 1 := by rw [← e]
    have hd := Nat.div_add_mod x.1 C
    have hm : x.1 % C < C := Nat.mod_lt _ hC0
    have e2 : y.1 = C * (x.1 / C) + (x.1 % C - 1) := by omega
    have h2 : y.1 % C = x.1 % C - 1 := by rw [e2, Nat.mul_add_mod, Nat.mod_eq_of_lt (by omega)]
    have h3 : y.1 % C + 1 < C := by omega
    simp only [nb]
    simp [h3]
    exact Subtype.ext (by simp only; omega)
theorem near_ne {R C : Nat} {x y : Ix (R * C)} (h : y ∈ near R C x 4) : x.1 ≠ y.1 := by
  unfold near at h
  rw [List.mem_filterMap] at h
  obtain ⟨k, hk, hn⟩ := h
  have hk4 : k = 0 ∨ k = 1 ∨ k = 2 ∨ k = 3 := by have := List.mem_range.1 hk; omega
  have hx := x.2
  have hC0 : 0 < C := by
    rcases Nat.eq_zero_or_pos C with e | e
    · subst e; simp at hx
    · exact e
  rcases hk4 with rfl | rfl | rfl | rfl
  · simp [nb] at hn
    obtain ⟨hc, e⟩ := hn
    rw [← e]; simp only; omega
  · simp [nb] at hn
    obtain ⟨hc, e⟩ := hn
    rw [← e]; simp only; omega
  · simp [nb] at hn
    obtain ⟨hc, e⟩ := hn
    rw [← e]; simp only; omega
  · simp [nb] at hn
    obtain ⟨hc, e⟩ := hn
    have : 0 < x.1 := by
      rcases Nat.eq_zero_or_pos x.1 with e0 | e0
      · rw [e0] at hc; simp at hc
      · exact e0
    rw [← e]; simp only; omega
theorem cm_adj {R C : Nat} {Z : Nat → Int} {lv : Int} {x y : Ix (R * C)} (h : Adj R C Z lv x y) : cmZ R C Z lv x.1 = cmZ R C Z lv y.1 := by
  obtain ⟨h1, h2, h3⟩ := h
  rcases Nat.lt_or_ge x.1 y.1 with hl | hl
  · exact ((tells_ufL _).2 _ _).2 (.pair ⟨(x, y), prN_mem.2 ⟨x.2, h1, hl, h2, h3⟩, rfl, rfl⟩)
  · have hl' : y.1 < x.1 := by have := near_ne h1; omega
    exact (((tells_ufL _).2 _ _).2 (.pair ⟨(y, x), prN_mem.2 ⟨y.2, near_symm h1, hl', h3, h2⟩, rfl, rfl⟩)).symm
/-- a set of cells that is closed under going to neighbors over land holds whole regions -/
theorem cm_closed {R C : Nat} {Z : Nat → Int} {lv : Int} (S : Nat → Prop) (hS : ∀ x y : Ix (R * C), Adj R C Z lv x y → S x.1 → S y.1) {x y : Nat} (e : cmZ R C Z lv x = cmZ R C Z lv y) (hx : S x) : S y := by
  have k := ((tells_ufL (prN R C Z lv (R * C))).2 x y).1 e
  have key : ∀ {x y : Nat}, Jn (ePairs (prN R C Z lv (R * C))) x y → (S x ↔ S y) := by
    intro x y k
    induction k with
    | refl => exact Iff.rfl
    | symm _ ih => exact ih.symm
    | trans _ _ i1 i2 => exact i1.trans i2
    | pair k =>
      obtain ⟨⟨a, b⟩, hm, rfl, rfl⟩ := k
      obtain ⟨_, h1, _, h2, h3⟩ := prN_mem.1 hm
      exact ⟨hS a b ⟨h1, h2, h3⟩, hS b a ⟨near_symm h1, h3, h2⟩⟩
  exact (key k).1 hx

/-- the regions whose least cell is below k -/
def rgN (R C : Nat) (Z : Nat → Int) (lv : Int) : Nat → Nat
  | 0 => 0
  | k + 1 => rgN R C Z lv k + (if lv ≤ Z k ∧ cmZ R C Z lv k = k then 1 else 0)
theorem rgN_yes {R C : Nat} {Z : Nat → Int} {lv : Int} {k : Nat} (h : lv ≤ Z k) (e : cmZ R C Z lv k = k) : rgN R C Z lv (k + 1) = rgN R C Z lv k + 1 := by simp [rgN, h, e]
theorem rgN_no {R C : Nat} {Z : Nat → Int} {lv : Int} {k : Nat} (h : ¬ (lv ≤ Z k ∧ cmZ R C Z lv k = k)) : rgN R C Z lv (k + 1) = rgN R C Z lv k := by simp [rgN, h]
theorem rgN_le (R C : Nat) (Z : Nat → Int) (lv : Int) : ∀ k, rgN R C Z lv k ≤ k
  | 0 => by simp [rgN]
  | k + 1 => by have := rgN_le R C Z lv k; unfold rgN; split <;> omega
theorem rgN_mono (R C : Nat) (Z : Nat → Int) (lv : Int) {a b : Nat} (h : a ≤ b) : rgN R C Z lv a ≤ rgN R C Z lv b := by
  induction h with
  | refl => exact Nat.le_refl _
  | step _ ih => exact Nat.le_trans ih (Nat.le_add_right _ _)

/-- the number of a cell -/
def numZ (R C : Nat) (Z : Nat → Int) (lv : Int) (x : Nat) : Int := if lv ≤ Z x then (rgN R C Z lv (cmZ R C Z lv x) : Int) else -1
theorem numZ_no {R C : Nat} {Z : Nat → Int} {lv : Int} {x : Nat} (h : ¬ lv ≤ Z x) : numZ R C Z lv x = -1 := by simp [numZ, h]
theorem numZ_yes {R C : Nat} {Z : Nat → Int} {lv : Int} {x : Nat} (h : lv ≤ Z x) : numZ R C Z lv x = rgN R C Z lv (cmZ R C Z lv x) := by simp [numZ, h]
/-- the least cell of a region is land -/
theorem cm_land {R C : Nat} {Z : Nat → Int} {lv : Int} {x : Nat} (h : lv ≤ Z x) : lv ≤ Z (cmZ R C Z lv x) :=
  cm_closed (R := R) (C := C) (Z := Z) (lv := lv) (fun x => lv ≤ Z x) (fun x y ha _ => ha.2.2) (cmZ_idem R C Z lv x).symm h
theorem numZ_root {R C : Nat} {Z : Nat → Int} {lv : Int} {x : Nat} (h : lv ≤ Z x) : numZ R C Z lv (cmZ R C Z lv x) = numZ R C Z lv x := by
  rw [numZ_yes h, numZ_yes (cm_land h), cmZ_idem]
theorem numZ_lt {R C : Nat} {Z : Nat → Int} {lv : Int} {x k : Nat} (h : lv ≤ Z x) (hk : cmZ R C Z lv x < k) : numZ R C Z lv x < rgN R C Z lv k := by
  rw [numZ_yes h]
  have h1 := rgN_yes (R := R) (C := C) (cm_land (R := R) (C := C) h) (cmZ_idem R C Z lv x)
  have h2 := rgN_mono R C Z lv (a := cmZ R C Z lv x + 1) (b := k) (by omega)
  omega

end Go.Proofs.Ytlbdglhippapnab

/- Regions numbered one after another: what is reckoned. -/
namespace Go.Proofs.Ytlbdglhippapnab
set_option linter.unusedVariables false

/-- what a cell bears when the regions of the cells below i have been numbered -/
def lab (R C : Nat) (Z : Nat → Int) (lv : Int) (i j : Nat) : Int := if lv ≤ Z j ∧ cmZ R C Z lv j < i then numZ R C Z lv j else -1
theorem numZ_nonneg {R C : Nat} {Z : Nat → Int} {lv : Int} {j : Nat} (h : lv ≤ Z j) : 0 ≤ numZ R C Z lv j := by rw [numZ_yes h]; omega
theorem lab_zero (R C : Nat) (Z : Nat → Int) (lv : Int) (j : Nat) : lab R C Z lv 0 j = -1 := by unfold lab; rw [if_neg (by omega)]
theorem lab_all {R C : Nat} {Z : Nat → Int} {lv : Int} {N j : Nat} (hj : j < N) : lab R C Z lv N j = numZ R C Z lv j := by
  unfold lab
  have := cmZ_le R C Z lv j
  by_cases h : lv ≤ Z j
  · rw [if_pos ⟨h, by omega⟩]
  · rw [if_neg (fun k => h k.1), numZ_no h]
theorem lab_skip {R C : Nat} {Z : Nat → Int} {lv : Int} {i j : Nat} (h : ¬ (lv ≤ Z i ∧ cmZ R C Z lv i = i)) : lab R C Z lv (i + 1) j = lab R C Z lv i j := by
  unfold lab
  by_cases hl : lv ≤ Z j
  · by_cases hc : cmZ R C Z lv j < i
    · rw [if_pos ⟨hl, by omega⟩, if_pos ⟨hl, hc⟩]
    · have hne : cmZ R C Z lv j ≠ i := fun e => h ⟨by rw [← e]; exact cm_land hl, by rw [← e]; exact cmZ_idem R C Z lv j⟩
      rw [if_neg (by omega), if_neg (by omega)]
  · rw [if_neg (fun k => hl k.1), if_neg (fun k => hl k.1)]
theorem lab_neg {R C : Nat} {Z : Nat → Int} {lv : Int} {i j : Nat} (h : ¬ (lv ≤ Z j ∧ cmZ R C Z lv j < i)) : lab R C Z lv i j = -1 := by unfold lab; rw [if_neg h]
theorem lab_pos {R C : Nat} {Z : Nat → Int} {lv : Int} {i j : Nat} (h : lv ≤ Z j ∧ cmZ R C Z lv j < i) : 0 ≤ lab R C Z lv i j := by unfold lab; rw [if_pos h]; exact numZ_nonneg h.1
theorem lab_range (R C : Nat) (Z : Nat → Int) (lv : Int) (i j : Nat) (hj : j ≤ 1000) : -1 ≤ lab R C Z lv i j ∧ lab R C Z lv i j ≤ 1000 := by
  unfold lab
  split
  · rename_i h
    rw [numZ_yes h.1]
    have h1 := rgN_le R C Z lv (cmZ R C Z lv j)
    have h2 := cmZ_le R C Z lv j
    omega
  · omega

theorem nodup_le : ∀ (N : Nat) (l : List Nat), l.Nodup → (∀ x, x ∈ l → x < N) → l.length ≤ N
  | 0, l, _, h => by
    cases l with
    | nil => simp
    | cons x l => exact absurd (h x (by simp)) (by omega)
  | N + 1, l, hn, h => by
    by_cases hm : N ∈ l
    · have h1 := List.length_erase_of_mem hm
      have h2 := nodup_le N (l.erase N) (hn.erase N) (fun x hx => by
        have h3 := (List.Nodup.mem_erase_iff hn).1 hx
        have h4 := h x h3.2
        have h5 := h3.1
        omega)
      omega
    · exact Nat.le_succ_of_le (nodup_le N l hn (fun x hx => by
        have h3 := h x hx
        have : x ≠ N := fun e => hm (e ▸ hx)
        omega))
theorem ix_nodup_le {M : Nat} {l : List (Ix M)} (h : l.Nodup) : l.length ≤ M := by
  have h1 : (l.map Subtype.val).Nodup := by
    unfold List.Nodup at h ⊢
    rw [List.pairwise_map]
    exact h.imp fun hab e => hab (Subtype.ext e)
  have h2 := nodup_le M (l.map Subtype.val) h1 (fun x hx => by
    obtain ⟨y, _, rfl⟩ := List.mem_map.1 hx
    exact y.2)
  simpa using h2

/-- a list of cells, found from i on -/
structure Found (R C : Nat) (Z : Nat → Int) (lv : Int) (i : Nat) (L : List (Ix (R * C))) : Prop where
  nodup : L.Nodup
  first : ∃ x, x ∈ L ∧ x.1 = i
  all : ∀ x, x ∈ L → lv ≤ Z x.1 ∧ cmZ R C Z lv x.1 = i
theorem Found.one {R C : Nat} {Z : Nat → Int} {lv : Int} (i : Ix (R * C)) (h : lv ≤ Z i.1) (e : cmZ R C Z lv i.1 = i.1) : Found R C Z lv i.1 [i] :=
  ⟨by simp, ⟨i, by simp, rfl⟩, fun x hx => by simp at hx; subst hx; exact ⟨h, e⟩⟩
theorem Found.push {R C : Nat} {Z : Nat → Int} {lv : Int} {i : Nat} {L : List (Ix (R * C))} (h : Found R C Z lv i L) {x y : Ix (R * C)} (hx : x ∈ L) (hy : y ∈ near R C x 4) (hz : lv ≤ Z y.1) (hn : y ∉ L) : Found R C Z lv i (L ++ [y]) := by
  obtain ⟨h1, h2, h3⟩ := h
  refine ⟨?_, ?_, ?_⟩
  · rw [List.nodup_append]
    exact ⟨h1, by simp, fun a ha b hb e => by simp at hb; subst hb; subst e; exact hn ha⟩
  · obtain ⟨z, hz1, hz2⟩ := h2
    exact ⟨z, by simp [hz1], hz2⟩
  · intro z hz1
    rcases List.mem_append.1 hz1 with hz1 | hz1
    · exact h3 z hz1
    · simp at hz1
      subst hz1
      exact ⟨hz, by rw [← cm_adj ⟨hy, (h3 x hx).1, hz⟩]; exact (h3 x hx).2⟩
/-- what the cells bear while a region is being found -/
def labF {R C : Nat} (Z : Nat → Int) (lv : Int) (i : Nat) (L : List (Ix (R * C))) (j : Nat) : Int := open Classical in if (∃ x, x ∈ L ∧ x.1 = j) then (rgN R C Z lv i : Int) else lab R C Z lv i j
theorem labF_push {R C : Nat} {Z : Nat → Int} {lv : Int} {i : Nat} {L : List (Ix (R * C))} (y : Ix (R * C)) (j : Nat) : (if j = y.1 then (rgN R C Z lv i : Int) else labF Z lv i L j) = labF Z lv i (L ++ [y]) j := by
  unfold labF
  by_cases e : j = y.1
  · rw [if_pos e, if_pos ⟨y, by simp, e.symm⟩]
  · rw [if_neg e]
    by_cases h : ∃ x, x ∈ L ∧ x.1 = j
    · obtain ⟨x, h1, h2⟩ := h
      rw [if_pos ⟨x, h1, h2⟩, if_pos ⟨x, by simp [h1], h2⟩]
    · rw [if_neg h, if_neg]
      rintro ⟨x, h1, h2⟩
      rcases List.mem_append.1 h1 with h1 | h1
      · exact h ⟨x, h1, h2⟩
      · simp at h1; subst h1; exact e h2.symm
theorem labF_one {R C : Nat} {Z : Nat → Int} {lv : Int} (i : Ix (R * C)) (j : Nat) : (if j = i.1 then (rgN R C Z lv i.1 : Int) else lab R C Z lv i.1 j) = labF Z lv i.1 [i] j := by
  have := labF_push (Z := Z) (lv := lv) (i := i.1) (L := ([] : List (Ix (R * C)))) i j
  simpa [labF] using this
theorem labF_in {R C : Nat} {Z : Nat → Int} {lv : Int} {i : Nat} {L : List (Ix (R * C))} {y : Ix (R * C)} (h : y ∈ L) : labF Z lv i L y.1 = rgN R C Z lv i := by unfold labF; rw [if_pos ⟨y, h, rfl⟩]
theorem labF_out {R C : Nat} {Z : Nat → Int} {lv : Int} {i : Nat} {L : List (Ix (R * C))} {y : Ix (R * C)} (h : y ∉ L) : labF Z lv i L y.1 = lab R C Z lv i y.1 := by
  unfold labF
  rw [if_neg]
  rintro ⟨x, h1, h2⟩
  exact h (by have : x = y := Subtype.ext h2
              rw [← this]; exact h1)
/-- a found list that is closed holds the whole region -/
theorem Found.done {R C : Nat} {Z : Nat → Int} {lv : Int} {i : Nat} {L : List (Ix (R * C))} (h : Found R C Z lv i L) (hc : ∀ x, x ∈ L → ∀ y, y ∈ near R C x 4 → lv ≤ Z y.1 → y ∈ L) (j : Nat) (hj : j < R * C) : labF Z lv i L j = lab R C Z lv (i + 1) j := by
  obtain ⟨x0, hx0, e0⟩ := h.first
  have hi := (h.all x0 hx0)
  rw [e0] at hi
  have hmem : (∃ x, x ∈ L ∧ x.1 = j) ↔ (lv ≤ Z j ∧ cmZ R C Z lv j = i) := by
    constructor
    · rintro ⟨x, h1, rfl⟩; exact h.all x h1
    · rintro ⟨h1, h2⟩
      exact cm_closed (R := R) (C := C) (Z := Z) (lv := lv) (fun q => ∃ x, x ∈ L ∧ x.1 = q) (fun a b hab => by
        rintro ⟨x, hx1, hx2⟩
        have ea : x = a := Subtype.ext hx2
        subst ea
        exact ⟨b, hc x hx1 b hab.1 hab.2.2, rfl⟩) (x := i) (y := j) (by rw [h2]; exact hi.2) ⟨x0, hx0, e0⟩
  unfold labF lab
  by_cases h1 : ∃ x, x ∈ L ∧ x.1 = j
  · have h2 := hmem.1 h1
    rw [if_pos h1, if_pos ⟨h2.1, by omega⟩, numZ_yes h2.1, h2.2]
  · rw [if_neg h1]
    by_cases h3 : lv ≤ Z j ∧ cmZ R C Z lv j < i
    · rw [if_pos h3, if_pos ⟨h3.1, by omega⟩]
    · rw [if_neg h3, if_neg]
      rintro ⟨h4, h5⟩
      have : cmZ R C Z lv j ≠ i := fun e => h1 (hmem.2 ⟨h4, e⟩)
      exact h3 ⟨h4, by omega⟩

end Go.Proofs.Ytlbdglhippapnab
