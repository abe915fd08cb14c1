/- Sets of numbers kept as trees: what is reckoned. -/
import Derived.Test.YtplfphpnpjjinaaM3
namespace Go.Proofs.Ytplfphpnpjjinaa
set_option linter.unusedVariables false

def Dn (p : Nat → Nat) : Prop := ∀ x, p x ≤ x
def rtF (p : Nat → Nat) : Nat → Nat → Nat
  | 0, x => x
  | n + 1, x => if p x = x then x else rtF p n (p x)
def rt (p : Nat → Nat) (x : Nat) : Nat := rtF p x x

theorem rtF_stable {p : Nat → Nat} (h : Dn p) : ∀ (n m x : Nat), x ≤ n → x ≤ m → rtF p n x = rtF p m x
  | 0, 0, x, _, _ => rfl
  | 0, m + 1, x, h1, _ => by
    have e : p x = x := by have := h x; omega
    simp [rtF, e]
  | n + 1, 0, x, _, h1 => by
    have e : p x = x := by have := h x; omega
    simp [rtF, e]
  | n + 1, m + 1, x, h1, h2 => by
    simp only [rtF]
    by_cases e : p x = x
    · simp [e]
    · have := h x
      rw [if_neg e, if_neg e]
      exact rtF_stable h n m (p x) (by omega) (by omega)
theorem rt_self {p : Nat → Nat} {x : Nat} (e : p x = x) : rt p x = x := by
  unfold rt
  cases x with
  | zero => rfl
  | succ x => simp [rtF, e]
theorem rt_step {p : Nat → Nat} (h : Dn p) (x : Nat) : rt p (p x) = rt p x := by
  by_cases e : p x = x
  · rw [e]
  · have h1 := h x
    have h2 : rt p x = rtF p (x - 1) (p x) := by
      unfold rt
      obtain ⟨y, rfl⟩ : ∃ y, x = y + 1 := ⟨x - 1, by omega⟩
      simp [rtF, e]
    rw [h2]
    exact rtF_stable h _ _ _ (Nat.le_refl _) (by omega)
theorem rt_uniq {p f : Nat → Nat} (h : Dn p) (h0 : ∀ x, p x = x → f x = x) (h1 : ∀ x, p x ≠ x → f x = f (p x)) : ∀ x, f x = rt p x := by
  intro x
  induction x using Nat.strongRecOn with
  | _ x ih =>
    by_cases e : p x = x
    · rw [h0 x e, rt_self e]
    · rw [h1 x e, ih (p x) (by have := h x; omega), rt_step h]
theorem rt_root {p : Nat → Nat} (h : Dn p) (x : Nat) : p (rt p x) = rt p x := by
  induction x using Nat.strongRecOn with
  | _ x ih =>
    by_cases e : p x = x
    · rw [rt_self e, e]
    · rw [← rt_step h]; exact ih (p x) (by have := h x; omega)
theorem rt_le {p : Nat → Nat} (h : Dn p) (x : Nat) : rt p x ≤ x := by
  induction x using Nat.strongRecOn with
  | _ x ih =>
    by_cases e : p x = x
    · rw [rt_self e]; exact Nat.le_refl _
    · have := ih (p x) (by have := h x; omega)
      rw [rt_step h] at this
      have := h x
      omega
theorem rt_idem {p : Nat → Nat} (h : Dn p) (x : Nat) : rt p (rt p x) = rt p x := rt_self (rt_root h x)

def upd (p : Nat → Nat) (i v : Nat) (x : Nat) : Nat := if x = i then v else p x
theorem upd_dn {p : Nat → Nat} (h : Dn p) {i v : Nat} (hv : v ≤ i) : Dn (upd p i v) := fun x => by
  unfold upd
  split
  · omega
  · exact h x
/-- shortening a way leaves all roots -/
theorem rt_halve {p : Nat → Nat} (h : Dn p) (i : Nat) : ∀ x, rt (upd p i (p (p i))) x = rt p x := by
  have hd := upd_dn h (i := i) (v := p (p i)) (by have := h i; have := h (p i); omega)
  intro x
  refine (rt_uniq hd (f := rt p) (fun y e => ?_) (fun y e => ?_) x).symm
  · by_cases ey : y = i
    · subst ey
      simp only [upd, if_true] at e
      have h1 := h y
      have h2 := h (p y)
      have e2 : p y = y := by omega
      exact rt_self e2
    · simp only [upd, ey, if_false] at e
      exact rt_self e
  · by_cases ey : y = i
    · subst ey
      simp only [upd, if_true]
      rw [rt_step h, rt_step h]
    · simp only [upd, ey, if_false]
      rw [rt_step h]
theorem dn_halve {p : Nat → Nat} (h : Dn p) (i : Nat) : Dn (upd p i (p (p i))) := upd_dn h (by have := h i; have := h (p i); omega)

/-- two sets become one -/
def joinP (p : Nat → Nat) (a b : Nat) : Nat → Nat := upd p (max (rt p a) (rt p b)) (min (rt p a) (rt p b))
theorem joinP_dn {p : Nat → Nat} (h : Dn p) (a b : Nat) : Dn (joinP p a b) := upd_dn h (by omega)
theorem joinP_rt {p : Nat → Nat} (h : Dn p) (a b x : Nat) : rt (joinP p a b) x = if rt p x = max (rt p a) (rt p b) then min (rt p a) (rt p b) else rt p x := by
  refine (rt_uniq (joinP_dn h a b) (f := fun x => if rt p x = max (rt p a) (rt p b) then min (rt p a) (rt p b) else rt p x) (fun y e => ?_) (fun y e => ?_) x).symm
  · unfold joinP at e
    by_cases ey : y = max (rt p a) (rt p b)
    · simp only [upd, ey, if_true] at e
      have er : rt p y = y := by
        rw [ey]
        rcases Nat.le_total (rt p a) (rt p b) with hl | hl
        · rw [Nat.max_eq_right hl]; exact rt_idem h b
        · rw [Nat.max_eq_left hl]; exact rt_idem h a
      rw [er, if_pos ey]; omega
    · simp only [upd, ey, if_false] at e
      have er : rt p y = y := rt_self e
      rw [er, if_neg ey]
  · unfold joinP at e ⊢
    by_cases ey : y = max (rt p a) (rt p b)
    · simp only [upd, ey, if_true] at e ⊢
      have er : rt p (max (rt p a) (rt p b)) = max (rt p a) (rt p b) := by
        rcases Nat.le_total (rt p a) (rt p b) with hl | hl
        · rw [Nat.max_eq_right hl]; exact rt_idem h b
        · rw [Nat.max_eq_left hl]; exact rt_idem h a
      have em : rt p (min (rt p a) (rt p b)) = min (rt p a) (rt p b) := by
        rcases Nat.le_total (rt p a) (rt p b) with hl | hl
        · rw [Nat.min_eq_left hl]; exact rt_idem h a
        · rw [Nat.min_eq_right hl]; exact rt_idem h b
      rw [er, if_pos rfl, em]
      split <;> rfl
    · simp only [upd, ey, if_false]
      rw [rt_step h]

/-- x and y are joined by pairs of E -/
inductive Jn (E : Nat → Nat → Prop) : Nat → Nat → Prop
  | refl (x : Nat) : Jn E x x
  | pair {x y : Nat} : E x y → Jn E x y
  | symm {x y : Nat} : Jn E x y → Jn E y x
  | trans {x y z : Nat} : Jn E x y → Jn E y z → Jn E x z
theorem Jn.mono {E E' : Nat → Nat → Prop} (h : ∀ x y, E x y → Jn E' x y) {x y : Nat} (k : Jn E x y) : Jn E' x y := by
  induction k with
  | refl x => exact .refl x
  | pair h1 => exact h _ _ h1
  | symm _ ih => exact ih.symm
  | trans _ _ ih1 ih2 => exact ih1.trans ih2
theorem Jn.congr {E E' : Nat → Nat → Prop} (h : ∀ x y, E x y ↔ E' x y) {x y : Nat} : Jn E x y ↔ Jn E' x y :=
  ⟨Jn.mono fun x y k => .pair ((h x y).1 k), Jn.mono fun x y k => .pair ((h x y).2 k)⟩

/-- the trees tell what E joins -/
def Tells (p : Nat → Nat) (E : Nat → Nat → Prop) : Prop := Dn p ∧ ∀ x y, rt p x = rt p y ↔ Jn E x y
theorem tells_id : Tells (fun x => x) (fun _ _ => False) := by
  refine ⟨fun x => Nat.le_refl _, fun x y => ?_⟩
  have e : ∀ x, rt (fun x => x) x = x := fun x => rt_self rfl
  rw [e, e]
  constructor
  · rintro rfl; exact .refl _
  · intro h
    induction h with
    | refl => rfl
    | pair h => exact h.elim
    | symm _ ih => exact ih.symm
    | trans _ _ i1 i2 => exact i1.trans i2
theorem Tells.same {p q : Nat → Nat} {E : Nat → Nat → Prop} (h : Tells p E) (hq : Dn q) (e : ∀ x, rt q x = rt p x) : Tells q E := ⟨hq, fun x y => by rw [e, e]; exact h.2 x y⟩
theorem Tells.join {p : Nat → Nat} {E : Nat → Nat → Prop} (h : Tells p E) (a b : Nat) : Tells (joinP p a b) (fun x y => E x y ∨ (x = a ∧ y = b)) := by
  refine ⟨joinP_dn h.1 a b, fun x y => ?_⟩
  have hE : ∀ {x y}, Jn E x y → Jn (fun x y => E x y ∨ (x = a ∧ y = b)) x y := fun k => k.mono fun x y e => .pair (Or.inl e)
  have hab : Jn (fun x y => E x y ∨ (x = a ∧ y = b)) a b := .pair (Or.inr ⟨rfl, rfl⟩)
  have hr : ∀ x, Jn E x (rt p x) := fun x => (h.2 _ _).1 (rt_idem h.1 x).symm
  have hm : Jn (fun x y => E x y ∨ (x = a ∧ y = b)) (max (rt p a) (rt p b)) (min (rt p a) (rt p b)) := by
    have h1 : Jn (fun x y => E x y ∨ (x = a ∧ y = b)) (rt p a) (rt p b) := ((hE (hr a)).symm.trans hab).trans (hE (hr b))
    rcases Nat.le_total (rt p a) (rt p b) with hl | hl
    · rw [Nat.max_eq_right hl, Nat.min_eq_left hl]; exact h1.symm
    · rw [Nat.max_eq_left hl, Nat.min_eq_right hl]; exact h1
  have hj : ∀ x, Jn (fun x y => E x y ∨ (x = a ∧ y = b)) x (rt (joinP p a b) x) := fun x => by
    rw [joinP_rt h.1]
    split
    · rename_i e
      exact ((hE (hr x)).trans (e ▸ .refl _)).trans hm
    · exact hE (hr x)
  constructor
  · intro e
    exact (hj x).trans (e ▸ (hj y).symm)
  · intro k
    induction k with
    | refl => rfl
    | symm _ ih => exact ih.symm
    | trans _ _ i1 i2 => exact i1.trans i2
    | pair k =>
      rename_i x y
      rcases k with k | ⟨rfl, rfl⟩
      · have e := (h.2 x y).2 (.pair k)
        rw [joinP_rt h.1, joinP_rt h.1, e]
      · rw [joinP_rt h.1, joinP_rt h.1]
        rcases Nat.le_total (rt p x) (rt p y) with hl | hl
        · rw [Nat.max_eq_right hl, Nat.min_eq_left hl, if_pos rfl]
          split
          · rfl
          · rfl
        · rw [Nat.max_eq_left hl, Nat.min_eq_right hl, if_pos rfl]
          split
          · rfl
          · rfl

end Go.Proofs.Ytplfphpnpjjinaa
