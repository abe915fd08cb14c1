/- Land, shore, sides and corners: what is reckoned. -/
import Derived.Test.YtcfeckpbjdipeaaM3
import Derived.Test.YtcfeckpbjdipeaaM1
import Derived.Test.YtcfeckpbjdipeaaImplG
import Derived.Test.YtcfeckpbjdipeaaGrZ
import Derived.Test.YtcfeckpbjdipeaaSkZ
import Derived.Test.YtcfeckpbjdipeaaWtZ
import Derived.Lib.MinMax
namespace Go.Proofs.Ytcfeckpbjdipeaa
open Go.RowKit
set_option linter.unusedVariables false

def G.LvOk (g : G) (lv : Int) : Prop := g.Valid ∧ 0 ≤ lv ∧ lv ≤ 99

/-- how many of the first k cells are land -/
def landN (Z : Nat → Int) (lv : Int) : Nat → Nat
  | 0 => 0
  | k + 1 => landN Z lv k + (if lv ≤ Z k then 1 else 0)
theorem landN_yes {Z : Nat → Int} {lv : Int} {k : Nat} (h : lv ≤ Z k) : landN Z lv (k + 1) = landN Z lv k + 1 := by simp [landN, h]
theorem landN_no {Z : Nat → Int} {lv : Int} {k : Nat} (h : ¬ lv ≤ Z k) : landN Z lv (k + 1) = landN Z lv k := by simp [landN, h]
theorem landN_le (Z : Nat → Int) (lv : Int) : ∀ k, landN Z lv k ≤ k
  | 0 => by simp [landN]
  | k + 1 => by have := landN_le Z lv k; unfold landN; split <;> omega

/-- how many of a list of cells are land -/
def landL {M : Nat} (Z : Nat → Int) (lv : Int) : List (Ix M) → Nat
  | [] => 0
  | x :: l => (if lv ≤ Z x.1 then 1 else 0) + landL Z lv l
theorem landL_append {M : Nat} (Z : Nat → Int) (lv : Int) : ∀ a b : List (Ix M), landL Z lv (a ++ b) = landL Z lv a + landL Z lv b
  | [], b => by simp [landL]
  | x :: a, b => by simp only [List.cons_append, landL, landL_append Z lv a b]; omega
theorem landL_snoc {M : Nat} (Z : Nat → Int) (lv : Int) (a : List (Ix M)) (x : Ix M) : landL Z lv (a ++ [x]) = landL Z lv a + (if lv ≤ Z x.1 then 1 else 0) := by rw [landL_append]; simp [landL]
theorem landL_le {M : Nat} (Z : Nat → Int) (lv : Int) : ∀ a : List (Ix M), landL Z lv a ≤ a.length
  | [] => by simp [landL]
  | x :: a => by have := landL_le Z lv a; simp only [landL, List.length_cons]; split <;> omega

/-- land neighbors of cell k -/
def nbl (R C : Nat) (Z : Nat → Int) (lv : Int) (k : Nat) : Nat := if h : k < R * C then landL Z lv (near R C ⟨k, h⟩ 4) else 0
theorem nbl_at {R C : Nat} {Z : Nat → Int} {lv : Int} (i : Ix (R * C)) : nbl R C Z lv i.1 = landL Z lv (near R C i 4) := by unfold nbl; rw [dif_pos i.2]
theorem nbl_le (R C : Nat) (Z : Nat → Int) (lv : Int) (k : Nat) : nbl R C Z lv k ≤ 4 := by
  unfold nbl
  split
  · exact Nat.le_trans (landL_le Z lv _) (near_len R C _ 4)
  · omega

/-- the shore of the first k cells -/
def shoreN (R C : Nat) (Z : Nat → Int) (lv : Int) : Nat → Nat
  | 0 => 0
  | k + 1 => shoreN R C Z lv k + (if lv ≤ Z k then 4 - nbl R C Z lv k else 0)
theorem shoreN_no {R C : Nat} {Z : Nat → Int} {lv : Int} {k : Nat} (h : ¬ lv ≤ Z k) : shoreN R C Z lv (k + 1) = shoreN R C Z lv k := by simp [shoreN, h]
theorem shoreN_yes {R C : Nat} {Z : Nat → Int} {lv : Int} {k : Nat} (h : lv ≤ Z k) : ((shoreN R C Z lv (k + 1) : Nat) : Int) = shoreN R C Z lv k + 4 - nbl R C Z lv k := by
  have := nbl_le R C Z lv k
  simp only [shoreN, h, if_true]; omega
theorem shoreN_le (R C : Nat) (Z : Nat → Int) (lv : Int) : ∀ k, shoreN R C Z lv k ≤ 4 * k
  | 0 => by simp [shoreN]
  | k + 1 => by have := shoreN_le R C Z lv k; unfold shoreN; split <;> omega

/-- sides from cell i to later ones of a list -/
def sdL {M : Nat} (Z : Nat → Int) (lv : Int) (i : Ix M) : List (Ix M) → Nat
  | [] => 0
  | x :: l => (if i.1 < x.1 ∧ lv ≤ Z i.1 ∧ lv ≤ Z x.1 then 1 else 0) + sdL Z lv i l
theorem sdL_append {M : Nat} (Z : Nat → Int) (lv : Int) (i : Ix M) : ∀ a b : List (Ix M), sdL Z lv i (a ++ b) = sdL Z lv i a + sdL Z lv i b
  | [], b => by simp [sdL]
  | x :: a, b => by simp only [List.cons_append, sdL, sdL_append Z lv i a b]; omega
theorem sdL_snoc {M : Nat} (Z : Nat → Int) (lv : Int) (i : Ix M) (a : List (Ix M)) (x : Ix M) : sdL Z lv i (a ++ [x]) = sdL Z lv i a + (if i.1 < x.1 ∧ lv ≤ Z i.1 ∧ lv ≤ Z x.1 then 1 else 0) := by rw [sdL_append]; simp [sdL]
theorem sdL_le {M : Nat} (Z : Nat → Int) (lv : Int) (i : Ix M) : ∀ a : List (Ix M), sdL Z lv i a ≤ a.length
  | [] => by simp [sdL]
  | x :: a => by have := sdL_le Z lv i a; simp only [sdL, List.length_cons]; split <;> omega

def sdAt (R C : Nat) (Z : Nat → Int) (lv : Int) (k : Nat) : Nat := if h : k < R * C then sdL Z lv ⟨k, h⟩ (near R C ⟨k, h⟩ 4) else 0
theorem sdAt_at {R C : Nat} {Z : Nat → Int} {lv : Int} (i : Ix (R * C)) : sdAt R C Z lv i.1 = sdL Z lv i (near R C i 4) := by unfold sdAt; rw [dif_pos i.2]
theorem sdAt_le (R C : Nat) (Z : Nat → Int) (lv : Int) (k : Nat) : sdAt R C Z lv k ≤ 4 := by
  unfold sdAt
  split
  · exact Nat.le_trans (sdL_le Z lv _ _) (near_len R C _ 4)
  · omega
/-- the sides of the first k cells -/
def sidesN (R C : Nat) (Z : Nat → Int) (lv : Int) : Nat → Nat
  | 0 => 0
  | k + 1 => sidesN R C Z lv k + sdAt R C Z lv k
theorem sidesN_le (R C : Nat) (Z : Nat → Int) (lv : Int) : ∀ k, sidesN R C Z lv k ≤ 4 * k
  | 0 => by simp [sidesN]
  | k + 1 => by have := sidesN_le R C Z lv k; have := sdAt_le R C Z lv k; unfold sidesN; omega

/-- four land cells meet at the corner south and east of (r, c) -/
def CrOk (C : Nat) (Z : Nat → Int) (lv : Int) (r c : Nat) : Prop := lv ≤ Z (r * C + c) ∧ lv ≤ Z (r * C + (c + 1)) ∧ lv ≤ Z ((r + 1) * C + c) ∧ lv ≤ Z ((r + 1) * C + (c + 1))
instance (C : Nat) (Z : Nat → Int) (lv : Int) (r c : Nat) : Decidable (CrOk C Z lv r c) := by unfold CrOk; infer_instance
def crRow (C : Nat) (Z : Nat → Int) (lv : Int) (r : Nat) : Nat → Nat
  | 0 => 0
  | c + 1 => crRow C Z lv r c + (if CrOk C Z lv r c then 1 else 0)
theorem crRow_yes {C : Nat} {Z : Nat → Int} {lv : Int} {r c : Nat} (h : CrOk C Z lv r c) : crRow C Z lv r (c + 1) = crRow C Z lv r c + 1 := by simp [crRow, h]
theorem crRow_no {C : Nat} {Z : Nat → Int} {lv : Int} {r c : Nat} (h : ¬ CrOk C Z lv r c) : crRow C Z lv r (c + 1) = crRow C Z lv r c := by simp [crRow, h]
theorem crRow_le (C : Nat) (Z : Nat → Int) (lv : Int) (r : Nat) : ∀ c, crRow C Z lv r c ≤ c
  | 0 => by simp [crRow]
  | c + 1 => by have := crRow_le C Z lv r c; unfold crRow; split <;> omega
/-- the corners of the first r rows -/
def cornN (C : Nat) (Z : Nat → Int) (lv : Int) : Nat → Nat
  | 0 => 0
  | r + 1 => cornN C Z lv r + crRow C Z lv r (C - 1)
theorem cornN_le (C : Nat) (Z : Nat → Int) (lv : Int) : ∀ r, cornN C Z lv r ≤ r * C
  | 0 => by simp [cornN]
  | r + 1 => by have := cornN_le C Z lv r; have := crRow_le C Z lv r (C - 1); unfold cornN; rw [Nat.add_mul]; omega

open Classical in
noncomputable def G.ldV (g : G) (lv : Int) : Int := if g.LvOk lv then landN g.flat lv (g.n * g.len 0) else -1
open Classical in
noncomputable def G.shV (g : G) (lv : Int) : Int := if g.LvOk lv then shoreN g.n (g.len 0) g.flat lv (g.n * g.len 0) else -1
open Classical in
noncomputable def G.sdV (g : G) (lv : Int) : Int := if g.LvOk lv then sidesN g.n (g.len 0) g.flat lv (g.n * g.len 0) else -1
open Classical in
noncomputable def G.cnV (g : G) (lv : Int) : Int := if g.LvOk lv then cornN (g.len 0) g.flat lv (g.n - 1) else -1
open Classical in
noncomputable def G.euV (g : G) (lv : Int) : Int := if g.LvOk lv then (cornN (g.len 0) g.flat lv (g.n - 1) : Int) - sidesN g.n (g.len 0) g.flat lv (g.n * g.len 0) + landN g.flat lv (g.n * g.len 0) else -1000

theorem G.ldV_yes {g : G} {lv : Int} (h : g.LvOk lv) : g.ldV lv = landN g.flat lv (g.n * g.len 0) := by unfold G.ldV; rw [if_pos h]
theorem G.ldV_no {g : G} {lv : Int} (h : ¬ g.LvOk lv) : g.ldV lv = -1 := by unfold G.ldV; rw [if_neg h]
theorem G.shV_yes {g : G} {lv : Int} (h : g.LvOk lv) : g.shV lv = shoreN g.n (g.len 0) g.flat lv (g.n * g.len 0) := by unfold G.shV; rw [if_pos h]
theorem G.shV_no {g : G} {lv : Int} (h : ¬ g.LvOk lv) : g.shV lv = -1 := by unfold G.shV; rw [if_neg h]
theorem G.sdV_yes {g : G} {lv : Int} (h : g.LvOk lv) : g.sdV lv = sidesN g.n (g.len 0) g.flat lv (g.n * g.len 0) := by unfold G.sdV; rw [if_pos h]
theorem G.sdV_no {g : G} {lv : Int} (h : ¬ g.LvOk lv) : g.sdV lv = -1 := by unfold G.sdV; rw [if_neg h]
theorem G.cnV_yes {g : G} {lv : Int} (h : g.LvOk lv) : g.cnV lv = cornN (g.len 0) g.flat lv (g.n - 1) := by unfold G.cnV; rw [if_pos h]
theorem G.cnV_no {g : G} {lv : Int} (h : ¬ g.LvOk lv) : g.cnV lv = -1 := by unfold G.cnV; rw [if_neg h]
theorem G.euV_yes {g : G} {lv : Int} (h : g.LvOk lv) : g.euV lv = (cornN (g.len 0) g.flat lv (g.n - 1) : Int) - sidesN g.n (g.len 0) g.flat lv (g.n * g.len 0) + landN g.flat lv (g.n * g.len 0) := by unfold G.euV; rw [if_pos h]
theorem G.euV_no {g : G} {lv : Int} (h : ¬ g.LvOk lv) : g.euV lv = -1000 := by unfold G.euV; rw [if_neg h]

end Go.Proofs.Ytcfeckpbjdipeaa

/- Sets of numbers kept as trees: what is reckoned. -/
namespace Go.Proofs.Ytcfeckpbjdipeaa
set_option linter.unusedVariables false

def Dn (p : Nat → Nat) : Prop := ∀ x, p x ≤ x
def rtF (p : Nat → Nat) : Nat → Nat → Nat
  | 0, x => x
  | n + 1, x => if p x = x then x else rtF p n (p x)
def rt (p : Nat → Nat) (x : Nat) : Nat := rtF p x x

theorem rtF_stable {p : Nat → Nat} (h : Dn p) : ∀ (n m x : Nat), x ≤ n → x ≤ m → rtF p n x = rtF p m x
  | 0, 0, x, _, _ => rfl
  | 0, m + 1, x, h1, _ => by
    have e : p x = x := by have := h x; omega
    simp [rtF, e]
  | n + 1, 0, x, _, h1 => by
    have e : p x = x := by have := h x; omega
    simp [rtF, e]
  | n + 1, m + 1, x, h1, h2 => by
    simp only [rtF]
    by_cases e : p x = x
    · simp [e]
    · have := h x
      rw [if_neg e, if_neg e]
      exact rtF_stable h n m (p x) (by omega) (by omega)
theorem rt_self {p : Nat → Nat} {x : Nat} (e : p x = x) : rt p x = x := by
  unfold rt
  cases x with
  | zero => rfl
  | succ x => simp [rtF, e]
theorem rt_step {p : Nat → Nat} (h : Dn p) (x : Nat) : rt p (p x) = rt p x := by
  by_cases e : p x = x
  · rw [e]
  · have h1 := h x
    have h2 : rt p x = rtF p (x - 1) (p x) := by
      unfold rt
      obtain ⟨y, rfl⟩ : ∃ y, x = y + 1 := ⟨x - 1, by omega⟩
      simp [rtF, e]
    rw [h2]
    exact rtF_stable h _ _ _ (Nat.le_refl _) (by omega)
theorem rt_uniq {p f : Nat → Nat} (h : Dn p) (h0 : ∀ x, p x = x → f x = x) (h1 : ∀ x, p x ≠ x → f x = f (p x)) : ∀ x, f x = rt p x := by
  intro x
  induction x using Nat.strongRecOn with
  | _ x ih =>
    by_cases e : p x = x
    · rw [h0 x e, rt_self e]
    · rw [h1 x e, ih (p x) (by have := h x; omega), rt_step h]
theorem rt_root {p : Nat → Nat} (h : Dn p) (x : Nat) : p (rt p x) = rt p x := by
  induction x using Nat.strongRecOn with
  | _ x ih =>
    by_cases e : p x = x
    · rw [rt_self e, e]
    · rw [← rt_step h]; exact ih (p x) (by have := h x; omega)
theorem rt_le {p : Nat → Nat} (h : Dn p) (x : Nat) : rt p x ≤ x := by
  induction x using Nat.strongRecOn with
  | _ x ih =>
    by_cases e : p x = x
    · rw [rt_self e]; exact Nat.le_refl _
    · have := ih (p x) (by have := h x; omega)
      rw [rt_step h] at this
      have := h x
      omega
theorem rt_idem {p : Nat → Nat} (h : Dn p) (x : Nat) : rt p (rt p x) = rt p x := rt_self (rt_root h x)

def upd (p : Nat → Nat) (i v : Nat) (x : Nat) : Nat := if x = i then v else p x
theorem upd_dn {p : Nat → Nat} (h : Dn p) {i v : Nat} (hv : v ≤ i) : Dn (upd p i v) := fun x => by
  unfold upd
  split
  · omega
  · exact h x
/-- shortening a way leaves all roots -/
theorem rt_halve {p : Nat → Nat} (h : Dn p) (i : Nat) : ∀ x, rt (upd p i (p (p i))) x = rt p x := by
  have hd := upd_dn h (i := i) (v := p (p i)) (by have := h i; have := h (p i); omega)
  intro x
  refine (rt_uniq hd (f := rt p) (fun y e => ?_) (fun y e => ?_) x).symm
  · by_cases ey : y = i
    · subst ey
      simp only [upd, if_true] at e
      have h1 := h y
      have h2 := h (p y)
      have e2 : p y = y := by omega
      exact rt_self e2
    · simp only [upd, ey, if_false] at e
      exact rt_self e
  · by_cases ey : y = i
    · subst ey
      simp only [upd, if_true]
      rw [rt_step h, rt_step h]
    · simp only [upd, ey, if_false]
      rw [rt_step h]
theorem dn_halve {p : Nat → Nat} (h : Dn p) (i : Nat) : Dn (upd p i (p (p i))) := upd_dn h (by have := h i; have := h (p i); omega)

/-- two sets become one -/
def joinP (p : Nat → Nat) (a b : Nat) : Nat → Nat := upd p (max (rt p a) (rt p b)) (min (rt p a) (rt p b))
theorem joinP_dn {p : Nat → Nat} (h : Dn p) (a b : Nat) : Dn (joinP p a b) := upd_dn h (by omega)
theorem joinP_rt {p : Nat → Nat} (h : Dn p) (a b x : Nat) : rt (joinP p a b) x = if rt p x = max (rt p a) (rt p b) then min (rt p a) (rt p b) else rt p x := by
  refine (rt_uniq (joinP_dn h a b) (f := fun x => if rt p x = max (rt p a) (rt p b) then min (rt p a) (rt p b) else rt p x) (fun y e => ?_) (fun y e => ?_) x).symm
  · unfold joinP at e
    by_cases ey : y = max (rt p a) (rt p b)
    · simp only [upd, ey, if_true] at e
      have er : rt p y = y := by
        rw [ey]
        rcases Nat.le_total (rt p a) (rt p b) with hl | hl
        · rw [Nat.max_eq_right hl]; exact rt_idem h b
        · rw [Nat.max_eq_left hl]; exact rt_idem h a
      rw [er, if_pos ey]; omega
    · simp only [upd, ey, if_false] at e
      have er : rt p y = y := rt_self e
      rw [er, if_neg ey]
  · unfold joinP at e ⊢
    by_cases ey : y = max (rt p a) (rt p b)
    · simp only [upd, ey, if_true] at e ⊢
      have er : rt p (max (rt p a) (rt p b)) = max (rt p a) (rt p b) := by
        rcases Nat.le_total (rt p a) (rt p b) with hl | hl
        · rw [Nat.max_eq_right hl]; exact rt_idem h b
        · rw [Nat.max_eq_left hl]; exact rt_idem h a
      have em : rt p (min (rt p a) (rt p b)) = min (rt p a) (rt p b) := by
        rcases Nat.le_total (rt p a) (rt p b) with hl | hl
        · rw [Nat.min_eq_left hl]; exact rt_idem h a
        · rw [Nat.min_eq_right hl]; exact rt_idem h b
      rw [er, if_pos rfl, em]
      split <;> rfl
    · simp only [upd, ey, if_false]
      rw [rt_step h]

/-- x and y are joined by pairs of E -/
inductive Jn (E : Nat → Nat → Prop) : Nat → Nat → Prop
  | refl (x : Nat) : Jn E x x
  | pair {x y : Nat} : E x y → Jn E x y
  | symm {x y : Nat} : Jn E x y → Jn E y x
  | trans {x y z : Nat} : Jn E x y → Jn E y z → Jn E x z
theorem Jn.mono {E E' : Nat → Nat → Prop} (h : ∀ x y, E x y → Jn E' x y) {x y : Nat} (k : Jn E x y) : Jn E' x y := by
  induction k with
  | refl x => exact .refl x
  | pair h1 => exact h _ _ h1
  | symm _ ih => exact ih.symm
  | trans _ _ ih1 ih2 => exact ih1.trans ih2
theorem Jn.congr {E E' : Nat → Nat → Prop} (h : ∀ x y, E x y ↔ E' x y) {x y : Nat} : Jn E x y ↔ Jn E' x y :=
  ⟨Jn.mono fun x y k => .pair ((h x y).1 k), Jn.mono fun x y k => .pair ((h x y).2 k)⟩

/-- the trees tell what E joins -/
def Tells (p : Nat → Nat) (E : Nat → Nat → Prop) : Prop := Dn p ∧ ∀ x y, rt p x = rt p y ↔ Jn E x y
theorem tells_id : Tells (fun x => x) (fun _ _ => False) := by
  refine ⟨fun x => Nat.le_refl _, fun x y => ?_⟩
  have e : ∀ x, rt (fun x => x) x = x := fun x => rt_self rfl
  rw [e, e]
  constructor
  · rintro rfl; exact .refl _
  · intro h
    induction h with
    | refl => rfl
    | pair h => exact h.elim
    | symm _ ih => exact ih.symm
    | trans _ _ i1 i2 => exact i1.trans i2
theorem Tells.same {p q : Nat → Nat} {E : Nat → Nat → Prop} (h : Tells p E) (hq : Dn q) (e : ∀ x, rt q x = rt p x) : Tells q E := ⟨hq, fun x y => by rw [e, e]; exact h.2 x y⟩
theorem Tells.join {p : Nat → Nat} {E : Nat → Nat → Prop} (h : Tells p E) (a b : Nat) : Tells (joinP p a b) (fun x y => E x y ∨ (x = a ∧ y = b)) := by
  refine ⟨joinP_dn h.1 a b, fun x y => ?_⟩
  have hE : ∀ {x y}, Jn E x y → Jn (fun x y => E x y ∨ (x = a ∧ y = b)) x y := fun k => k.mono fun x y e => .pair (Or.inl e)
  have hab : Jn (fun x y => E x y ∨ (x = a ∧ y = b)) a b := .pair (Or.inr ⟨rfl, rfl⟩)
  have hr : ∀ x, Jn E x (rt p x) := fun x => (h.2 _ _).1 (rt_idem h.1 x).symm
  have hm : Jn (fun x y => E x y ∨ (x = a ∧ y = b)) (max (rt p a) (rt p b)) (min (rt p a) (rt p b)) := by
    have h1 : Jn (fun x y => E x y ∨ (x = a ∧ y = b)) (rt p a) (rt p b) := ((hE (hr a)).symm.trans hab).trans (hE (hr b))
    rcases Nat.le_total (rt p a) (rt p b) with hl | hl
    · rw [Nat.max_eq_right hl, Nat.min_eq_left hl]; exact h1.symm
    · rw [Nat.max_eq_left hl, Nat.min_eq_right hl]; exact h1
  have hj : ∀ x, Jn (fun x y => E x y ∨ (x = a ∧ y = b)) x (rt (joinP p a b) x) := fun x => by
    rw [joinP_rt h.1]
    split
    · rename_i e
      exact ((hE (hr x)).trans (e ▸ .refl _)).trans hm
    · exact hE (hr x)
  constructor
  · intro e
    exact (hj x).trans (e ▸ (hj y).symm)
  · intro k
    induction k with
    | refl => rfl
    | symm _ ih => exact ih.symm
    | trans _ _ i1 i2 => exact i1.trans i2
    | pair k =>
      rename_i x y
      rcases k with k | ⟨rfl, rfl⟩
      · have e := (h.2 x y).2 (.pair k)
        rw [joinP_rt h.1, joinP_rt h.1, e]
      · rw [joinP_rt h.1, joinP_rt h.1]
        rcases Nat.le_total (rt p x) (rt p y) with hl | hl
        · rw [Nat.max_eq_right hl, Nat.min_eq_left hl, if_pos rfl]
          split
          · rfl
          · rfl
        · rw [Nat.max_eq_left hl, Nat.min_eq_right hl, if_pos rfl]
          split
          · rfl
          · rfl

end Go.Proofs.Ytcfeckpbjdipeaa

/- Regions: what is reckoned. -/
namespace Go.Proofs.Ytcfeckpbjdipeaa
set_option linter.unusedVariables false

/-- the pairs of land cells from i to later ones of a list -/
def prL {M : Nat} (Z : Nat → Int) (lv : Int) (i : Ix M) : List (Ix M) → List (Ix M × Ix M)
  | [] => []
  | x :: l => (if i.1 < x.1 ∧ lv ≤ Z i.1 ∧ lv ≤ Z x.1 then [(i, x)] else []) ++ prL Z lv i l
theorem prL_append {M : Nat} (Z : Nat → Int) (lv : Int) (i : Ix M) : ∀ a b : List (Ix M), prL Z lv i (a ++ b) = prL Z lv i a ++ prL Z lv i b
  | [], b => by simp [prL]
  | x :: a, b => by simp only [List.cons_append, prL, prL_append Z lv i a b, List.append_assoc]
theorem prL_snoc {M : Nat} (Z : Nat → Int) (lv : Int) (i : Ix M) (a : List (Ix M)) (x : Ix M) : prL Z lv i (a ++ [x]) = prL Z lv i a ++ (if i.1 < x.1 ∧ lv ≤ Z i.1 ∧ lv ≤ Z x.1 then [(i, x)] else []) := by rw [prL_append]; simp [prL]
theorem prL_len {M : Nat} (Z : Nat → Int) (lv : Int) (i : Ix M) : ∀ a : List (Ix M), (prL Z lv i a).length = sdL Z lv i a
  | [] => rfl
  | x :: a => by simp only [prL, sdL, List.length_append, prL_len Z lv i a]; split <;> simp
theorem prL_mem {M : Nat} {Z : Nat → Int} {lv : Int} {i x y : Ix M} : ∀ {a : List (Ix M)}, (x, y) ∈ prL Z lv i a ↔ x = i ∧ y ∈ a ∧ i.1 < y.1 ∧ lv ≤ Z i.1 ∧ lv ≤ Z y.1
  | [] => by simp [prL]
  | z :: a => by
    simp only [prL, List.mem_append, prL_mem (a := a), List.mem_cons]
    constructor
    · rintro (h | h)
      · split at h
        · rename_i hc
          simp only [List.mem_singleton, Prod.mk.injEq] at h
          obtain ⟨rfl, rfl⟩ := h
          exact ⟨rfl, Or.inl rfl, hc⟩
        · cases h
      · exact ⟨h.1, Or.inr h.2.1, h.2.2⟩
    · rintro ⟨rfl, rfl | h, hc⟩
      · exact Or.inl (by rw [if_pos hc]; simp)
      · exact Or.inr ⟨rfl, h, hc⟩

/-- the pairs of the first k cells, as the program meets them -/
def prN (R C : Nat) (Z : Nat → Int) (lv : Int) : Nat → List (Ix (R * C) × Ix (R * C))
  | 0 => []
  | k + 1 => prN R C Z lv k ++ (if h : k < R * C then prL Z lv ⟨k, h⟩ (near R C ⟨k, h⟩ 4) else [])
theorem prN_succ {R C : Nat} {Z : Nat → Int} {lv : Int} (i : Ix (R * C)) : prN R C Z lv (i.1 + 1) = prN R C Z lv i.1 ++ prL Z lv i (near R C i 4) := by
  simp only [prN, i.2, dif_pos]
theorem prN_len (R C : Nat) (Z : Nat → Int) (lv : Int) : ∀ k, (prN R C Z lv k).length = sidesN R C Z lv k
  | 0 => rfl
  | k + 1 => by
    simp only [prN, sidesN, List.length_append, prN_len R C Z lv k, sdAt]
    split
    · rw [prL_len]
    · rfl
theorem prN_mem {R C : Nat} {Z : Nat → Int} {lv : Int} {x y : Ix (R * C)} : ∀ {k : Nat}, (x, y) ∈ prN R C Z lv k ↔ x.1 < k ∧ y ∈ near R C x 4 ∧ x.1 < y.1 ∧ lv ≤ Z x.1 ∧ lv ≤ Z y.1
  | 0 => by simp [prN]
  | k + 1 => by
    simp only [prN, List.mem_append, prN_mem (k := k)]
    constructor
    · rintro (h | h)
      · exact ⟨by omega, h.2⟩
      · split at h
        · rename_i hk
          obtain ⟨e, h2⟩ := prL_mem.1 h
          subst e
          exact ⟨by simp, h2⟩
        · cases h
    · rintro ⟨h1, h2⟩
      by_cases e : x.1 = k
      · refine Or.inr ?_
        have hk : k < R * C := by rw [← e]; exact x.2
        rw [dif_pos hk]
        have ex : (⟨k, hk⟩ : Ix (R * C)) = x := Subtype.ext e.symm
        rw [ex]
        exact prL_mem.2 ⟨rfl, h2⟩
      · exact Or.inl ⟨by omega, h2⟩
theorem prN_pre (R C : Nat) (Z : Nat → Int) (lv : Int) {a b : Nat} (h : a ≤ b) : prN R C Z lv a <+: prN R C Z lv b := by
  induction b with
  | zero => have : a = 0 := by omega
            subst this; exact List.prefix_refl _
  | succ b ih =>
    by_cases e : a = b + 1
    · subst e; exact List.prefix_refl _
    · exact (ih (by omega)).trans (List.prefix_append _ _)

/-- the trees behind the pairs of a list -/
def ufL {M : Nat} (l : List (Ix M × Ix M)) : Nat → Nat := l.foldl (fun p a => joinP p a.1.1 a.2.1) (fun x => x)
theorem ufL_snoc {M : Nat} (l : List (Ix M × Ix M)) (a : Ix M × Ix M) : ufL (l ++ [a]) = joinP (ufL l) a.1.1 a.2.1 := by simp [ufL]
def ePairs {M : Nat} (l : List (Ix M × Ix M)) (x y : Nat) : Prop := ∃ a, a ∈ l ∧ a.1.1 = x ∧ a.2.1 = y
theorem Tells.congr {p : Nat → Nat} {E E' : Nat → Nat → Prop} (h : Tells p E) (e : ∀ x y, E x y ↔ E' x y) : Tells p E' := ⟨h.1, fun x y => (h.2 x y).trans (Jn.congr e)⟩
theorem tells_snoc {M : Nat} {p : Nat → Nat} {l : List (Ix M × Ix M)} (h : Tells p (ePairs l)) (a : Ix M × Ix M) : Tells (joinP p a.1.1 a.2.1) (ePairs (l ++ [a])) := by
  refine (h.join a.1.1 a.2.1).congr fun x y => ?_
  constructor
  · rintro (⟨b, hb, e⟩ | ⟨rfl, rfl⟩)
    · exact ⟨b, by simp [hb], e⟩
    · exact ⟨a, by simp, rfl, rfl⟩
  · rintro ⟨b, hb, e1, e2⟩
    rcases List.mem_append.1 hb with hb | hb
    · exact Or.inl ⟨b, hb, e1, e2⟩
    · simp only [List.mem_singleton] at hb
      subst hb
      exact Or.inr ⟨e1.symm, e2.symm⟩
theorem tells_nil {M : Nat} : Tells (fun x => x) (ePairs ([] : List (Ix M × Ix M))) := tells_id.congr fun x y => ⟨False.elim, fun ⟨_, h, _⟩ => by cases h⟩
theorem tells_ufL {M : Nat} (l : List (Ix M × Ix M)) : Tells (ufL l) (ePairs l) := by
  have key : ∀ (n : Nat) (l : List (Ix M × Ix M)), l.length = n → Tells (ufL l) (ePairs l) := by
    intro n
    induction n with
    | zero => intro l hl; have : l = [] := List.eq_nil_of_length_eq_zero hl
              subst this; exact tells_nil
    | succ n ih =>
      intro l hl
      have hne : l ≠ [] := by intro e; subst e; simp at hl
      rw [← List.dropLast_concat_getLast hne, ufL_snoc]
      exact tells_snoc (ih _ (by simp [hl])) _
  exact key _ l rfl
theorem Tells.uniq {p q : Nat → Nat} {E : Nat → Nat → Prop} (h : Tells p E) (k : Tells q E) (x : Nat) : rt p x = rt q x := by
  have h1 : rt p (rt q x) = rt p x := (h.2 _ _).2 ((k.2 _ _).1 (rt_idem k.1 x))
  have h2 : rt q (rt p x) = rt q x := (k.2 _ _).2 ((h.2 _ _).1 (rt_idem h.1 x))
  have h3 := rt_le h.1 (rt q x)
  have h4 := rt_le k.1 (rt p x)
  omega

/-- the least cell of the region of x -/
def cmZ (R C : Nat) (Z : Nat → Int) (lv : Int) (x : Nat) : Nat := rt (ufL (prN R C Z lv (R * C))) x
theorem cmZ_of {R C : Nat} {Z : Nat → Int} {lv : Int} {p : Nat → Nat} (h : Tells p (ePairs (prN R C Z lv (R * C)))) (x : Nat) : rt p x = cmZ R C Z lv x := h.uniq (tells_ufL _) x
theorem cmZ_le (R C : Nat) (Z : Nat → Int) (lv : Int) (x : Nat) : cmZ R C Z lv x ≤ x := rt_le (tells_ufL _).1 x
theorem cmZ_idem (R C : Nat) (Z : Nat → Int) (lv : Int) (x : Nat) : cmZ R C Z lv (cmZ R C Z lv x) = cmZ R C Z lv x := rt_idem (tells_ufL _).1 x

/-- y is a neighbor of x, and both are land -/
def Adj (R C : Nat) (Z : Nat → Int) (lv : Int) (x y : Ix (R * C)) : Prop := y ∈ near R C x 4 ∧ lv ≤ Z x.1 ∧ lv ≤ Z y.1
theorem near_symm {R C : Nat} {x y : Ix (R * C)} (h : y ∈ near R C x 4) : x ∈ near R C y 4 := by
  unfold near at h ⊢
  rw [List.mem_filterMap] at h ⊢
  obtain ⟨k, hk, hn⟩ := h
  have hk4 : k = 0 ∨ k = 1 ∨ k = 2 ∨ k = 3 := by have := List.mem_range.1 hk; omega
  have hx := x.2
  have hC0 : 0 < C := by
    rcases Nat.eq_zero_or_pos C with e | e
    · subst e; simp at hx
    · exact e
  rcases hk4 with rfl | rfl | rfl | rfl
  · refine ⟨2, by simp, ?_⟩
    simp only [nb, if_true] at hn
    split at hn
    · rename_i hc
      have e : y.1 = x.1 - C := by have := Option.some.inj hn; rw [← this]
      have h2 : y.1 + C < R * C := by omega
      simp only [nb, h2]
      simp
      exact Subtype.ext (by simp only; omega)
    · cases hn
  · refine ⟨3, by simp, ?_⟩
    simp only [nb] at hn
    simp only [Nat.one_ne_zero, if_false, if_true] at hn
    split at hn
    · rename_i hc
      have e : y.1 = x.1 + 1 := by have := Option.some.inj hn; rw [← this]
      have hd := Nat.div_add_mod x.1 C
      have e2 : y.1 = C * (x.1 / C) + (x.1 % C + 1) := by omega
      have h2 : y.1 % C = x.1 % C + 1 := by rw [e2, Nat.mul_add_mod, Nat.mod_eq_of_lt hc]
      simp only [nb]
      simp [h2]
      exact Subtype.ext (by simp only; omega)
    · cases hn
  · refine ⟨0, by simp, ?_⟩
    simp only [nb] at hn
    simp at hn
    obtain ⟨hc, e⟩ := hn
    have e' : y.1 = x.1 + C := by rw [← e]
    have h2 : C ≤ y.1 := by omega
    simp only [nb, h2, if_true]
    exact congrArg some (Subtype.ext (by simp only; omega))
  · refine ⟨1, by simp, ?_⟩
    simp only [nb] at hn
    simp at hn
    obtain ⟨hc, e⟩ := hn
    have e' : y.1 = x.1 - 1 := by rw [← e]
    have hd := Nat.div_add_mod x.1 C
    have hm : x.1 % C < C := Nat.mod_lt _ hC0
    have e2 : y.1 = C * (x.1 / C) + (x.1 % C - 1) := by omega
    have h2 : y.1 % C = x.1 % C - 1 := by rw [e2, Nat.mul_add_mod, Nat.mod_eq_of_lt (by omega)]
    have h3 : y.1 % C + 1 < C := by omega
    simp only [nb]
    simp [h3]
    exact Subtype.ext (by simp only; omega)
theorem near_ne {R C : Nat} {x y : Ix (R * C)} (h : y ∈ near R C x 4) : x.1 ≠ y.1 := by
  unfold near at h
  rw [List.mem_filterMap] at h
  obtain ⟨k, hk, hn⟩ := h
  have hk4 : k = 0 ∨ k = 1 ∨ k = 2 ∨ k = 3 := by have := List.mem_range.1 hk; omega
  have hx := x.2
  have hC0 : 0 < C := by
    rcases Nat.eq_zero_or_pos C with e | e
    · subst e; simp at hx
    · exact e
  rcases hk4 with rfl | rfl | rfl | rfl
  · simp [nb] at hn
    obtain ⟨hc, e⟩ := hn
    rw [← e]; simp only; omega
  · simp [nb] at hn
    obtain ⟨hc, e⟩ := hn
    rw [← e]; simp only; omega
  · simp [nb] at hn
    obtain ⟨hc, e⟩ := hn
    rw [← e]; simp only; omega
  · simp [nb] at hn
    obtain ⟨hc, e⟩ := hn
    have : 0 < x.1 := by
      rcases Nat.eq_zero_or_pos x.1 with e0 | e0
      · rw [e0] at hc; simp at hc
      · exact e0
    rw [← e]; simp only; omega
theorem cm_adj {R C : Nat} {Z : Nat → Int} {lv : Int} {x y : Ix (R * C)} (h : Adj R C Z lv x y) : cmZ R C Z lv x.1 = cmZ R C Z lv y.1 := by
  obtain ⟨h1, h2, h3⟩ := h
  rcases Nat.lt_or_ge x.1 y.1 with hl | hl
  · exact ((tells_ufL _).2 _ _).2 (.pair ⟨(x, y), prN_mem.2 ⟨x.2, h1, hl, h2, h3⟩, rfl, rfl⟩)
  · have hl' : y.1 < x.1 := by have := near_ne h1; omega
    exact (((tells_ufL _).2 _ _).2 (.pair ⟨(y, x), prN_mem.2 ⟨y.2, near_symm h1, hl', h3, h2⟩, rfl, rfl⟩)).symm
/-- a set of cells that is closed under going to neighbors over land holds whole regions -/
theorem cm_closed {R C : Nat} {Z : Nat → Int} {lv : Int} (S : Nat → Prop) (hS : ∀ x y : Ix (R * C), Adj R C Z lv x y → S x.1 → S y.1) {x y : Nat} (e : cmZ R C Z lv x = cmZ R C Z lv y) (hx : S x) : S y := by
  have k := ((tells_ufL (prN R C Z lv (R * C))).2 x y).1 e
  have key : ∀ {x y : Nat}, Jn (ePairs (prN R C Z lv (R * C))) x y → (S x ↔ S y) := by
    intro x y k
    induction k with
    | refl => exact Iff.rfl
    | symm _ ih => exact ih.symm
    | trans _ _ i1 i2 => exact i1.trans i2
    | pair k =>
      obtain ⟨⟨a, b⟩, hm, rfl, rfl⟩ := k
      obtain ⟨_, h1, _, h2, h3⟩ := prN_mem.1 hm
      exact ⟨hS a b ⟨h1, h2, h3⟩, hS b a ⟨near_symm h1, h3, h2⟩⟩
  exact (key k).1 hx

/-- the regions whose least cell is below k -/
def rgN (R C : Nat) (Z : Nat → Int) (lv : Int) : Nat → Nat
  | 0 => 0
  | k + 1 => rgN R C Z lv k + (if lv ≤ Z k ∧ cmZ R C Z lv k = k then 1 else 0)
theorem rgN_yes {R C : Nat} {Z : Nat → Int} {lv : Int} {k : Nat} (h : lv ≤ Z k) (e : cmZ R C Z lv k = k) : rgN R C Z lv (k + 1) = rgN R C Z lv k + 1 := by simp [rgN, h, e]
theorem rgN_no {R C : Nat} {Z : Nat → Int} {lv : Int} {k : Nat} (h : ¬ (lv ≤ Z k ∧ cmZ R C Z lv k = k)) : rgN R C Z lv (k + 1) = rgN R C Z lv k := by simp [rgN, h]
theorem rgN_le (R C : Nat) (Z : Nat → Int) (lv : Int) : ∀ k, rgN R C Z lv k ≤ k
  | 0 => by simp [rgN]
  | k + 1 => by have := rgN_le R C Z lv k; unfold rgN; split <;> omega
theorem rgN_mono (R C : Nat) (Z : Nat → Int) (lv : Int) {a b : Nat} (h : a ≤ b) : rgN R C Z lv a ≤ rgN R C Z lv b := by
  induction h with
  | refl => exact Nat.le_refl _
  | step _ ih => exact Nat.le_trans ih (Nat.le_add_right _ _)

/-- the number of a cell -/
def numZ (R C : Nat) (Z : Nat → Int) (lv : Int) (x : Nat) : Int := if lv ≤ Z x then (rgN R C Z lv (cmZ R C Z lv x) : Int) else -1
theorem numZ_no {R C : Nat} {Z : Nat → Int} {lv : Int} {x : Nat} (h : ¬ lv ≤ Z x) : numZ R C Z lv x = -1 := by simp [numZ, h]
theorem numZ_yes {R C : Nat} {Z : Nat → Int} {lv : Int} {x : Nat} (h : lv ≤ Z x) : numZ R C Z lv x = rgN R C Z lv (cmZ R C Z lv x) := by simp [numZ, h]
/-- the least cell of a region is land -/
theorem cm_land {R C : Nat} {Z : Nat → Int} {lv : Int} {x : Nat} (h : lv ≤ Z x) : lv ≤ Z (cmZ R C Z lv x) :=
  cm_closed (R := R) (C := C) (Z := Z) (lv := lv) (fun x => lv ≤ Z x) (fun x y ha _ => ha.2.2) (cmZ_idem R C Z lv x).symm h
theorem numZ_root {R C : Nat} {Z : Nat → Int} {lv : Int} {x : Nat} (h : lv ≤ Z x) : numZ R C Z lv (cmZ R C Z lv x) = numZ R C Z lv x := by
  rw [numZ_yes h, numZ_yes (cm_land h), cmZ_idem]
theorem numZ_lt {R C : Nat} {Z : Nat → Int} {lv : Int} {x k : Nat} (h : lv ≤ Z x) (hk : cmZ R C Z lv x < k) : numZ R C Z lv x < rgN R C Z lv k := by
  rw [numZ_yes h]
  have h1 := rgN_yes (R := R) (C := C) (cm_land (R := R) (C := C) h) (cmZ_idem R C Z lv x)
  have h2 := rgN_mono R C Z lv (a := cmZ R C Z lv x + 1) (b := k) (by omega)
  omega

end Go.Proofs.Ytcfeckpbjdipeaa

/- Regions numbered one after another: what is reckoned. -/
namespace Go.Proofs.Ytcfeckpbjdipeaa
set_option linter.unusedVariables false

/-- what a cell bears when the regions of the cells below i have been numbered -/
def lab (R C : Nat) (Z : Nat → Int) (lv : Int) (i j : Nat) : Int := if lv ≤ Z j ∧ cmZ R C Z lv j < i then numZ R C Z lv j else -1
theorem numZ_nonneg {R C : Nat} {Z : Nat → Int} {lv : Int} {j : Nat} (h : lv ≤ Z j) : 0 ≤ numZ R C Z lv j := by rw [numZ_yes h]; omega
theorem lab_zero (R C : Nat) (Z : Nat → Int) (lv : Int) (j : Nat) : lab R C Z lv 0 j = -1 := by unfold lab; rw [if_neg (by omega)]
theorem lab_all {R C : Nat} {Z : Nat → Int} {lv : Int} {N j : Nat} (hj : j < N) : lab R C Z lv N j = numZ R C Z lv j := by
  unfold lab
  have := cmZ_le R C Z lv j
  by_cases h : lv ≤ Z j
  · rw [if_pos ⟨h, by omega⟩]
  · rw [if_neg (fun k => h k.1), numZ_no h]
theorem lab_skip {R C : Nat} {Z : Nat → Int} {lv : Int} {i j : Nat} (h : ¬ (lv ≤ Z i ∧ cmZ R C Z lv i = i)) : lab R C Z lv (i + 1) j = lab R C Z lv i j := by
  unfold lab
  by_cases hl : lv ≤ Z j
  · by_cases hc : cmZ R C Z lv j < i
    · rw [if_pos ⟨hl, by omega⟩, if_pos ⟨hl, hc⟩]
    · have hne : cmZ R C Z lv j ≠ i := fun e => h ⟨by rw [← e]; exact cm_land hl, by rw [← e]; exact cmZ_idem R C Z lv j⟩
      rw [if_neg (by omega), if_neg (by omega)]
  · rw [if_neg (fun k => hl k.1), if_neg (fun k => hl k.1)]
theorem lab_neg {R C : Nat} {Z : Nat → Int} {lv : Int} {i j : Nat} (h : ¬ (lv ≤ Z j ∧ cmZ R C Z lv j < i)) : lab R C Z lv i j = -1 := by unfold lab; rw [if_neg h]
theorem lab_pos {R C : Nat} {Z : Nat → Int} {lv : Int} {i j : Nat} (h : lv ≤ Z j ∧ cmZ R C Z lv j < i) : 0 ≤ lab R C Z lv i j := by unfold lab; rw [if_pos h]; exact numZ_nonneg h.1
theorem lab_range (R C : Nat) (Z : Nat → Int) (lv : Int) (i j : Nat) (hj : j ≤ 1000) : -1 ≤ lab R C Z lv i j ∧ lab R C Z lv i j ≤ 1000 := by
  unfold lab
  split
  · rename_i h
    rw [numZ_yes h.1]
    have h1 := rgN_le R C Z lv (cmZ R C Z lv j)
    have h2 := cmZ_le R C Z lv j
    omega
  · omega

theorem nodup_le : ∀ (N : Nat) (l : List Nat), l.Nodup → (∀ x, x ∈ l → x < N) → l.length ≤ N
  | 0, l, _, h => by
    cases l with
    | nil => simp
    | cons x l => exact absurd (h x (by simp)) (by omega)
  | N + 1, l, hn, h => by
    by_cases hm : N ∈ l
    · have h1 := List.length_erase_of_mem hm
      have h2 := nodup_le N (l.erase N) (hn.erase N) (fun x hx => by
        have h3 := (List.Nodup.mem_erase_iff hn).1 hx
        have h4 := h x h3.2
        have h5 := h3.1
        omega)
      omega
    · exact Nat.le_succ_of_le (nodup_le N l hn (fun x hx => by
        have h3 := h x hx
        have : x ≠ N := fun e => hm (e ▸ hx)
        omega))
theorem ix_nodup_le {M : Nat} {l : List (Ix M)} (h : l.Nodup) : l.length ≤ M := by
  have h1 : (l.map Subtype.val).Nodup := by
    unfold List.Nodup at h ⊢
    rw [List.pairwise_map]
    exact h.imp fun hab e => hab (Subtype.ext e)
  have h2 := nodup_le M (l.map Subtype.val) h1 (fun x hx => by
    obtain ⟨y, _, rfl⟩ := List.mem_map.1 hx
    exact y.2)
  simpa using h2

/-- a list of cells, found from i on -/
structure Found (R C : Nat) (Z : Nat → Int) (lv : Int) (i : Nat) (L : List (Ix (R * C))) : Prop where
  nodup : L.Nodup
  first : ∃ x, x ∈ L ∧ x.1 = i
  all : ∀ x, x ∈ L → lv ≤ Z x.1 ∧ cmZ R C Z lv x.1 = i
theorem Found.one {R C : Nat} {Z : Nat → Int} {lv : Int} (i : Ix (R * C)) (h : lv ≤ Z i.1) (e : cmZ R C Z lv i.1 = i.1) : Found R C Z lv i.1 [i] :=
  ⟨by simp, ⟨i, by simp, rfl⟩, fun x hx => by simp at hx; subst hx; exact ⟨h, e⟩⟩
theorem Found.push {R C : Nat} {Z : Nat → Int} {lv : Int} {i : Nat} {L : List (Ix (R * C))} (h : Found R C Z lv i L) {x y : Ix (R * C)} (hx : x ∈ L) (hy : y ∈ near R C x 4) (hz : lv ≤ Z y.1) (hn : y ∉ L) : Found R C Z lv i (L ++ [y]) := by
  obtain ⟨h1, h2, h3⟩ := h
  refine ⟨?_, ?_, ?_⟩
  · rw [List.nodup_append]
    exact ⟨h1, by simp, fun a ha b hb e => by simp at hb; subst hb; subst e; exact hn ha⟩
  · obtain ⟨z, hz1, hz2⟩ := h2
    exact ⟨z, by simp [hz1], hz2⟩
  · intro z hz1
    rcases List.mem_append.1 hz1 with hz1 | hz1
    · exact h3 z hz1
    · simp at hz1
      subst hz1
      exact ⟨hz, by rw [← cm_adj ⟨hy, (h3 x hx).1, hz⟩]; exact (h3 x hx).2⟩
/-- what the cells bear while a region is being found -/
def labF {R C : Nat} (Z : Nat → Int) (lv : Int) (i : Nat) (L : List (Ix (R * C))) (j : Nat) : Int := open Classical in if (∃ x, x ∈ L ∧ x.1 = j) then (rgN R C Z lv i : Int) else lab R C Z lv i j
theorem labF_push {R C : Nat} {Z : Nat → Int} {lv : Int} {i : Nat} {L : List (Ix (R * C))} (y : Ix (R * C)) (j : Nat) : (if j = y.1 then (rgN R C Z lv i : Int) else labF Z lv i L j) = labF Z lv i (L ++ [y]) j := by
  unfold labF
  by_cases e : j = y.1
  · rw [if_pos e, if_pos ⟨y, by simp, e.symm⟩]
  · rw [if_neg e]
    by_cases h : ∃ x, x ∈ L ∧ x.1 = j
    · obtain ⟨x, h1, h2⟩ := h
      rw [if_pos ⟨x, h1, h2⟩, if_pos ⟨x, by simp [h1], h2⟩]
    · rw [if_neg h, if_neg]
      rintro ⟨x, h1, h2⟩
      rcases List.mem_append.1 h1 with h1 | h1
      · exact h ⟨x, h1, h2⟩
      · simp at h1; subst h1; exact e h2.symm
theorem labF_one {R C : Nat} {Z : Nat → Int} {lv : Int} (i : Ix (R * C)) (j : Nat) : (if j = i.1 then (rgN R C Z lv i.1 : Int) else lab R C Z lv i.1 j) = labF Z lv i.1 [i] j := by
  have := labF_push (Z := Z) (lv := lv) (i := i.1) (L := ([] : List (Ix (R * C)))) i j
  simpa [labF] using this
theorem labF_in {R C : Nat} {Z : Nat → Int} {lv : Int} {i : Nat} {L : List (Ix (R * C))} {y : Ix (R * C)} (h : y ∈ L) : labF Z lv i L y.1 = rgN R C Z lv i := by unfold labF; rw [if_pos ⟨y, h, rfl⟩]
theorem labF_out {R C : Nat} {Z : Nat → Int} {lv : Int} {i : Nat} {L : List (Ix (R * C))} {y : Ix (R * C)} (h : y ∉ L) : labF Z lv i L y.1 = lab R C Z lv i y.1 := by
  unfold labF
  rw [if_neg]
  rintro ⟨x, h1, h2⟩
  exact h (by have : x = y := Subtype.ext h2
              rw [← this]; exact h1)
/-- a found list that is closed holds the whole region -/
theorem Found.done {R C : Nat} {Z : Nat → Int} {lv : Int} {i : Nat} {L : List (Ix (R * C))} (h : Found R C Z lv i L) (hc : ∀ x, x ∈ L → ∀ y, y ∈ near R C x 4 → lv ≤ Z y.1 → y ∈ L) (j : Nat) (hj : j < R * C) : labF Z lv i L j = lab R C Z lv (i + 1) j := by
  obtain ⟨x0, hx0, e0⟩ := h.first
  have hi := (h.all x0 hx0)
  rw [e0] at hi
  have hmem : (∃ x, x ∈ L ∧ x.1 = j) ↔ (lv ≤ Z j ∧ cmZ R C Z lv j = i) := by
    constructor
    · rintro ⟨x, h1, rfl⟩; exact h.all x h1
    · rintro ⟨h1, h2⟩
      exact cm_closed (R := R) (C := C) (Z := Z) (lv := lv) (fun q => ∃ x, x ∈ L ∧ x.1 = q) (fun a b hab => by
        rintro ⟨x, hx1, hx2⟩
        have ea : x = a := Subtype.ext hx2
        subst ea
        exact ⟨b, hc x hx1 b hab.1 hab.2.2, rfl⟩) (x := i) (y := j) (by rw [h2]; exact hi.2) ⟨x0, hx0, e0⟩
  unfold labF lab
  by_cases h1 : ∃ x, x ∈ L ∧ x.1 = j
  · have h2 := hmem.1 h1
    rw [if_pos h1, if_pos ⟨h2.1, by omega⟩, numZ_yes h2.1, h2.2]
  · rw [if_neg h1]
    by_cases h3 : lv ≤ Z j ∧ cmZ R C Z lv j < i
    · rw [if_pos h3, if_pos ⟨h3.1, by omega⟩]
    · rw [if_neg h3, if_neg]
      rintro ⟨h4, h5⟩
      have : cmZ R C Z lv j ≠ i := fun e => h1 (hmem.2 ⟨h4, e⟩)
      exact h3 ⟨h4, by omega⟩

end Go.Proofs.Ytcfeckpbjdipeaa

/- The program's layers: made, asked for land, counted. -/
namespace Go.Proofs.Ytcfeckpbjdipeaa
open Go.RowKit
set_option linter.unusedVariables false

theorem Try.sizeLay : (Try.prog.info? 65).map (·.size) = some 4 := by kernel_rfl

theorem four_set (w : World) (b : Nat) (x y z u x' y' z' u' : Value) {t : TypeId} (h : w.heap[b]? = some (.cells #[x, y, z, u] t (0, 0))) :
    ((((w.setCell ⟨b, 0, none⟩ x').setCell ⟨b, 1, none⟩ y').setCell ⟨b, 2, none⟩ z').setCell ⟨b, 3, none⟩ u').heap[b]? = some (.cells #[x', y', z', u'] t (0, 0)) := by
  have h1 := heap_setCell_same w b 0 #[x, y, z, u] t x' h
  have h2 := heap_setCell_same _ b 1 _ t y' h1
  have h3 := heap_setCell_same _ b 2 _ t z' h2
  have h4 := heap_setCell_same _ b 3 _ t u' h3
  rw [h4]
  simp
theorem cells4 {w : World} {b : Nat} {x y z u : Value} {t : TypeId} (h : w.heap[b]? = some (.cells #[x, y, z, u] t (0, 0))) :
    w.cell? ⟨b, 0, none⟩ = some x ∧ w.cell? ⟨b, 1, none⟩ = some y ∧ w.cell? ⟨b, 2, none⟩ = some z ∧ w.cell? ⟨b, 3, none⟩ = some u :=
  ⟨by simp [World.cell?, h], by simp [World.cell?, h], by simp [World.cell?, h], by simp [World.cell?, h]⟩
theorem froz4 {w : World} {b : Nat} {x y z u : Value} {t : TypeId} (h : w.heap[b]? = some (.cells #[x, y, z, u] t (0, 0))) :
    w.frozen? ⟨b, 0, none⟩ = false ∧ w.frozen? ⟨b, 1, none⟩ = false ∧ w.frozen? ⟨b, 2, none⟩ = false ∧ w.frozen? ⟨b, 3, none⟩ = false :=
  ⟨by simp [World.frozen?, h], by simp [World.frozen?, h], by simp [World.frozen?, h], by simp [World.frozen?, h]⟩
theorem cell4_far {w : World} {x y o : Nat} (a b c d : Value) (h : y ≠ x) : ((((w.setCell ⟨x, 0, none⟩ a).setCell ⟨x, 1, none⟩ b).setCell ⟨x, 2, none⟩ c).setCell ⟨x, 3, none⟩ d).cell? ⟨y, o, none⟩ = w.cell? ⟨y, o, none⟩ := by
  rw [World.cell?_of_block (a := ⟨y, o, none⟩) (Below.heap_setCell _ ⟨x, 3, none⟩ d y h), World.cell?_of_block (a := ⟨y, o, none⟩) (Below.heap_setCell _ ⟨x, 2, none⟩ c y h), World.cell?_of_block (a := ⟨y, o, none⟩) (Below.heap_setCell _ ⟨x, 1, none⟩ b y h), World.cell?_of_block (a := ⟨y, o, none⟩) (Below.heap_setCell _ ⟨x, 0, none⟩ a y h)]
theorem below4 {B : Nat} {a w : World} (h : Below B a w) {x : Nat} (hx : B ≤ x) (p q r s : Value) : Below B a ((((w.setCell ⟨x, 0, none⟩ p).setCell ⟨x, 1, none⟩ q).setCell ⟨x, 2, none⟩ r).setCell ⟨x, 3, none⟩ s) :=
  (((h.setCell (p := ⟨x, 0, none⟩) hx p).setCell (p := ⟨x, 1, none⟩) hx q).setCell (p := ⟨x, 2, none⟩) hx r).setCell (p := ⟨x, 3, none⟩) hx s

/-- what layerOf answers for a grid and a level -/
def LyYes (g : G) (lv : Int) (w : World) (e : Ending) (w' : World) : Prop :=
  ∃ n gg cap, e = .returned (.tuple #[.agg #[.int .i64 g.n, .int .i64 (g.len 0), .slice (some ⟨gg, 0, none⟩) n cap, .int .i64 lv], .bool true]) ∧ Rv w' g.n (g.len 0) n gg cap g.flat ∧ Below w.heap.size w w'
def LyNo (w : World) (e : Ending) (w' : World) : Prop :=
  e = .returned (.tuple #[.agg #[.int .i64 0, .int .i64 0, .slice none 0 0, .int .i64 0], .bool false]) ∧ Below w.heap.size w w'

set_option maxHeartbeats 4000000 in
set_option maxRecDepth 100000 in
theorem layerOf_yes (v : Value) (lo hi : Nat) (g : G) (lv : Int) (w : World) (hv : RdM lo hi w v g) (hh : hi ≤ w.heap.size) (h : g.LvOk lv) :
    Calls Try.prog 77 #[v, .int .i64 lv] w (LyYes g lv w) := by
  have hb0 := (Below.refl w.heap.size w).alloc (Nat.le_refl _) (.cells #[.int .i64 0, .int .i64 0, .slice none 0 0, .int .i64 0] 65)
  have HC := Lib.hid (reliefOf_yes v lo hi g (w.alloc (.cells #[.int .i64 0, .int .i64 0, .slice none 0 0, .int .i64 0] 65)) (hv.same (SameIn.below hb0 hh)) (Nat.le_trans hh hb0.size) h.1)
  have hl1 := h.2.1
  have hl2 := h.2.2
  have HB0 := Lib.hid hb0
  clear hv h hb0
  go_enter Try.func77, Try.ntmps77
  go_wp2_with fail
  refine HC.out.mono ?_
  rintro e w1 ⟨n, gg, cap, xs, hn, rfl, hown, hval, hb1⟩
  have hrv := Rv.of_own hown hn hval
  have hgl := (hown.lt gg rfl).1
  simp only [World.size_alloc] at hgl
  have hs1 := hb1.size
  simp only [World.size_alloc] at hs1
  have hR := (hb1.block w.heap.size (by simp)).trans (heap_alloc_new w (.cells #[.int .i64 0, .int .i64 0, .slice none 0 0, .int .i64 0] 65))
  have hB1 := HB0.out.trans (hb1.mono (by simp))
  have HLOC := Lib.hid (heap_alloc_new w1 (.cells #[.int .i64 g.n, .int .i64 (g.len 0), .slice (some ⟨gg, 0, none⟩) n cap] 50))
  have HR := Lib.hid ((Below.heap_alloc w1 (.cells #[.int .i64 g.n, .int .i64 (g.len 0), .slice (some ⟨gg, 0, none⟩) n cap] 50) w.heap.size (by omega)).trans hR)
  have HRV := Lib.hid (hrv.keep ((Below.refl w1.heap.size w1).alloc (Nat.le_refl _) (.cells #[.int .i64 g.n, .int .i64 (g.len 0), .slice (some ⟨gg, 0, none⟩) n cap] 50)) (Nat.le_refl _))
  have HB1 := Lib.hid (hB1.alloc (by omega) (.cells #[.int .i64 g.n, .int .i64 (g.len 0), .slice (some ⟨gg, 0, none⟩) n cap] 50))
  clear hn hown hval hb1 hrv hR hB1
  go_wp2_with fail
  refine (isHeight_yes lv _ hl1 hl2).mono ?_
  rintro e w' ⟨rfl, rfl⟩
  generalize hW1 : w1.alloc (.cells #[.int .i64 g.n, .int .i64 (g.len 0), .slice (some ⟨gg, 0, none⟩) n cap] 50) = W1 at HLOC HR HRV HB1 ⊢
  clear hW1
  obtain ⟨d0, d1, d2, _, _, _⟩ := cells3 HLOC.out
  obtain ⟨r0, r1, r2, r3⟩ := cells4 HR.out
  obtain ⟨f0, f1, f2, f3⟩ := froz4 HR.out
  have HE := Lib.hid (four_set W1 w.heap.size _ _ _ _ (.int .i64 g.n) (.int .i64 (g.len 0)) (.slice (some ⟨gg, 0, none⟩) n cap) (.int .i64 lv) HR.out)
  have B1 := below4 HB1.out (Nat.le_refl _) (.int .i64 g.n) (.int .i64 (g.len 0)) (.slice (some ⟨gg, 0, none⟩) n cap) (.int .i64 lv)
  have HBB := Lib.hid B1
  have hne : gg ≠ w.heap.size := by omega
  clear B1
  go_wp2
  exact bodyPost_ret (results_cell_row_tmp rfl _ _ w.heap.size _ #[.int .i64 g.n, .int .i64 (g.len 0), .slice (some ⟨gg, 0, none⟩) n cap, .int .i64 lv] _ _ rfl HE.out Try.underlying65 rfl Try.sizeLay (.bool true) rfl) rfl
    ⟨n, gg, cap, rfl, ⟨HRV.out.n_eq, by simpa [World.setCell] using HRV.out.lt, HRV.out.le, fun i hi => (cell4_far _ _ _ _ hne).trans (HRV.out.cell i hi)⟩, HBB.out⟩

set_option maxHeartbeats 4000000 in
set_option maxRecDepth 100000 in
theorem layerOf_no (v : Value) (lo hi : Nat) (g : G) (lv : Int) (w : World) (hv : RdM lo hi w v g) (hh : hi ≤ w.heap.size) (h : ¬ g.LvOk lv) :
    Calls Try.prog 77 #[v, .int .i64 lv] w (LyNo w) := by
  have hb0 := (Below.refl w.heap.size w).alloc (Nat.le_refl _) (.cells #[.int .i64 0, .int .i64 0, .slice none 0 0, .int .i64 0] 65)
  have HB0 := Lib.hid hb0
  have hv1 := hv.same (SameIn.below hb0 hh)
  have hh1 := Nat.le_trans hh hb0.size
  by_cases hval : g.Valid
  · have HC := Lib.hid (reliefOf_yes v lo hi g (w.alloc (.cells #[.int .i64 0, .int .i64 0, .slice none 0 0, .int .i64 0] 65)) hv1 hh1 hval)
    have HL := Lib.hid (show lv < 0 ∨ 99 < lv by
      by_cases h1 : 0 ≤ lv
      · by_cases h2 : lv ≤ 99
        · exact absurd ⟨hval, h1, h2⟩ h
        · omega
      · omega)
    clear hv h hb0 hval hv1 hh1
    go_enter Try.func77, Try.ntmps77
    go_wp2_with fail
    refine HC.out.mono ?_
    rintro e w1 ⟨n, gg, cap, xs, hn, rfl, hown, hval, hb1⟩
    have hs1 := hb1.size
    simp only [World.size_alloc] at hs1
    have hR := (hb1.block w.heap.size (by simp)).trans (heap_alloc_new w (.cells #[.int .i64 0, .int .i64 0, .slice none 0 0, .int .i64 0] 65))
    have hB1 := HB0.out.trans (hb1.mono (by simp))
    have HR := Lib.hid ((Below.heap_alloc w1 (.cells #[.int .i64 g.n, .int .i64 (g.len 0), .slice (some ⟨gg, 0, none⟩) n cap] 50) w.heap.size (by omega)).trans hR)
    have HB1 := Lib.hid (hB1.alloc (by omega) (.cells #[.int .i64 g.n, .int .i64 (g.len 0), .slice (some ⟨gg, 0, none⟩) n cap] 50))
    clear hn hown hval hb1 hR hB1
    go_wp2_with fail
    refine (isHeight_no lv _ HL.out).mono ?_
    rintro e w' ⟨rfl, rfl⟩
    generalize hW1 : w1.alloc (.cells #[.int .i64 g.n, .int .i64 (g.len 0), .slice (some ⟨gg, 0, none⟩) n cap] 50) = W1 at HR HB1 ⊢
    clear hW1
    obtain ⟨r0, r1, r2, r3⟩ := cells4 HR.out
    obtain ⟨f0, f1, f2, f3⟩ := froz4 HR.out
    have HE := Lib.hid (four_set W1 w.heap.size _ _ _ _ (.int .i64 0) (.int .i64 0) (.slice none 0 0) (.int .i64 0) HR.out)
    have B1 := below4 HB1.out (Nat.le_refl _) (.int .i64 0) (.int .i64 0) (.slice none 0 0) (.int .i64 0)
    have HBB := Lib.hid B1
    clear B1
    go_wp2
    exact bodyPost_ret (results_cell_row_tmp rfl _ _ w.heap.size _ #[.int .i64 0, .int .i64 0, .slice none 0 0, .int .i64 0] _ _ rfl HE.out Try.underlying65 rfl Try.sizeLay (.bool false) rfl) rfl ⟨rfl, HBB.out⟩
  · have HC := Lib.hid (reliefOf_no v lo hi g (w.alloc (.cells #[.int .i64 0, .int .i64 0, .slice none 0 0, .int .i64 0] 65)) hv1 hh1 hval)
    clear hv h hb0 hval hv1 hh1
    go_enter Try.func77, Try.ntmps77
    go_wp2_with fail
    refine HC.out.mono ?_
    rintro e w1 ⟨rfl, hb1⟩
    have hs1 := hb1.size
    simp only [World.size_alloc] at hs1
    have hR := (hb1.block w.heap.size (by simp)).trans (heap_alloc_new w (.cells #[.int .i64 0, .int .i64 0, .slice none 0 0, .int .i64 0] 65))
    have hB1 := HB0.out.trans (hb1.mono (by simp))
    have hR2 := (Below.heap_alloc w1 (.cells #[.int .i64 0, .int .i64 0, .slice none 0 0] 50) w.heap.size (by omega)).trans hR
    have HR := Lib.hid hR2
    have HB1 := Lib.hid (hB1.alloc (by omega) (.cells #[.int .i64 0, .int .i64 0, .slice none 0 0] 50))
    obtain ⟨r0, r1, r2, r3⟩ := cells4 hR2
    obtain ⟨f0, f1, f2, f3⟩ := froz4 hR2
    have HE := Lib.hid (four_set _ w.heap.size _ _ _ _ (.int .i64 0) (.int .i64 0) (.slice none 0 0) (.int .i64 0) hR2)
    have B1 := below4 HB1.out (Nat.le_refl _) (.int .i64 0) (.int .i64 0) (.slice none 0 0) (.int .i64 0)
    have HBB := Lib.hid B1
    clear hb1 hR hB1 hR2 B1
    go_wp2
    exact bodyPost_ret (results_cell_row_tmp rfl _ _ w.heap.size _ #[.int .i64 0, .int .i64 0, .slice none 0 0, .int .i64 0] _ _ rfl HE.out Try.underlying65 rfl Try.sizeLay (.bool false) rfl) rfl ⟨rfl, HBB.out⟩

set_option maxHeartbeats 2000000 in
set_option maxRecDepth 100000 in
theorem isLand_yes (R C gg cap cnt : Nat) (Z : Nat → Int) (lv : Int) (k : Nat) (w : World) (h : Rv w R C cnt gg cap Z) (hk : k < cnt) (hc : cnt ≤ 1000) (hl : lv ≤ Z k) :
    Calls Try.prog 116 #[.agg #[.int .i64 R, .int .i64 C, .slice (some ⟨gg, 0, none⟩) cnt cap, .int .i64 lv], .int .i64 k] w (BlPost true w) := by
  have hb := (Below.refl w.heap.size w).alloc (Nat.le_refl _) (.cells #[.int .i64 R, .int .i64 C, .slice (some ⟨gg, 0, none⟩) cnt cap, .int .i64 lv] 65)
  have c1 := (h.keep hb (Nat.le_refl _)).cell k hk
  have hle := h.le
  have HB := Lib.hid hb
  have hk' : (k : Int) < cnt := by omega
  generalize Z k = z at hl c1
  clear h hb
  go_enter Try.func116, Try.ntmps116
  go_wp2
  go_quiet (fail)
  go_wp2
  go_ret
  exact ⟨rfl, below_drewN HB.out _⟩

set_option maxHeartbeats 2000000 in
set_option maxRecDepth 100000 in
theorem isLand_no (R C gg cap cnt : Nat) (Z : Nat → Int) (lv : Int) (k : Nat) (w : World) (h : Rv w R C cnt gg cap Z) (hk : k < cnt) (hc : cnt ≤ 1000) (hl : ¬ lv ≤ Z k) :
    Calls Try.prog 116 #[.agg #[.int .i64 R, .int .i64 C, .slice (some ⟨gg, 0, none⟩) cnt cap, .int .i64 lv], .int .i64 k] w (BlPost false w) := by
  have hb := (Below.refl w.heap.size w).alloc (Nat.le_refl _) (.cells #[.int .i64 R, .int .i64 C, .slice (some ⟨gg, 0, none⟩) cnt cap, .int .i64 lv] 65)
  have c1 := (h.keep hb (Nat.le_refl _)).cell k hk
  have hle := h.le
  have HB := Lib.hid hb
  have hk' : (k : Int) < cnt := by omega
  generalize Z k = z at hl c1
  have hd : decide (lv ≤ z) = false := by simpa using hl
  clear h hb
  go_enter Try.func116, Try.ntmps116
  go_wp2
  go_quiet (fail)
  go_wp2
  go_ret
  exact ⟨rfl, below_drewN HB.out _⟩

end Go.Proofs.Ytcfeckpbjdipeaa

/- The shore in the program. -/
namespace Go.Proofs.Ytcfeckpbjdipeaa
open Go.RowKit Go.Shelf
set_option linter.unusedVariables false
attribute [local go_sem] Oper.semAt_some

theorem others_below {W W' : World} (h : Below W.heap.size W W') : KeepsOthers W W' := ⟨h.size, fun k o ho _ => (h.block k (Array.getElem?_eq_some_iff.1 ho).1).trans ho⟩

theorem two_allocsV (w : World) (o1 o2 : Obj) : let W := (w.alloc o1).alloc o2
    W.heap[w.heap.size]? = some o1 ∧ W.heap[w.heap.size + 1]? = some o2 ∧ W.heap.size = w.heap.size + 2 ∧ Below w.heap.size w W := by
  intro W
  have e1 : (w.alloc o1).heap.size = w.heap.size + 1 := by simp
  have b2 := fun k hk => Below.heap_alloc (w.alloc o1) o2 k hk
  refine ⟨(b2 _ (by omega)).trans (heap_alloc_new w o1), ?_, by simp [W], ((Below.refl _ _).alloc (Nat.le_refl _) _).alloc (by simp) _⟩
  have := heap_alloc_new (w.alloc o1) o2
  rw [e1] at this
  exact this

end Go.Proofs.Ytcfeckpbjdipeaa

/- The program's iterator over the sides between land cells. -/
namespace Go.Proofs.Ytcfeckpbjdipeaa
open Go.RowKit Go.Shelf
set_option linter.unusedVariables false
attribute [local go_sem] Oper.semAt_some

/-- from s on, and at Bm and gg, all blocks lie as they lay -/
structure KqS (Bm gg s : Nat) (A B : World) : Prop where
  size : A.heap.size ≤ B.heap.size
  same : ∀ k, (s ≤ k ∨ k = Bm ∨ k = gg) → k < A.heap.size → B.heap[k]? = A.heap[k]?
theorem KqS.refl (Bm gg s : Nat) (A : World) : KqS Bm gg s A A := ⟨Nat.le_refl _, fun _ _ _ => rfl⟩
theorem KqS.trans {Bm gg s : Nat} {A B C : World} (h : KqS Bm gg s A B) (k : KqS Bm gg s B C) : KqS Bm gg s A C :=
  ⟨Nat.le_trans h.size k.size, fun i hi hlt => (k.same i hi (Nat.lt_of_lt_of_le hlt h.size)).trans (h.same i hi hlt)⟩
theorem KqS.of_below {Bm gg s : Nat} {A B : World} (h : Below A.heap.size A B) : KqS Bm gg s A B := ⟨h.size, fun k _ hk => h.block k hk⟩
theorem KqS.low {Bm gg s s' : Nat} {A B : World} (h : KqS Bm gg s A B) (hs : s ≤ s') : KqS Bm gg s' A B := ⟨h.size, fun k hk => h.same k (by omega)⟩
theorem ownFrom_kqs {β : Type} {Bm gg s B : Nat} {A : World} (hB : A.heap.size ≤ B) : OwnFrom B (fun (_ : β) W => KqS Bm gg s A W) := fun _ X Y row hs hg hrow =>
  ⟨Nat.le_trans hs.size hg.size, fun k hk hlt => (hg.block k (Nat.lt_of_lt_of_le hlt hs.size) (fun e => by have := (hrow k e.symm).1; omega)).trans (hs.same k hk hlt)⟩
theorem own_below {β : Type} {B : Nat} {J : β → World → Prop} (h : OwnFrom B J) {s : β} {W W' : World} (hs : J s W) (hb : Below W.heap.size W W') : J s W' :=
  h s W W' none hs ⟨hb.os, hb.tape, hb.output, hb.size, fun k hk _ => hb.block k hk⟩ (fun r e => by cases e)

def pEnc {M : Nat} (x : Ix M × Ix M) : Array Value := #[.int .i64 x.1.1, .int .i64 x.2.1]

set_option maxRecDepth 100000 in
set_option maxHeartbeats 20000000 in
theorem sides_calm (n : Nat) (hn : 4 ≤ n) (Bm R C gg cap cnt : Nat) (hR : R ≤ 7) (hC : C ≤ 7) (Z : Nat → Int) (lv : Int) (w : World) (hBm : Bm < w.heap.size)
    (hlay : w.heap[Bm]? = some (.cells #[.int .i64 R, .int .i64 C, .slice (some ⟨gg, 0, none⟩) cnt cap, .int .i64 lv] 65 (0, 0))) (hrv : Rv w R C cnt gg cap Z) :
    CalmSeq Fence.wide n Try.prog 128 #[.pointer (some ⟨Bm, 0, none⟩)] pEnc (KqS Bm gg) (fun ys => ys = prN R C Z lv (R * C)) (4 * (R * C)) w := by
  intro l J W hW hJ hY h0
  have HJ := Lib.hid hJ
  have HJ0 := Lib.hid h0
  have HY := Lib.hid hY
  have hcn := hrv.n_eq
  have h49 := mul_le_49 hR hC
  have hcn49 : cnt ≤ 49 := by omega
  have HCN := Lib.hid hcn
  have hgg : gg < w.heap.size := hrv.lt
  have hcap : cnt ≤ cap := hrv.le
  have hsW := hW.size
  have HLAY := Lib.hid ((hW.block Bm hBm).trans hlay)
  have HRV := Lib.hid (hrv.keep hW (Nat.le_refl _))
  have hBW : Bm < W.heap.size := Nat.lt_of_lt_of_le hBm hsW
  have hgW : gg < W.heap.size := Nat.lt_of_lt_of_le hgg hsW
  obtain ⟨a0, a1, a2, a3⟩ := cells4 HLAY.out
  clear hJ h0 hY hcn hrv hlay hW
  refine callsIn_of_wp_marks Try.func128 rfl trivial ?_ rfl
  simp only [Try.ntmps128, List.size_toArray, List.length_cons, List.length_nil, Nat.reduceAdd, Nat.reduceSub, Array.replicate_succ, Array.replicate_zero, List.push_toArray, List.append_toArray, List.nil_append, List.cons_append]
  gi_wp2
  have HB1 := Lib.hid ((Below.refl W.heap.size W).alloc (Nat.le_refl _) (.cells #[.func (.yield l) #[] #[]] 54))
  have HYB := Lib.hid (heap_alloc_new W (.cells #[.func (.yield l) #[] #[]] 54))
  generalize hW1 : W.alloc (.cells #[.func (.yield l) #[] #[]] 54) = W1 at HB1 HYB ⊢
  have hsW1 : W1.heap.size = W.heap.size + 1 := by rw [← hW1]; simp
  have HJ1 := Lib.hid (own_below HJ.out HJ0.out HB1.out)
  clear hW1 a0 a1 a2 a3
  refine wpIn_loop_k (fun a V => ∃ (k : Nat) (ds : List Deferred) (u3 u10 u11 u12 u13 u14 u15 u37 : Value), a = { tmps := #[.func (.yield l) #[] #[], .pointer (some ⟨Bm, 0, none⟩), .pointer (some ⟨W.heap.size, 0, none⟩), u3, undef, .pointer (some ⟨Bm, 0, none⟩), .pointer (some ⟨Bm, 2, none⟩), .slice (some ⟨gg, 0, none⟩) cnt cap, .int .i64 cnt, .int .i64 k, u10, u11, u12, u13, u14, u15, undef, undef, undef, undef, undef, undef, undef, undef, undef, undef, undef, undef, undef, undef, undef, undef, undef, undef, undef, undef, undef, u37], defers := ds } ∧
      k ≤ cnt ∧ J (prN R C Z lv k) V ∧ KqS Bm gg W.heap.size W1 V ∧ Coll W.heap.size V.heap.size ds V)
    (fun a _ => cnt - (intOf (a.tmps.getD 9 undef)).toNat) ⟨0, [], _, _, _, _, _, _, _, _, rfl, Nat.zero_le _, HJ1.out, KqS.refl _ _ _ _, Coll.nil⟩ ?_
  rintro _ V ⟨k, ds, u3, u10, u11, u12, u13, u14, u15, u37, rfl, hk, hJk, hkq, hcoll⟩ K hK
  have HK := Lib.hid @hK
  have HJK := Lib.hid hJk
  have HKQ := Lib.hid hkq
  have HCO := Lib.hid hcoll
  have hsV := hkq.size
  have HLV := Lib.hid ((hkq.same Bm (by omega) (by omega)).trans ((HB1.out.block Bm hBW).trans HLAY.out))
  have HYV := Lib.hid ((hkq.same W.heap.size (by omega) (by omega)).trans HYB.out)
  have HRVV := Lib.hid ((HRV.out.keep HB1.out (Nat.le_refl _)).kb (show Kb gg W1 V from ⟨hkq.size, hkq.same gg (by omega) (by omega)⟩))
  by_cases hlt : k < cnt
  · obtain ⟨i, hi'⟩ : ∃ i : Ix (R * C), i.1 = k := ⟨⟨k, by rw [← HCN.out]; exact hlt⟩, rfl⟩
    have HI := Lib.hid hi'
    obtain ⟨m0, m1, m2, m3⟩ := cells4 HLV.out
    have hne : Bm ≠ V.heap.size := by omega
    have hBV : Bm < V.heap.size := by omega
    have hlen := prN_len R C Z lv k
    have hle := sidesN_le R C Z lv k
    have HPR := Lib.hid (show prN R C Z lv (k + 1) = prN R C Z lv k ++ prL Z lv i (near R C i 4) by rw [← hi']; exact prN_succ i)
    clear hK hJk hkq hcoll hi'
    gi_wp2_with (refine ⟨trivial, (fun _ => by omega), ?_⟩; gi_at_call 117; refine (callsIn_wide.2 (nb_any R C gg cnt cap k _)).mono ?_; rintro e w' ⟨rfl, rfl⟩)
    obtain ⟨n1, n2, n3, nsz, nb⟩ := three_allocs V (.cells #[.int .i64 k] 3) (.cells #[.int .i64 R, .int .i64 C, .slice (some ⟨gg, 0, none⟩) cnt cap] 50) (.cells #[.int .i64 k] 3)
    generalize hV3 : ((V.alloc (.cells #[.int .i64 k] 3)).alloc (.cells #[.int .i64 R, .int .i64 C, .slice (some ⟨gg, 0, none⟩) cnt cap] 50)).alloc (.cells #[.int .i64 k] 3) = V3 at n1 n2 n3 nsz nb ⊢
    have E1 := Lib.hid n1
    have E2 := Lib.hid n2
    have E3 := Lib.hid n3
    have NB := Lib.hid nb
    clear hV3 n1 n2 n3 nb m0 m1 m2 m3
    refine wpIn_rangeFunc_ownG (ps := #[16]) rfl (by omega) (gf := 129) (lb := #[.pointer (some ⟨V.heap.size + 1 + 1, 0, none⟩), .pointer (some ⟨V.heap.size + 1, 0, none⟩)]) rfl trivial (enters_of Try.func129 (by kernel_rfl) rfl)
      (nb_stops (n - 1) (by omega) (V.heap.size + 1 + 1) (V.heap.size + 1) R C gg cap cnt hR hC i V3 (by omega) (by omega) (by rw [HI.out]; exact one_cell E3.out) (three_cells E2.out)) Kb.trans (kb_b (by omega)) (Below.refl _ _) (fun _ => rfl)
      (fun pre X => (J (prN R C Z lv k ++ prL Z lv i pre) X ∧ KqS Bm gg W.heap.size V3 X) ∧ Coll W.heap.size V.heap.size ds X)
      (fun _ _ _ => False)
      (OwnFrom.and (OwnFrom.and (fun s X Y row hs hg hrow => HJ.out _ X Y row hs hg (fun r e => ⟨by have := (hrow r e).1; omega, (hrow r e).2⟩)) (ownFrom_kqs (Nat.le_refl _))) (ownFrom_coll (by omega)))
      (fun _ _ _ _ _ hs _ _ => hs)
      ⟨⟨by simpa [prL] using own_below HJ.out HJK.out NB.out, KqS.refl _ _ _ _⟩, HCO.out.below NB.out (Nat.le_refl _)⟩
      (fun x => { tmps := #[.func (.yield l) #[] #[], .pointer (some ⟨Bm, 0, none⟩), .pointer (some ⟨W.heap.size, 0, none⟩), .pointer (some ⟨V.heap.size, 0, none⟩), .int .i64 x.1, .pointer (some ⟨Bm, 0, none⟩), .pointer (some ⟨Bm, 2, none⟩), .slice (some ⟨gg, 0, none⟩) cnt cap, .int .i64 cnt, .int .i64 k, .bool true, .int .i64 k, .pointer (some ⟨Bm, 0, none⟩), .agg #[.int .i64 R, .int .i64 C, .slice (some ⟨gg, 0, none⟩) cnt cap], .int .i64 k, .func (.func 129) #[] #[.pointer (some ⟨V.heap.size + 1 + 1, 0, none⟩), .pointer (some ⟨V.heap.size + 1, 0, none⟩)], .int .i64 x.1, undef, undef, undef, undef, undef, undef, undef, undef, undef, undef, undef, undef, undef, undef, undef, undef, undef, undef, undef, undef, u37], defers := [] }) ?assign ?body ?done ?stop
    case assign =>
      intro l2 x X K2 hK2
      gi_wp2
      simpa using hK2
    case body =>
      rintro l2 pre x X ⟨⟨hJx, hkx⟩, hco⟩ hpl
      dsimp only
      have hsX := hkx.size
      have hlX := (hkx.same Bm (by omega) (by omega)).trans ((NB.out.block Bm hBV).trans HLV.out)
      have hiX := (hkx.same V.heap.size (by omega) (by omega)).trans E1.out
      have hyX := (hkx.same W.heap.size (by omega) (by omega)).trans ((NB.out.block W.heap.size (by omega)).trans HYV.out)
      have HRX := Lib.hid ((HRVV.out.keep NB.out (Nat.le_refl _)).kb (show Kb gg V3 X from ⟨hkx.size, hkx.same gg (by omega) (by omega)⟩))
      have hplen := prL_len Z lv i pre
      have hsdl := sdL_le Z lv i pre
      have HLEN := Lib.hid (show (prN R C Z lv k ++ prL Z lv i pre).length < 4 * (R * C) by rw [List.length_append]; have := HCN.out; omega)
      have HSN := Lib.hid (prL_snoc Z lv i pre x)
      rw [HI.out] at HSN
      have hxc : x.1 < cnt := by rw [HCN.out]; exact x.2
      have HJX := Lib.hid hJx
      have HKX := Lib.hid hkx
      have HCX := Lib.hid hco
      have HLX := Lib.hid hlX
      have HIX := Lib.hid hiX
      have HYX := Lib.hid hyX
      obtain ⟨m0, m1, m2, m3⟩ := cells4 hlX
      have ci := one_cell hiX
      have cy := one_cell hyX
      obtain ⟨y, ey⟩ : ∃ y, x.1 = y := ⟨_, rfl⟩
      have HYE := Lib.hid ey
      rw [ey] at HSN hxc
      rw [ey]
      have hy49 : y ≤ 48 := by omega
      have hk48 : k ≤ 48 := by omega
      clear hJx hkx hco hlX hiX hyX ey hplen hsdl hle hlen
      by_cases hlx : k < y
      case neg =>
        have hd : decide ((k : Int) < (y : Int)) = false := by simp; omega
        have HS2 := Lib.hid (show prL Z lv i (pre ++ [x]) = prL Z lv i pre by rw [HSN.out, if_neg (fun h => by omega), List.append_nil])
        gi_wp2
        repeat (first | (refine ⟨trivial, ?_⟩; gi_wp2) | (refine ⟨trivial, (fun _ => by omega), ?_⟩; gi_wp2) | (refine ⟨fun _ h => (by cases h), ?_⟩; gi_wp2))
        exact ⟨KeepsFrom.refl _ _, ⟨Nat.le_refl _, rfl⟩, ⟨by rw [HS2.out]; exact HJX.out, HKX.out⟩, HCX.out⟩
      case pos =>
        have hd : decide ((k : Int) < (y : Int)) = true := by simp; omega
        by_cases hz1 : lv ≤ Z k
        case neg =>
          have HS2 := Lib.hid (show prL Z lv i (pre ++ [x]) = prL Z lv i pre by rw [HSN.out, if_neg (fun h => hz1 h.2.1), List.append_nil])
          have HIL := Lib.hid (isLand_no R C gg cap cnt Z lv k X HRX.out hlt (by omega) hz1)
          clear hz1
          gi_wp2_with fail
          refine ⟨trivial, (fun _ => by omega), ?_⟩
          gi_at_call 116
          refine ((callsIn_wide.2 HIL.out).inRound l2).mono ?_
          rintro e v0 ⟨rfl, hb0⟩
          have B0 := Lib.hid hb0
          clear hb0 m0 m1 m2 m3 ci cy
          gi_wp2
          repeat (first | (refine ⟨trivial, ?_⟩; gi_wp2) | (refine ⟨trivial, (fun _ => by omega), ?_⟩; gi_wp2) | (refine ⟨fun _ h => (by cases h), ?_⟩; gi_wp2))
          exact ⟨(others_below B0.out).from _, Kb.of_below B0.out (by omega), ⟨by rw [HS2.out]; exact own_below HJ.out HJX.out B0.out, HKX.out.trans (KqS.of_below B0.out)⟩, HCX.out.others (others_below B0.out)⟩
        case pos =>
          have HIL := Lib.hid (isLand_yes R C gg cap cnt Z lv k X HRX.out hlt (by omega) hz1)
          by_cases hz2 : lv ≤ Z y
          case neg =>
            have HS2 := Lib.hid (show prL Z lv i (pre ++ [x]) = prL Z lv i pre by rw [HSN.out, if_neg (fun h => hz2 h.2.2), List.append_nil])
            have HIN := Lib.hid (fun (U : World) (hU : Below X.heap.size X U) => isLand_no R C gg cap cnt Z lv y U (HRX.out.keep hU (Nat.le_refl _)) hxc (by omega) hz2)
            clear hz1 hz2
            gi_wp2_with fail
            refine ⟨trivial, (fun _ => by omega), ?_⟩
            gi_at_call 116
            refine ((callsIn_wide.2 HIL.out).inRound l2).mono ?_
            rintro e v0 ⟨rfl, hb0⟩
            have B0 := Lib.hid hb0
            have n0 := (hb0.cell (p := ⟨Bm, 0, none⟩) (by show Bm < _; omega)).trans m0
            have n1 := (hb0.cell (p := ⟨Bm, 1, none⟩) (by show Bm < _; omega)).trans m1
            have n2 := (hb0.cell (p := ⟨Bm, 2, none⟩) (by show Bm < _; omega)).trans m2
            have n3 := (hb0.cell (p := ⟨Bm, 3, none⟩) (by show Bm < _; omega)).trans m3
            clear hb0 m0 m1 m2 m3 ci cy
            gi_wp2_with fail
            refine ⟨trivial, (fun _ => by omega), ?_⟩
            gi_at_call 116
            refine ((callsIn_wide.2 (HIN.out v0 B0.out)).inRound l2).mono ?_
            rintro e v1 ⟨rfl, hb1⟩
            have B1 := Lib.hid (B0.out.trans (hb1.mono B0.out.size))
            clear hb1 n0 n1 n2 n3
            gi_wp2
            repeat (first | (refine ⟨trivial, ?_⟩; gi_wp2) | (refine ⟨trivial, (fun _ => by omega), ?_⟩; gi_wp2) | (refine ⟨fun _ h => (by cases h), ?_⟩; gi_wp2))
            exact ⟨(others_below B1.out).from _, Kb.of_below B1.out (by omega), ⟨by rw [HS2.out]; exact own_below HJ.out HJX.out B1.out, HKX.out.trans (KqS.of_below B1.out)⟩, HCX.out.others (others_below B1.out)⟩
          case pos =>
            have HS2 := Lib.hid (show prL Z lv i (pre ++ [x]) = prL Z lv i pre ++ [(i, x)] by rw [HSN.out, if_pos ⟨hlx, hz1, hz2⟩])
            have HIN := Lib.hid (fun (U : World) (hU : Below X.heap.size X U) => isLand_yes R C gg cap cnt Z lv y U (HRX.out.keep hU (Nat.le_refl _)) hxc (by omega) hz2)
            clear hz1 hz2
            gi_wp2_with fail
            refine ⟨trivial, (fun _ => by omega), ?_⟩
            gi_at_call 116
            refine ((callsIn_wide.2 HIL.out).inRound l2).mono ?_
            rintro e v0 ⟨rfl, hb0⟩
            have B0 := Lib.hid hb0
            have n0 := (hb0.cell (p := ⟨Bm, 0, none⟩) (by show Bm < _; omega)).trans m0
            have n1 := (hb0.cell (p := ⟨Bm, 1, none⟩) (by show Bm < _; omega)).trans m1
            have n2 := (hb0.cell (p := ⟨Bm, 2, none⟩) (by show Bm < _; omega)).trans m2
            have n3 := (hb0.cell (p := ⟨Bm, 3, none⟩) (by show Bm < _; omega)).trans m3
            clear hb0 m0 m1 m2 m3 ci cy
            gi_wp2_with fail
            refine ⟨trivial, (fun _ => by omega), ?_⟩
            gi_at_call 116
            refine ((callsIn_wide.2 (HIN.out v0 B0.out)).inRound l2).mono ?_
            rintro e v1 ⟨rfl, hb1⟩
            have hB1 := B0.out.trans (hb1.mono B0.out.size)
            have B1 := Lib.hid hB1
            have hs1 := hB1.size
            have ci := one_cell ((hB1.block V.heap.size (by omega)).trans HIX.out)
            have cy := one_cell ((hB1.block W.heap.size (by omega)).trans HYX.out)
            obtain ⟨fn, tmps, assign, body, hy, hRd⟩ := yield_round (l' := l2) (m' := n - 1 - 1 - 1) (HY.out (prN R C Z lv k ++ prL Z lv i pre) (i, x) v1 (own_below HJ.out HJX.out hB1) HLEN.out)
            simp only [pEnc] at hy
            rw [HI.out, HYE.out] at hy
            clear hb1 hB1 n0 n1 n2 n3
            gi_wp2
            refine ⟨(fun _ => by omega), ?_⟩
            refine hRd.mono ?_
            rintro e U ⟨rfl, hJ', hq⟩
            have HJ2 := Lib.hid hJ'
            have HQ2 := Lib.hid hq
            have hsU := hq.size
            clear hJ' hq hy hRd ci cy
            gi_wp2
            refine ⟨⟨by omega, fun q o hB ho _ => ?_⟩, ⟨by omega, ?_⟩, ⟨?_, (HKX.out.trans (KqS.of_below B1.out)).trans HQ2.out⟩, HCX.out.keep fun q o hN hB ho _ => ?_⟩
            · have hlq := (Array.getElem?_eq_some_iff.1 ho).1
              exact (HQ2.out.same q (by omega) (by omega)).trans ((B1.out.block q hlq).trans ho)
            · exact (HQ2.out.same _ (by omega) (by omega)).trans (B1.out.block _ (by omega))
            · rw [HS2.out, ← List.append_assoc]; exact HJ2.out
            · have hlq := (Array.getElem?_eq_some_iff.1 ho).1
              exact (HQ2.out.same q (by omega) (by omega)).trans ((B1.out.block q hlq).trans ho)
    case done =>
      rintro D ys X hD rfl ⟨⟨hJx, hkx⟩, hco⟩ hKD
      have hDlt := (Array.getElem?_eq_some_iff.1 hKD).1
      have G1 := Lib.hid (show J (prN R C Z lv (k + 1)) X by rw [HPR.out]; exact hJx)
      have G2 := Lib.hid ((HKQ.out.trans (KqS.of_below NB.out)).trans hkx)
      have G3 := Lib.hid ((hco.cons (by omega) (by omega) hKD).mono (N' := X.heap.size) (by omega))
      clear hJx hkx hco hKD
      gi_wp2
      refine HK.out _ _ ⟨k + 1, _, _, _, _, _, _, _, _, _, rfl, by omega, G1.out, G2.out, G3.out⟩ ?_
      simp [intOf]; omega
    case stop =>
      rintro D c pre X _ _ h _
      exact h.elim
  · have ek : k = cnt := by omega
    have hge : ¬ (k : Int) < cnt := by omega
    have HJE := Lib.hid (show J (prN R C Z lv (R * C)) V by rw [← HCN.out, ← ek]; exact hJk)
    clear hK hJk hkq hcoll ek
    gi_wp2
    exact HCO.out.leaves_own (J (prN R C Z lv (R * C))) (fun A D hD hA hJA => HJ.out.putObj _ hJA hD hA rfl) (fun W => results_none rfl _ _ _) HJE.out (fun W' hT => by first | exact ⟨⟨_, rfl⟩, _, rfl, hT⟩ | exact ⟨⟨_, rfl⟩, hT⟩ | exact hT)

end Go.Proofs.Ytcfeckpbjdipeaa

/- The count of sides in the program. -/
namespace Go.Proofs.Ytcfeckpbjdipeaa
open Go.RowKit Go.Shelf
set_option linter.unusedVariables false
attribute [local go_sem] Oper.semAt_some

set_option maxHeartbeats 1000000 in
set_option maxRecDepth 20000 in
theorem sides_any (R C gg cnt cap : Nat) (lv : Int) (w : World) :
    Calls Try.prog 113 #[.agg #[.int .i64 R, .int .i64 C, .slice (some ⟨gg, 0, none⟩) cnt cap, .int .i64 lv]] w fun e w' =>
      e = .returned (.func (.func 128) #[] #[.pointer (some ⟨w.heap.size, 0, none⟩)]) ∧ w' = w.alloc (.cells #[.int .i64 R, .int .i64 C, .slice (some ⟨gg, 0, none⟩) cnt cap, .int .i64 lv] 65) := by
  go_enter Try.func113, Try.ntmps113
  go_wp2
  go_ret
  exact ⟨rfl, rfl⟩

theorem kqs_put {Bm gg n : Nat} (h1 : Bm < n) (h2 : gg < n) (s : Nat) (W : World) (l : Nat) (o' : Obj) (hl : n ≤ l) (hs : l < s) : KqS Bm gg s W (W.putObj l o') :=
  ⟨by simp, fun k hk hlt => World.putObj_heap_other (by omega)⟩

end Go.Proofs.Ytcfeckpbjdipeaa

/- Land, shore, sides, corners and their sum in the model, by contract. -/
namespace Go.Proofs.Ytcfeckpbjdipeaa
open Go.RowKit
set_option linter.unusedVariables false

noncomputable def G.lvB (g : G) (lv : Int) : Bool := @decide (g.LvOk lv) (Classical.propDecidable _)
theorem G.lvB_yes {g : G} {lv : Int} (h : g.LvOk lv) : g.lvB lv = true := by simp [G.lvB, h]
theorem G.lvB_no {g : G} {lv : Int} (h : ¬ g.LvOk lv) : g.lvB lv = false := by simp [G.lvB, h]

set_option maxHeartbeats 1000000 in
set_option maxRecDepth 20000 in
theorem l3Ok_any (v : Value) (lo hi : Nat) (g : G) (lv : Int) (w : World) (hv : RdM lo hi w v g) :
    Calls Try.prog 89 #[v, .int .i64 lv] w (EqPost (g.lvB lv) w) := by
  have HV := Lib.hid (specValid_any v lo hi g w hv)
  by_cases h : g.Valid
  case neg =>
    have HB := Lib.hid (G.vB_no h)
    have HC := Lib.hid (G.lvB_no (g := g) (lv := lv) (fun hc => h hc.1))
    clear hv h
    go_enter Try.func89, Try.ntmps89
    go_wp2_with fail
    refine HV.out.mono ?_
    rintro e w1 ⟨rfl, n1, rfl⟩
    rw [HB.out]
    go_wp2
    go_ret
    exact eq_post HC.out _ _
  case pos =>
    have HB := Lib.hid (G.vB_yes h)
    by_cases hl : 0 ≤ lv ∧ lv ≤ 99
    case neg =>
      have HC := Lib.hid (G.lvB_no (g := g) (lv := lv) (fun hc => hl hc.2))
      have HL := Lib.hid hl
      clear hv h hl
      go_enter Try.func89, Try.ntmps89
      go_wp2_with fail
      refine HV.out.mono ?_
      rintro e w1 ⟨rfl, n1, rfl⟩
      rw [HB.out]
      go_wp2_with fail
      refine (l6In_no _ _ _ _ (by have := HL.out; omega)).mono ?_
      rintro e w' ⟨rfl, rfl⟩
      go_wp2
      go_ret
      exact eq_post HC.out _ _
    case pos =>
      have HC := Lib.hid (G.lvB_yes (g := g) (lv := lv) ⟨h, hl⟩)
      obtain ⟨hl1, hl2⟩ := hl
      clear hv h
      go_enter Try.func89, Try.ntmps89
      go_wp2_with fail
      refine HV.out.mono ?_
      rintro e w1 ⟨rfl, n1, rfl⟩
      rw [HB.out]
      go_wp2_with fail
      refine (l6In_yes _ _ _ _ hl1 hl2).mono ?_
      rintro e w' ⟨rfl, rfl⟩
      go_wp2
      go_ret
      exact eq_post HC.out _ _

end Go.Proofs.Ytcfeckpbjdipeaa
