/- Pairs seen in a grid: turned, mirrored and raised; neighbors counted. -/
import Derived.Test.YtgcebhmenffbjabPrN
import Derived.Test.YtgcebhmenffbjabPNearB
namespace Go.Proofs.Ytgcebhmenffbjab
open Go.RowKit
set_option linter.unusedVariables false

theorem grN_congr {f f' : Nat → Nat → Int} {m : Nat} : ∀ k, (∀ r, r < k → ∀ c, c < m → f r c = f' r c) → grN f m k = grN f' m k := by
  intro k
  induction k with
  | zero => intro _; rfl
  | succ k ih => intro h; simp only [grN]; rw [ih (fun r hr => h r (by omega)), prN_ext (fun c hc => h k (by omega) c hc)]
/-- each row turned over -/
theorem grN_rows (f : Nat → Nat → Int) (m : Nat) : ∀ k, grN (fun r => revZ (m - 1) (f r)) m k = grN f m k := by
  intro k
  induction k with
  | zero => rfl
  | succ k ih => simp only [grN]; rw [ih, prN_rev]
theorem grN_head (f : Nat → Nat → Int) (m : Nat) : ∀ k, grN f m (k + 1) = prN (f 0) m + grN (fun r => f (r + 1)) m k := by
  intro k
  induction k with
  | zero => simp [grN]
  | succ k ih =>
    have h1 : grN f m (k + 1 + 1) = grN f m (k + 1) + prN (f (k + 1)) m := rfl
    have h2 : grN (fun r => f (r + 1)) m (k + 1) = grN (fun r => f (r + 1)) m k + prN (f (k + 1)) m := rfl
    rw [h1, h2, ih]; omega
/-- the order of the rows turned over -/
theorem grN_turn (m : Nat) : ∀ k (f : Nat → Nat → Int), grN (fun r => f (k - 1 - r)) m k = grN f m k := by
  intro k
  induction k with
  | zero => intro f; rfl
  | succ k ih =>
    intro f
    have h1 : grN (fun r => f (k + 1 - 1 - r)) m (k + 1) = grN (fun r => f (k + 1 - 1 - r)) m k + prN (f (k + 1 - 1 - k)) m := rfl
    have h2 : grN (fun r => f (k + 1 - 1 - r)) m k = grN (fun r => (fun i => f (i + 1)) (k - 1 - r)) m k := grN_congr k (fun r hr c _ => by
      show f (k + 1 - 1 - r) c = f (k - 1 - r + 1) c
      rw [show k + 1 - 1 - r = k - 1 - r + 1 by omega])
    rw [h1, h2, ih (fun i => f (i + 1)), grN_head, show k + 1 - 1 - k = 0 by omega]
    omega
theorem und_shift (z : Nat → Int) (t : Int) (a b j : Nat) (ha hb : Int) : Und (fun i => z i + t) a (ha + t) b (hb + t) j ↔ Und z a ha b hb j := by
  show (z j + t) * ((b : Int) - a) ≤ (ha + t) * ((b : Int) - j) + (hb + t) * ((j : Int) - a) ↔ z j * ((b : Int) - a) ≤ ha * ((b : Int) - j) + hb * ((j : Int) - a)
  have e : (ha + t) * ((b : Int) - j) + (hb + t) * ((j : Int) - a) - (z j + t) * ((b : Int) - a) = ha * ((b : Int) - j) + hb * ((j : Int) - a) - z j * ((b : Int) - a) := by
    simp only [Int.add_mul]
    have e1 : t * ((b : Int) - a) = t * ((b : Int) - j) + t * ((j : Int) - a) := by rw [← Int.mul_add]; congr 1; omega
    omega
  constructor <;> intro h <;> omega
theorem sees_shift (z : Nat → Int) (t : Int) (i k : Nat) : Sees (fun i => z i + t) i k 0 ↔ Sees z i k 0 := by
  unfold Sees Free
  simp only [Int.add_zero]
  constructor
  · rintro ⟨a, b⟩
    exact ⟨fun g j h1 h2 => (und_shift z t i k j _ _).1 (a g j h1 h2), fun g j h1 h2 => (und_shift z t k i j _ _).1 (b g j h1 h2)⟩
  · rintro ⟨a, b⟩
    exact ⟨fun g j h1 h2 => (und_shift z t i k j _ _).2 (a g j h1 h2), fun g j h1 h2 => (und_shift z t k i j _ _).2 (b g j h1 h2)⟩
theorem grN_shift (f : Nat → Nat → Int) (t : Int) (m : Nat) : ∀ k, grN (fun r c => f r c + t) m k = grN f m k := by
  intro k
  induction k with
  | zero => rfl
  | succ k ih => simp only [grN]; rw [ih, prN_congr (z := fun c => f k c + t) (z' := f k) m (fun a b _ _ => sees_shift (f k) t a b)]

theorem gsV_turn {g : G} (h : g.Valid) : (turnG g).gsV = g.gsV := by
  rw [G.gsV_yes h, G.gsV_yes (turn_valid h)]
  have h1 : grN (turnG (turnG g)).z (turnG g).n ((turnG g).len 0) = grN g.z (g.len 0) g.n := by
    show grN (turnG (turnG g)).z (g.len 0) g.n = _
    have e : grN (turnG (turnG g)).z (g.len 0) g.n = grN (fun r => (fun i => revZ (g.len 0 - 1) (g.z i)) (g.n - 1 - r)) (g.len 0) g.n := grN_congr g.n (fun r hr c hc => rfl)
    rw [e, grN_turn (g.len 0) g.n (fun i => revZ (g.len 0 - 1) (g.z i)), grN_rows]
  show (grN (turnG g).z g.n (g.len 0) : Int) + _ = _
  rw [h1]; omega
theorem gsV_mirror {g : G} (h : g.Valid) : (mirrorG g).gsV = g.gsV := by
  rw [G.gsV_yes h, G.gsV_yes (mirror_valid h)]
  have h1 : grN (mirrorG g).z ((mirrorG g).len 0) (mirrorG g).n = grN g.z (g.len 0) g.n := grN_rows g.z (g.len 0) g.n
  have h2 : grN (turnG (mirrorG g)).z (mirrorG g).n ((mirrorG g).len 0) = grN (turnG g).z g.n (g.len 0) := grN_turn g.n (g.len 0) (turnG g).z
  rw [h1, h2]
theorem gsV_raise {g : G} (h : g.Valid) (k : Int) (hr : (raiseG g k).Valid) : (raiseG g k).gsV = g.gsV := by
  rw [G.gsV_yes h, G.gsV_yes hr]
  have h1 : grN (raiseG g k).z ((raiseG g k).len 0) (raiseG g k).n = grN g.z (g.len 0) g.n := grN_shift g.z k (g.len 0) g.n
  have h2 : grN (turnG (raiseG g k)).z (raiseG g k).n ((raiseG g k).len 0) = grN (turnG g).z g.n (g.len 0) := grN_shift (turnG g).z k g.n (g.len 0)
  rw [h1, h2]
theorem grN_ge (f : Nat → Nat → Int) (m : Nat) (hm : 1 ≤ m) : ∀ k, k * (m - 1) ≤ grN f m k := by
  intro k
  induction k with
  | zero => simp
  | succ k ih =>
    obtain ⟨q, rfl⟩ : ∃ q, m = q + 1 := ⟨m - 1, by omega⟩
    have h := prN_ge (f k) q
    simp only [grN, Nat.add_sub_cancel] at *
    rw [Nat.succ_mul]; omega
theorem gsV_ge {g : G} (h : g.Valid) : ((g.n * (g.len 0 - 1) + g.len 0 * (g.n - 1) : Nat) : Int) ≤ g.gsV := by
  rw [G.gsV_yes h]
  have h1 := grN_ge g.z (g.len 0) h.2.1.1 g.n
  have h2 := grN_ge (turnG g).z g.n h.1.1 (g.len 0)
  omega
theorem gsV_le {g : G} (h : g.Valid) : 0 ≤ g.gsV ∧ g.gsV ≤ 700 := by
  rw [G.gsV_yes h]
  have h1 := grN_le g.z (g.len 0) h.2.1.2 g.n
  have h2 := grN_le (turnG g).z g.n h.1.2 (g.len 0)
  have := h.1.2
  have := h.2.1.2
  omega

/-- how many neighbors the cell i has -/
def degN (R C i : Nat) : Nat := (if C ≤ i then 1 else 0) + (if i % C + 1 < C then 1 else 0) + (if i + C < R * C then 1 else 0) + (if 0 < i % C then 1 else 0)
def sumD (R C : Nat) : Nat → Nat
  | 0 => 0
  | k + 1 => sumD R C k + degN R C k
theorem near_deg (R C : Nat) (i : Ix (R * C)) : (near R C i 4).length = degN R C i.1 := by
  have h : ∀ k, (nb R C i k).toList.length = if (nb R C i k).isSome then 1 else 0 := fun k => by cases nb R C i k <;> simp
  rw [near_succ, near_succ, near_succ, near_succ]
  simp only [List.length_append, h]
  unfold degN nb
  have e : (near R C i 0).length = 0 := rfl
  rw [e]
  simp only [Nat.zero_ne_one, if_true, if_false]
  split <;> split <;> split <;> split <;> simp_all
theorem sumD_all : ∀ R, R < 8 → ∀ C, C < 8 → sumD R C (R * C) ≤ 2 * (R * (C - 1) + C * (R - 1)) := by decide +kernel

end Go.Proofs.Ytgcebhmenffbjab
