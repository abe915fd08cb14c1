/- The climbs of a thinned profile. -/
import Derived.Test.YtmfdflkpbejpoaaThR
import Derived.Test.YtmfdflkpbejpoaaPrC
namespace Go.Proofs.Ytmfdflkpbejpoaa
open Go.RowKit
set_option linter.unusedVariables false

/-- the heights at the points -/
def hgP (Z Y : Nat → Int) (m : Nat) (i : Nat) : Int := nsZ (fnL (hgF Z Y) m) i
theorem hgP_at (Z Y : Nat → Int) (m i : Nat) (h : i < m) : hgP Z Y m i = Z (Y i).toNat := fnL_z _ _ _ h
theorem upV_step (Z : Nat → Int) (a : Nat) : ∀ b, a ≤ b → upV Z a ≤ upV Z b ∧ upV Z a + (Z b - Z a) ≤ upV Z b := by
  intro b
  induction b with
  | zero =>
    intro h
    obtain rfl : a = 0 := Nat.le_zero.1 h
    exact ⟨Int.le_refl _, by rw [Int.sub_self, Int.add_zero]; exact Int.le_refl _⟩
  | succ b ih =>
    intro h
    by_cases e : a = b + 1
    · subst e; omega
    · have h1 := ih (by omega)
      have h2 : upV Z (b + 1) = upV Z b + max 0 (Z (b + 1) - Z b) := rfl
      omega
theorem dnV_step (Z : Nat → Int) (a : Nat) : ∀ b, a ≤ b → dnV Z a ≤ dnV Z b ∧ dnV Z a + (Z a - Z b) ≤ dnV Z b := by
  intro b
  induction b with
  | zero =>
    intro h
    obtain rfl : a = 0 := Nat.le_zero.1 h
    exact ⟨Int.le_refl _, by rw [Int.sub_self, Int.add_zero]; exact Int.le_refl _⟩
  | succ b ih =>
    intro h
    by_cases e : a = b + 1
    · subst e; omega
    · have h1 := ih (by omega)
      have h2 : dnV Z (b + 1) = dnV Z b + max 0 (Z b - Z (b + 1)) := rfl
      omega
theorem up_sub {n : Nat} {Z : Nat → Int} {m : Nat} {Y : Nat → Int} (h : ThOk n Z m Y) : ∀ t, t < m → upV (hgP Z Y m) t ≤ upV Z (Y t).toNat ∧ dnV (hgP Z Y m) t ≤ dnV Z (Y t).toNat := by
  intro t
  induction t with
  | zero =>
    intro _
    rw [h.2.2.1]
    exact ⟨Int.le_refl _, Int.le_refl _⟩
  | succ t ih =>
    intro ht
    have h1 := ih (by omega)
    have h2 : upV (hgP Z Y m) (t + 1) = upV (hgP Z Y m) t + max 0 (hgP Z Y m (t + 1) - hgP Z Y m t) := rfl
    have h3 : dnV (hgP Z Y m) (t + 1) = dnV (hgP Z Y m) t + max 0 (hgP Z Y m t - hgP Z Y m (t + 1)) := rfl
    rw [hgP_at _ _ _ _ ht, hgP_at _ _ _ _ (show t < m by omega)] at h2 h3
    have hg := (h.gap t ht).1
    have h4 := upV_step Z (Y t).toNat (Y (t + 1)).toNat (by omega)
    have h5 := dnV_step Z (Y t).toNat (Y (t + 1)).toNat (by omega)
    omega
theorem up_thin {n : Nat} {Z : Nat → Int} {m : Nat} {Y : Nat → Int} (h : ThOk n Z m Y) : upV (hgP Z Y m) (m - 1) ≤ upV Z (n - 1) ∧ dnV (hgP Z Y m) (m - 1) ≤ dnV Z (n - 1) := by
  have h1 := h.2.1
  have h2 := up_sub h (m - 1) (by omega)
  have h3 := h.1.1.1
  rw [h.2.2.2.1, show ((n : Int) - 1).toNat = n - 1 by omega] at h2
  exact h2
theorem hgP_ok {n : Nat} {Z : Nat → Int} {m : Nat} {Y : Nat → Int} (h : ThOk n Z m Y) : PrOk m (hgP Z Y m) := by
  have h1 := h.len
  have h2 := h.1.1
  refine ⟨⟨h.2.1, by omega⟩, fun i hi => ?_⟩
  rw [hgP_at _ _ _ _ hi]
  exact hgF_rng h i hi

theorem implTP_yes (v u : Value) (lo hi lo2 hi2 n m : Nat) (Z Y : Nat → Int) (w : World) (hv : RdI lo hi w v n Z) (hu : RdI lo2 hi2 w u m Y) (hh : hi ≤ w.heap.size) (hh2 : hi2 ≤ w.heap.size) (hm : m ≤ 1048576) (h : ThOk n Z m Y) : Calls Try.prog 39 #[v, u] w (LgPost true m (hgP Z Y m) w) := by
  have h1 := implThinProfile_any v u lo hi lo2 hi2 n m Z Y w hv hu hh hh2 hm
  rw [thB_yes h, thP_yes h] at h1
  refine h1.mono fun _ _ k => ?_
  have h2 := NbPost.lg k (by have := thP_ok n Z m Y; rw [thP_yes h] at this; exact this)
  rw [fnL_len] at h2
  exact h2
theorem specTP_yes (v u : Value) (lo hi lo2 hi2 n m : Nat) (Z Y : Nat → Int) (w : World) (hv : RdI lo hi w v n Z) (hu : RdI lo2 hi2 w u m Y) (hh : hi ≤ w.heap.size) (hh2 : hi2 ≤ w.heap.size) (hn : n ≤ 1048576) (hm : m ≤ 1048576) (h : ThOk n Z m Y) : Calls Try.prog 40 #[v, u] w (LsPost true m (hgP Z Y m) w) := by
  have h1 := specThinProfile_any v u lo hi lo2 hi2 n m Z Y w hv hu hh hh2 hn hm
  rw [thB_yes h, thP_yes h] at h1
  refine h1.mono fun _ _ k => ?_
  have h2 := NbPost.ls k (by have := thP_ok n Z m Y; rw [thP_yes h] at this; exact this)
  rw [fnL_len] at h2
  exact h2
theorem implTP_no (v u : Value) (lo hi lo2 hi2 n m : Nat) (Z Y : Nat → Int) (w : World) (hv : RdI lo hi w v n Z) (hu : RdI lo2 hi2 w u m Y) (hh : hi ≤ w.heap.size) (hh2 : hi2 ≤ w.heap.size) (hm : m ≤ 1048576) (h : ¬ ThOk n Z m Y) : Calls Try.prog 39 #[v, u] w (LgPost false 0 (nsZ []) w) := by
  have h1 := implThinProfile_any v u lo hi lo2 hi2 n m Z Y w hv hu hh hh2 hm
  rw [thB_no h, thP_no h] at h1
  exact h1.mono fun _ _ k => NbPost.lg k (fun x hx => by simp at hx)
theorem specTP_no (v u : Value) (lo hi lo2 hi2 n m : Nat) (Z Y : Nat → Int) (w : World) (hv : RdI lo hi w v n Z) (hu : RdI lo2 hi2 w u m Y) (hh : hi ≤ w.heap.size) (hh2 : hi2 ≤ w.heap.size) (hn : n ≤ 1048576) (hm : m ≤ 1048576) (h : ¬ ThOk n Z m Y) : Calls Try.prog 40 #[v, u] w (LsPost false 0 (nsZ []) w) := by
  have h1 := specThinProfile_any v u lo hi lo2 hi2 n m Z Y w hv hu hh hh2 hn hm
  rw [thB_no h, thP_no h] at h1
  exact h1.mono fun _ _ k => NbPost.ls k (fun x hx => by simp at hx)

end Go.Proofs.Ytmfdflkpbejpoaa
