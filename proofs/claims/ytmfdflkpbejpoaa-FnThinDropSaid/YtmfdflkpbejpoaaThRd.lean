/- A point dropped: errors and climbs. -/
import Derived.Test.YtmfdflkpbejpoaaThRb
import Derived.Test.YtmfdflkpbejpoaaThD
import Derived.Test.YtmfdflkpbejpoaaThE
namespace Go.Proofs.Ytmfdflkpbejpoaa
open Go.RowKit
set_option linter.unusedVariables false

/-- the points without the one at the place k -/
def dpY (m : Nat) (y : Nat → Int) (k : Nat) (i : Nat) : Int := nsZ (fnL (dpF y k) (m - 1)) i
theorem dpY_lo (m : Nat) (y : Nat → Int) (k i : Nat) (h : i + 1 < m) (hk : i < k) : dpY m y k i = y i := by
  unfold dpY
  rw [fnL_z _ _ _ (by omega), dpF, if_pos hk]
theorem dpY_hi (m : Nat) (y : Nat → Int) (k i : Nat) (h : i + 1 < m) (hk : ¬ i < k) : dpY m y k i = y (i + 1) := by
  unfold dpY
  rw [fnL_z _ _ _ (by omega), dpF, if_neg hk]
theorem dp_ok {n : Nat} {z : Nat → Int} {m : Nat} {y : Nat → Int} {k : Nat} (h : ThOk n z m y) (h1 : 1 ≤ k) (h2 : k + 2 ≤ m) : ThOk n z (m - 1) (dpY m y k) := by
  refine ⟨h.1, by omega, ?_, ?_, fun i hi => ?_⟩
  · rw [dpY_lo _ _ _ _ (by omega) (by omega)]; exact h.2.2.1
  · rw [dpY_hi _ _ _ _ (by omega) (by omega), show m - 1 - 1 + 1 = m - 1 by omega]; exact h.2.2.2.1
  · by_cases e : i + 1 < k
    · rw [dpY_lo _ _ _ _ (by omega) (by omega), dpY_lo _ _ _ _ (by omega) e]
      exact h.2.2.2.2 i (by omega)
    · by_cases e2 : i < k
      · rw [dpY_lo _ _ _ _ (by omega) e2, dpY_hi _ _ _ _ (by omega) e]
        have a := h.2.2.2.2 i (by omega)
        have b := h.2.2.2.2 (i + 1) (by omega)
        omega
      · rw [dpY_hi _ _ _ _ (by omega) e2, dpY_hi _ _ _ _ (by omega) e]
        exact h.2.2.2.2 (i + 1) (by omega)
theorem gP_lo {Z Y : Nat → Int} {m k : Nat} (i : Nat) (h : i + 1 < m) (hk : i < k) : hgP Z (dpY m Y k) (m - 1) i = hgP Z Y m i := by
  rw [hgP_at _ _ _ _ (by omega), hgP_at _ _ _ _ (by omega), dpY_lo _ _ _ _ h hk]
theorem gP_hi {Z Y : Nat → Int} {m k : Nat} (i : Nat) (h : i + 1 < m) (hk : ¬ i < k) : hgP Z (dpY m Y k) (m - 1) i = hgP Z Y m (i + 1) := by
  rw [hgP_at _ _ _ _ (by omega), hgP_at _ _ _ _ (by omega), dpY_hi _ _ _ _ h hk]
theorem up_lo {Z Y : Nat → Int} {m k : Nat} : ∀ t, t + 1 < m → t < k → upV (hgP Z (dpY m Y k) (m - 1)) t = upV (hgP Z Y m) t ∧ dnV (hgP Z (dpY m Y k) (m - 1)) t = dnV (hgP Z Y m) t := by
  intro t
  induction t with
  | zero => intro _ _; exact ⟨rfl, rfl⟩
  | succ t ih =>
    intro h1 h2
    obtain ⟨a, b⟩ := ih (by omega) (by omega)
    simp only [upV, dnV]
    rw [a, b, gP_lo (t + 1) h1 h2, gP_lo t (by omega) (by omega)]
    exact ⟨rfl, rfl⟩
/-- what the point k adds to the climbs -/
def adU (F : Nat → Int) (k : Nat) : Int := max 0 (F k - F (k - 1)) + max 0 (F (k + 1) - F k) - max 0 (F (k + 1) - F (k - 1))
def adD (F : Nat → Int) (k : Nat) : Int := max 0 (F (k - 1) - F k) + max 0 (F k - F (k + 1)) - max 0 (F (k - 1) - F (k + 1))
theorem ad_pos (F : Nat → Int) (k : Nat) : 0 ≤ adU F k ∧ 0 ≤ adD F k := by unfold adU adD; omega
theorem up_hi {Z Y : Nat → Int} {m k : Nat} (hk : 1 ≤ k) : ∀ t, k + t + 1 < m → upV (hgP Z (dpY m Y k) (m - 1)) (k + t) + adU (hgP Z Y m) k = upV (hgP Z Y m) (k + t + 1) ∧ dnV (hgP Z (dpY m Y k) (m - 1)) (k + t) + adD (hgP Z Y m) k = dnV (hgP Z Y m) (k + t + 1) := by
  intro t
  induction t with
  | zero =>
    intro h1
    obtain ⟨k', rfl⟩ : ∃ k', k = k' + 1 := ⟨k - 1, by omega⟩
    obtain ⟨a, b⟩ := up_lo (Z := Z) (Y := Y) (m := m) (k := k' + 1) k' (by omega) (by omega)
    simp only [upV, dnV]
    rw [a, b, gP_hi (k' + 1) (by omega) (by omega), gP_lo k' (by omega) (by omega)]
    unfold adU adD
    rw [show k' + 1 - 1 = k' by omega]
    omega
  | succ t ih =>
    intro h1
    obtain ⟨a, b⟩ := ih (by omega)
    have e1 : upV (hgP Z (dpY m Y k) (m - 1)) (k + (t + 1)) = upV (hgP Z (dpY m Y k) (m - 1)) (k + t) + max 0 (hgP Z (dpY m Y k) (m - 1) (k + t + 1) - hgP Z (dpY m Y k) (m - 1) (k + t)) := rfl
    have e2 : dnV (hgP Z (dpY m Y k) (m - 1)) (k + (t + 1)) = dnV (hgP Z (dpY m Y k) (m - 1)) (k + t) + max 0 (hgP Z (dpY m Y k) (m - 1) (k + t) - hgP Z (dpY m Y k) (m - 1) (k + t + 1)) := rfl
    have e3 : upV (hgP Z Y m) (k + (t + 1) + 1) = upV (hgP Z Y m) (k + t + 1) + max 0 (hgP Z Y m (k + t + 1 + 1) - hgP Z Y m (k + t + 1)) := rfl
    have e4 : dnV (hgP Z Y m) (k + (t + 1) + 1) = dnV (hgP Z Y m) (k + t + 1) + max 0 (hgP Z Y m (k + t + 1) - hgP Z Y m (k + t + 1 + 1)) := rfl
    rw [gP_hi (k + t + 1) (by omega) (by omega), gP_hi (k + t) (by omega) (by omega)] at e1 e2
    omega
theorem up_drop {Z Y : Nat → Int} {m k : Nat} (h1 : 1 ≤ k) (h2 : k + 2 ≤ m) : upV (hgP Z (dpY m Y k) (m - 1)) (m - 1 - 1) + adU (hgP Z Y m) k = upV (hgP Z Y m) (m - 1) ∧ dnV (hgP Z (dpY m Y k) (m - 1)) (m - 1 - 1) + adD (hgP Z Y m) k = dnV (hgP Z Y m) (m - 1) := by
  have h := up_hi (Z := Z) (Y := Y) (m := m) h1 (m - 2 - k) (by omega)
  rw [show k + (m - 2 - k) = m - 1 - 1 by omega, show m - 1 - 1 + 1 = m - 1 by omega] at h
  exact h
theorem btw {a b c p q : Int} (hp : 0 < p) (hq : 0 < q) (h : b * (p + q) - a * q - c * p = 0) : (a ≤ b ∧ b ≤ c) ∨ (c ≤ b ∧ b ≤ a) := by
  have e1 : (b - a) * q = (c - b) * p := by
    rw [Int.sub_mul, Int.sub_mul]
    rw [Int.mul_add] at h
    omega
  by_cases h1 : a ≤ b
  · have h2 := Int.mul_nonneg (show 0 ≤ b - a by omega) (Int.le_of_lt hq)
    rw [e1] at h2
    have h3 : 0 ≤ c - b := by
      by_cases h4 : 0 ≤ c - b
      · exact h4
      · have := Int.mul_neg_of_neg_of_pos (show c - b < 0 by omega) hp
        omega
    exact Or.inl ⟨h1, by omega⟩
  · have h2 := Int.mul_neg_of_neg_of_pos (show b - a < 0 by omega) hq
    rw [e1] at h2
    have h3 : c - b < 0 := by
      by_cases h4 : 0 ≤ c - b
      · have := Int.mul_nonneg h4 (Int.le_of_lt hp)
        omega
      · omega
    exact Or.inr ⟨by omega, by omega⟩
theorem dp_straight {n : Nat} {z : Nat → Int} {m : Nat} {y : Nat → Int} {k : Nat} (h : ThOk n z m y) (h1 : 1 ≤ k) (h2 : k + 2 ≤ m) (h0 : thE n z (m - 1) (dpY m y k) = 0) : adU (hgP z y m) k = 0 ∧ adD (hgP z y m) k = 0 := by
  rw [thE_yes (dp_ok h h1 h2)] at h0
  have h3 := ((erL_le z (dpY m y k) 0 (m - 1 - 1)).1 (by omega)).2 (k - 1) (by omega)
  rw [dpY_lo _ _ _ _ (by omega) (by omega), dpY_hi _ _ _ _ (by omega) (by omega), show k - 1 + 1 = k by omega] at h3
  obtain ⟨a, ea, ha, _⟩ := h.nat (k - 1) (by omega)
  obtain ⟨b, eb, hb, _⟩ := h.nat k (by omega)
  obtain ⟨c, ec, hc, _⟩ := h.nat (k + 1) (by omega)
  have g1 := h.2.2.2.2 (k - 1) (by omega)
  have g2 := h.2.2.2.2 k (by omega)
  rw [show k - 1 + 1 = k by omega] at g1
  rw [ea, ec, Int.toNat_natCast, Int.toNat_natCast] at h3
  have h4 := ((erB_le (by omega) 0).1 h3).2 b (by omega) (by omega)
  have h5 := (erJ_le (by omega) 0).1 h4
  rw [Int.zero_mul] at h5
  have h6 : z b * (((b : Int) - a) + ((c : Int) - b)) - z a * ((c : Int) - b) - z c * ((b : Int) - a) = 0 := by
    rw [show ((b : Int) - a) + ((c : Int) - b) = (c : Int) - a by omega]
    have h7 : erD z a b c = z b * ((c : Int) - a) - z a * ((c : Int) - b) - z c * ((b : Int) - a) := rfl
    omega
  have h8 := btw (by omega) (by omega) h6
  unfold adU adD
  rw [hgP_at _ _ _ _ (by omega), hgP_at _ _ _ _ (by omega), hgP_at _ _ _ _ (by omega), ea, eb, ec, Int.toNat_natCast, Int.toNat_natCast, Int.toNat_natCast]
  omega

theorem implTD_yes (v u : Value) (lo hi lo2 hi2 n m : Nat) (Z Y : Nat → Int) (k : Nat) (w : World) (hv : RdI lo hi w v n Z) (hu : RdI lo2 hi2 w u m Y) (hh2 : hi2 ≤ w.heap.size) (hm : m ≤ 1048576) (h : DrOk n Z m Y k) : Calls Try.prog 31 #[v, u, .int .i64 k] w (LgPost true (m - 1) (dpY m Y k) w) := by
  have h1 := implThinDrop_any v u lo hi lo2 hi2 n m Z Y k w hv hu hh2 hm
  rw [drB_yes h, dpV_yes h] at h1
  refine h1.mono fun _ _ q => ?_
  have h2 := NbPost.lg q (by have := dpV_ok n Z m Y k; rw [dpV_yes h] at this; exact this)
  rw [fnL_len] at h2
  exact h2
theorem specTD_yes (v u : Value) (lo hi lo2 hi2 n m : Nat) (Z Y : Nat → Int) (k : Nat) (w : World) (hv : RdI lo hi w v n Z) (hu : RdI lo2 hi2 w u m Y) (hh : hi ≤ w.heap.size) (hh2 : hi2 ≤ w.heap.size) (hn : n ≤ 1048576) (hm : m ≤ 1048576) (h : DrOk n Z m Y k) : Calls Try.prog 46 #[v, u, .int .i64 k] w (LsPost true (m - 1) (dpY m Y k) w) := by
  have h1 := specThinDrop_any v u lo hi lo2 hi2 n m Z Y k w hv hu hh hh2 hn hm
  rw [drB_yes h, dpV_yes h] at h1
  refine h1.mono fun _ _ q => ?_
  have h2 := NbPost.ls q (by have := dpV_ok n Z m Y k; rw [dpV_yes h] at this; exact this)
  rw [fnL_len] at h2
  exact h2
theorem implTD_no (v u : Value) (lo hi lo2 hi2 n m : Nat) (Z Y : Nat → Int) (k : Int) (w : World) (hv : RdI lo hi w v n Z) (hu : RdI lo2 hi2 w u m Y) (hh2 : hi2 ≤ w.heap.size) (hm : m ≤ 1048576) (h : ¬ DrOk n Z m Y k) : Calls Try.prog 31 #[v, u, .int .i64 k] w (LgPost false 0 (nsZ []) w) := by
  have h1 := implThinDrop_any v u lo hi lo2 hi2 n m Z Y k w hv hu hh2 hm
  rw [drB_no h, dpV_no h] at h1
  exact h1.mono fun _ _ q => NbPost.lg q (fun x hx => by simp at hx)
theorem specTD_no (v u : Value) (lo hi lo2 hi2 n m : Nat) (Z Y : Nat → Int) (k : Int) (w : World) (hv : RdI lo hi w v n Z) (hu : RdI lo2 hi2 w u m Y) (hh : hi ≤ w.heap.size) (hh2 : hi2 ≤ w.heap.size) (hn : n ≤ 1048576) (hm : m ≤ 1048576) (h : ¬ DrOk n Z m Y k) : Calls Try.prog 46 #[v, u, .int .i64 k] w (LsPost false 0 (nsZ []) w) := by
  have h1 := specThinDrop_any v u lo hi lo2 hi2 n m Z Y k w hv hu hh hh2 hn hm
  rw [drB_no h, dpV_no h] at h1
  exact h1.mono fun _ _ q => NbPost.ls q (fun x hx => by simp at hx)

theorem implTD_m (v u : Value) (lo hi lo2 hi2 n m M : Nat) (Z Y Yd : Nat → Int) (k : Nat) (w : World) (hv : RdI lo hi w v n Z) (hu : RdI lo2 hi2 w u m Y) (hh2 : hi2 ≤ w.heap.size) (hm : m ≤ 1048576) (h : DrOk n Z m Y k) (hM : M + 1 = m) (hY : dpY m Y k = Yd) : Calls Try.prog 31 #[v, u, .int .i64 k] w (LgPost true M Yd w) := by
  subst hM hY
  exact implTD_yes v u lo hi lo2 hi2 n (M + 1) Z Y k w hv hu hh2 hm h
theorem specTD_m (v u : Value) (lo hi lo2 hi2 n m M : Nat) (Z Y Yd : Nat → Int) (k : Nat) (w : World) (hv : RdI lo hi w v n Z) (hu : RdI lo2 hi2 w u m Y) (hh : hi ≤ w.heap.size) (hh2 : hi2 ≤ w.heap.size) (hn : n ≤ 1048576) (hm : m ≤ 1048576) (h : DrOk n Z m Y k) (hM : M + 1 = m) (hY : dpY m Y k = Yd) : Calls Try.prog 46 #[v, u, .int .i64 k] w (LsPost true M Yd w) := by
  subst hM hY
  exact specTD_yes v u lo hi lo2 hi2 n (M + 1) Z Y k w hv hu hh hh2 hn hm h
theorem implClimb_l (v : Value) (lo hi n : Nat) (Z : Nat → Int) (U D : Int) (w : World) (hv : RdI lo hi w v n Z) (hh : hi ≤ w.heap.size) (h : PrOk n Z) (hU : upV Z (n - 1) = U) (hD : dnV Z (n - 1) = D) : Calls Try.prog 41 #[v] w (TriPost U D true w) := by
  subst hU hD
  exact implClimb_yes v lo hi n Z w hv hh h
/-- all that a dropped point leaves -/
theorem drop_facts {n : Nat} {z : Nat → Int} {m M : Nat} {y Yd : Nat → Int} {k : Nat} (h : DrOk n z m y k) (hM : M + 1 = m) (hY : dpY m y k = Yd) : ThOk n z M Yd ∧ (upV (hgP z Yd M) (M - 1) ≤ upV (hgP z y m) (m - 1) ∧ dnV (hgP z Yd M) (M - 1) ≤ dnV (hgP z y m) (m - 1)) ∧ (thE n z M Yd = 0 → upV (hgP z Yd M) (M - 1) = upV (hgP z y m) (m - 1) ∧ dnV (hgP z Yd M) (M - 1) = dnV (hgP z y m) (m - 1)) := by
  subst hM hY
  have h1 : 1 ≤ k := by have := h.2.1; omega
  have h2 : k + 2 ≤ M + 1 := by have := h.2.2; omega
  have h3 := up_drop (Z := z) (Y := y) h1 h2
  have h4 := ad_pos (hgP z y (M + 1)) k
  rw [show M + 1 - 1 = M from rfl] at *
  refine ⟨dp_ok h.1 h1 h2, ⟨by omega, by omega⟩, fun h0 => ?_⟩
  have h5 := dp_straight h.1 h1 h2 h0
  omega

end Go.Proofs.Ytmfdflkpbejpoaa
