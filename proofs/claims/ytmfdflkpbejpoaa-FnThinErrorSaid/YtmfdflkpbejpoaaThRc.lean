/- A line turned over has the same error. -/
import Derived.Test.YtmfdflkpbejpoaaThR
import Derived.Test.YtmfdflkpbejpoaaPrC
namespace Go.Proofs.Ytmfdflkpbejpoaa
open Go.RowKit
set_option linter.unusedVariables false

def tnF (n m : Nat) (y : Nat → Int) (i : Nat) : Int := (n : Int) - 1 - y (m - 1 - i)
theorem erD_rev (z : Nat → Int) {N i j k : Nat} (h1 : i < j) (h2 : j < k) (h3 : k ≤ N) : erD (revZ N z) (N - k) (N - j) (N - i) = erD z i j k := by
  unfold erD revZ
  rw [show N - (N - j) = j by omega, show N - (N - k) = k by omega, show N - (N - i) = i by omega,
    show ((N - i : Nat) : Int) - ((N - k : Nat) : Int) = (k : Int) - i by omega, show ((N - i : Nat) : Int) - ((N - j : Nat) : Int) = (j : Int) - i by omega,
    show ((N - j : Nat) : Int) - ((N - k : Nat) : Int) = (k : Int) - j by omega]
  omega
theorem erJ_rev (z : Nat → Int) {N i j k : Nat} (h1 : i < j) (h2 : j < k) (h3 : k ≤ N) : erJ (revZ N z) (N - k) (N - j) (N - i) = erJ z i j k := by
  unfold erJ
  rw [erD_rev z h1 h2 h3]
  generalize max (erD z i j k) (0 - erD z i j k) = X
  rw [show X + ((N - i : Nat) : Int) - ((N - k : Nat) : Int) - 1 = X + k - i - 1 by omega, show ((N - i : Nat) : Int) - ((N - k : Nat) : Int) = (k : Int) - i by omega]
theorem erB_rev (z : Nat → Int) {N i k : Nat} (h : i < k) (h3 : k ≤ N) : erB (revZ N z) (N - k) (N - i) = erB z i k := by
  refine Int.le_antisymm ((erB_le (by omega) _).2 ⟨erB_nonneg _ _ _, fun j h1 h2 => ?_⟩) ((erB_le h _).2 ⟨erB_nonneg _ _ _, fun j h1 h2 => ?_⟩)
  · have h4 := ((erB_le h (erB z i k)).1 (Int.le_refl _)).2 (N - j) (by omega) (by omega)
    have h5 := erJ_rev z (N := N) (i := i) (j := N - j) (k := k) (by omega) (by omega) h3
    rw [show N - (N - j) = j by omega] at h5
    rw [h5]; exact h4
  · have h4 := ((erB_le (z := revZ N z) (i := N - k) (k := N - i) (by omega) (erB (revZ N z) (N - k) (N - i))).1 (Int.le_refl _)).2 (N - j) (by omega) (by omega)
    rw [erJ_rev z h1 h2 h3] at h4
    exact h4
def tnY (n m : Nat) (y : Nat → Int) (i : Nat) : Int := nsZ (fnL (tnF n m y) m) i
theorem tnY_at (n m : Nat) (y : Nat → Int) (i : Nat) (h : i < m) : tnY n m y i = (n : Int) - 1 - y (m - 1 - i) := fnL_z _ _ _ h
theorem tn_ok {n : Nat} {z : Nat → Int} {m : Nat} {y : Nat → Int} (h : ThOk n z m y) : ThOk n (revZ (n - 1) z) m (tnY n m y) := by
  have hm := h.2.1
  have hn := h.1.1.1
  refine ⟨⟨h.1.1, fun i hi => h.1.2 (n - 1 - i) (by omega)⟩, hm, ?_, ?_, fun i hi => ?_⟩
  · rw [tnY_at _ _ _ _ (by omega), show m - 1 - 0 = m - 1 by omega, h.2.2.2.1]; omega
  · rw [tnY_at _ _ _ _ (by omega), show m - 1 - (m - 1) = 0 by omega, h.2.2.1]; omega
  · rw [tnY_at _ _ _ _ (by omega), tnY_at _ _ _ _ (by omega)]
    have h1 := h.2.2.2.2 (m - 1 - (i + 1)) (by omega)
    rw [show m - 1 - (i + 1) + 1 = m - 1 - i by omega] at h1
    omega
theorem tn_gap {n : Nat} {z : Nat → Int} {m : Nat} {y : Nat → Int} (h : ThOk n z m y) (i : Nat) (hi : i + 1 < m) :
    erB (revZ (n - 1) z) (tnY n m y i).toNat (tnY n m y (i + 1)).toNat = erB z (y (m - 1 - (i + 1))).toNat (y (m - 1 - i)).toNat := by
  obtain ⟨a, ea, ha, _⟩ := h.nat (m - 1 - (i + 1)) (by omega)
  obtain ⟨b, eb, hb, _⟩ := h.nat (m - 1 - i) (by omega)
  have h1 := h.2.2.2.2 (m - 1 - (i + 1)) (by omega)
  rw [show m - 1 - (i + 1) + 1 = m - 1 - i by omega] at h1
  rw [tnY_at _ _ _ _ (by omega), tnY_at _ _ _ _ hi, ea, eb, Int.toNat_natCast, Int.toNat_natCast,
    show ((n : Int) - 1 - b).toNat = n - 1 - b by omega, show ((n : Int) - 1 - a).toNat = n - 1 - a by omega]
  exact erB_rev z (by omega) (by omega)
theorem tn_err {n : Nat} {z : Nat → Int} {m : Nat} {y : Nat → Int} (h : ThOk n z m y) : thE n (revZ (n - 1) z) m (tnY n m y) = thE n z m y := by
  rw [thE_yes (tn_ok h), thE_yes h]
  refine Int.le_antisymm ((erL_le _ _ _ _).2 ⟨erL_nonneg _ _ _, fun i hi => ?_⟩) ((erL_le _ _ _ _).2 ⟨erL_nonneg _ _ _, fun i hi => ?_⟩)
  · rw [tn_gap h i (by omega)]
    have h1 := ((erL_le z y _ (m - 1)).1 (Int.le_refl _)).2 (m - 1 - (i + 1)) (by omega)
    rw [show m - 1 - (i + 1) + 1 = m - 1 - i by omega] at h1
    exact h1
  · have h1 := ((erL_le (revZ (n - 1) z) (tnY n m y) _ (m - 1)).1 (Int.le_refl _)).2 (m - 1 - (i + 1)) (by omega)
    rw [tn_gap h _ (by omega), show m - 1 - (m - 1 - (i + 1) + 1) = i by omega, show m - 1 - (m - 1 - (i + 1)) = i + 1 by omega] at h1
    exact h1
theorem tn_nsok {n : Nat} {z : Nat → Int} {m : Nat} {y : Nat → Int} (h : ThOk n z m y) : NsOk (fnL (tnF n m y) m) := by
  have hm := h.2.1
  have hl := h.len
  have hn := h.1.1.2
  refine fnL_ok fun i hi => ?_
  have h1 := h.range (m - 1 - i) (by omega)
  unfold tnF
  omega
theorem specThinErr_i (v u : Value) (lo hi lo2 hi2 n m : Nat) (Z Y : Nat → Int) (b : Int) (w : World) (hv : RdI lo hi w v n Z) (hu : RdI lo2 hi2 w u m Y) (hh : hi ≤ w.heap.size) (hh2 : hi2 ≤ w.heap.size) (hn : n ≤ 1048576) (hm : m ≤ 1048576) (hb : thE n Z m Y = b) : Calls Try.prog 20 #[v, u] w (IntPost b w) := by
  have h1 := specThinError_any v u lo hi lo2 hi2 n m Z Y w hv hu hh hh2 hn hm
  rw [hb] at h1
  exact h1

end Go.Proofs.Ytmfdflkpbejpoaa
