/- All points and the ends of a profile. -/
import Derived.Test.YtmfdflkpbejpoaaThQ
import Derived.Test.YtmfdflkpbejpoaaThJ
import Derived.Test.YtmfdflkpbejpoaaThT
namespace Go.Proofs.Ytmfdflkpbejpoaa
open Go.RowKit
set_option linter.unusedVariables false

def rgL (k : Nat) : List Int := (List.range k).map fun (i : Nat) => (i : Int)
theorem rgL_len (k : Nat) : (rgL k).length = k := by simp [rgL]
theorem rgL_succ (k : Nat) : rgL k ++ [(k : Int)] = rgL (k + 1) := by simp [rgL, List.range_succ]
theorem rgL_at (k i : Nat) (h : i < k) : nsZ (rgL k) i = i := by
  unfold nsZ rgL
  rw [List.getD_eq_getElem?_getD, List.getElem?_map, List.getElem?_range h]
  rfl
theorem rgL_ok (k : Nat) (h : k ≤ 1048576) : NsOk (rgL k) := fun x hx => by
  simp only [rgL, List.mem_map, List.mem_range] at hx
  obtain ⟨a, ha, rfl⟩ := hx
  omega
theorem all_ok {n : Nat} {z : Nat → Int} (h : PrOk n z) : ThOk n z n (nsZ (rgL n)) := by
  have h1 := h.1.1
  refine ⟨h, h1, ?_, ?_, fun i hi => ?_⟩
  · rw [rgL_at _ _ (by omega)]; rfl
  · rw [rgL_at _ _ (by omega)]; omega
  · rw [rgL_at _ _ (by omega), rgL_at _ _ (by omega)]; omega
theorem all_err (n : Nat) (z : Nat → Int) : ∀ t, t < n → erL z (nsZ (rgL n)) t = 0 := by
  intro t
  induction t with
  | zero => intro _; rfl
  | succ t ih =>
    intro ht
    have h1 : erL z (nsZ (rgL n)) (t + 1) = max (erL z (nsZ (rgL n)) t) (erB z (nsZ (rgL n) t).toNat (nsZ (rgL n) (t + 1)).toNat) := rfl
    rw [h1, ih (by omega), rgL_at _ _ (by omega), rgL_at _ _ (by omega), Int.toNat_natCast, Int.toNat_natCast, erB_next]
    rfl
theorem ends_two {n : Nat} {z : Nat → Int} (h : PrOk n z) (h1 : n ≠ 1) : ThOk n z 2 (nsZ [0, (n : Int) - 1]) := by
  have h0 := h.1.1
  refine ⟨h, by omega, rfl, rfl, fun i hi => ?_⟩
  obtain rfl : i = 0 := by omega
  show (0 : Int) < (n : Int) - 1
  omega
theorem ends_one {n : Nat} {z : Nat → Int} (h : PrOk n z) (h1 : n = 1) : ThOk n z 1 (nsZ [0]) := by
  subst h1
  exact ⟨h, by omega, rfl, rfl, fun i hi => by omega⟩

theorem implThinErr_i (v u : Value) (lo hi lo2 hi2 n m : Nat) (Z Y : Nat → Int) (b : Int) (w : World) (hv : RdI lo hi w v n Z) (hu : RdI lo2 hi2 w u m Y) (hh : hi ≤ w.heap.size) (hh2 : hi2 ≤ w.heap.size) (hm : m ≤ 1048576) (hb : thE n Z m Y = b) : Calls Try.prog 17 #[v, u] w (IntPost b w) := by
  have h1 := implThinError_any v u lo hi lo2 hi2 n m Z Y w hv hu hh hh2 hm
  rw [hb] at h1
  exact h1
theorem implThinKps_b (v u : Value) (lo hi lo2 hi2 n m : Nat) (Z Y : Nat → Int) (e : Int) (b : Bool) (w : World) (hv : RdI lo hi w v n Z) (hu : RdI lo2 hi2 w u m Y) (hh : hi ≤ w.heap.size) (hh2 : hi2 ≤ w.heap.size) (hm : m ≤ 1048576) (hb : thK n Z m Y e = b) : Calls Try.prog 18 #[v, u, .int .i64 e] w (BlPost b w) := by
  have h1 := implThinKeeps_any v u lo hi lo2 hi2 n m Z Y e w hv hu hh hh2 hm
  rw [hb] at h1
  exact h1
theorem specThin_b (v u : Value) (lo hi lo2 hi2 n m : Nat) (Z Y : Nat → Int) (b : Bool) (w : World) (hv : RdI lo hi w v n Z) (hu : RdI lo2 hi2 w u m Y) (hn : n ≤ 1048576) (hm : m ≤ 1048576) (hb : thB n Z m Y = b) : Calls Try.prog 16 #[v, u] w (BlPost b w) := by
  have h1 := specThinValid_any v u lo hi lo2 hi2 n m Z Y w hv hu hn hm
  rw [hb] at h1
  exact h1.mono fun _ _ h => SmPost.bl h

end Go.Proofs.Ytmfdflkpbejpoaa
