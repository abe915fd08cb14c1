/- Half of the points, where it is a profile and where not. -/
import Derived.Test.YtmfdflkpbejpoaaThL
import Derived.Test.YtmfdflkpbejpoaaThP
namespace Go.Proofs.Ytmfdflkpbejpoaa
open Go.RowKit
set_option linter.unusedVariables false

theorem implHalf_yes (v : Value) (lo hi n : Nat) (Z : Nat → Int) (w : World) (hv : RdI lo hi w v n Z) (hh : hi ≤ w.heap.size) (h : PrOk n Z) : Calls Try.prog 43 #[v] w (LgPost true (n / 2 + 1) (nsZ (haL n)) w) := by
  have h1 := implThinHalf_any v lo hi n Z w hv hh
  rw [prB_yes h, thH_yes h] at h1
  refine h1.mono fun _ _ k => ?_
  have h2 := NbPost.lg k (by have := thH_ok n Z; rw [thH_yes h] at this; exact this)
  rw [haL_len h.1.1] at h2
  exact h2
theorem specHalf_yes (v : Value) (lo hi n : Nat) (Z : Nat → Int) (w : World) (hv : RdI lo hi w v n Z) (hh : hi ≤ w.heap.size) (h : PrOk n Z) : Calls Try.prog 44 #[v] w (LsPost true (n / 2 + 1) (nsZ (haL n)) w) := by
  have h1 := specThinHalf_any v lo hi n Z w hv hh
  rw [prB_yes h, thH_yes h] at h1
  refine h1.mono fun _ _ k => ?_
  have h2 := NbPost.ls k (by have := thH_ok n Z; rw [thH_yes h] at this; exact this)
  rw [haL_len h.1.1] at h2
  exact h2
theorem implHalf_no (v : Value) (lo hi n : Nat) (Z : Nat → Int) (w : World) (hv : RdI lo hi w v n Z) (hh : hi ≤ w.heap.size) (h : ¬ PrOk n Z) : Calls Try.prog 43 #[v] w (LgPost false 0 (nsZ []) w) := by
  have h1 := implThinHalf_any v lo hi n Z w hv hh
  rw [prB_no h, thH_no h] at h1
  exact h1.mono fun _ _ k => NbPost.lg k (fun x hx => by simp at hx)
theorem specHalf_no (v : Value) (lo hi n : Nat) (Z : Nat → Int) (w : World) (hv : RdI lo hi w v n Z) (hh : hi ≤ w.heap.size) (h : ¬ PrOk n Z) : Calls Try.prog 44 #[v] w (LsPost false 0 (nsZ []) w) := by
  have h1 := specThinHalf_any v lo hi n Z w hv hh
  rw [prB_no h, thH_no h] at h1
  exact h1.mono fun _ _ k => NbPost.ls k (fun x hx => by simp at hx)
theorem implThin_b (v u : Value) (lo hi lo2 hi2 n m : Nat) (Z Y : Nat → Int) (b : Bool) (w : World) (hv : RdI lo hi w v n Z) (hu : RdI lo2 hi2 w u m Y) (hh2 : hi2 ≤ w.heap.size) (hm : m ≤ 1048576) (hb : thB n Z m Y = b) : Calls Try.prog 15 #[v, u] w (BlPost b w) := by
  have h1 := implThinValid_any v u lo hi lo2 hi2 n m Z Y w hv hu hh2 hm
  rw [hb] at h1
  exact h1

end Go.Proofs.Ytmfdflkpbejpoaa
