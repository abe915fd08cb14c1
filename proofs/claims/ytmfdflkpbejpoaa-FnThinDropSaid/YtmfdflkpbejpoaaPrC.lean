/- The functions' contracts where a list is a profile, and where it is none. -/
import Derived.Test.YtmfdflkpbejpoaaPrTi
import Derived.Test.YtmfdflkpbejpoaaPrZ
import Derived.Test.YtmfdflkpbejpoaaPrY
import Derived.Test.YtmfdflkpbejpoaaPrX
import Derived.Test.YtmfdflkpbejpoaaSame
import Derived.Test.YtmfdflkpbejpoaaDrawQ
namespace Go.Proofs.Ytmfdflkpbejpoaa
open Go.RowKit
set_option linter.unusedVariables false

theorem implBack_yes (v : Value) (lo hi n : Nat) (Z : Nat → Int) (w : World) (hv : RdI lo hi w v n Z) (hh : hi ≤ w.heap.size) (h : PrOk n Z) : Calls Try.prog 21 #[v] w (LgPost true n (revZ (n - 1) Z) w) := by
  have := implProfileBack_any v lo hi n Z w hv hh
  rwa [prB_yes h, bkN_yes h] at this
theorem implBack_no (v : Value) (lo hi n : Nat) (Z : Nat → Int) (w : World) (hv : RdI lo hi w v n Z) (hh : hi ≤ w.heap.size) (h : ¬ PrOk n Z) : Calls Try.prog 21 #[v] w (LgPost false 0 (revZ (n - 1) Z) w) := by
  have := implProfileBack_any v lo hi n Z w hv hh
  rwa [prB_no h, bkN_no h] at this
theorem implClimb_yes (v : Value) (lo hi n : Nat) (Z : Nat → Int) (w : World) (hv : RdI lo hi w v n Z) (hh : hi ≤ w.heap.size) (h : PrOk n Z) : Calls Try.prog 41 #[v] w (TriPost (upV Z (n - 1)) (dnV Z (n - 1)) true w) := by
  have := implProfileClimb_any v lo hi n Z w hv hh
  rwa [prB_yes h, clU_yes h, clD_yes h] at this
theorem implClimb_no (v : Value) (lo hi n : Nat) (Z : Nat → Int) (w : World) (hv : RdI lo hi w v n Z) (hh : hi ≤ w.heap.size) (h : ¬ PrOk n Z) : Calls Try.prog 41 #[v] w (TriPost 0 0 false w) := by
  have := implProfileClimb_any v lo hi n Z w hv hh
  rwa [prB_no h, clU_no h, clD_no h] at this
end Go.Proofs.Ytmfdflkpbejpoaa
