/- The functions' contracts where a list is a profile, and where it is none. -/
import Derived.Test.YtgcebhmenffbjabPrTi
import Derived.Test.YtgcebhmenffbjabPrZ
import Derived.Test.YtgcebhmenffbjabPrY
import Derived.Test.YtgcebhmenffbjabPrX
import Derived.Test.YtgcebhmenffbjabSame
import Derived.Test.YtgcebhmenffbjabDrawQ
namespace Go.Proofs.Ytgcebhmenffbjab
open Go.RowKit
set_option linter.unusedVariables false

theorem implBack_yes (v : Value) (lo hi n : Nat) (Z : Nat → Int) (w : World) (hv : RdI lo hi w v n Z) (hh : hi ≤ w.heap.size) (h : PrOk n Z) : Calls Try.prog 18 #[v] w (LgPost true n (revZ (n - 1) Z) w) := by
  have := implProfileBack_any v lo hi n Z w hv hh
  rwa [prB_yes h, bkN_yes h] at this
theorem implBack_no (v : Value) (lo hi n : Nat) (Z : Nat → Int) (w : World) (hv : RdI lo hi w v n Z) (hh : hi ≤ w.heap.size) (h : ¬ PrOk n Z) : Calls Try.prog 18 #[v] w (LgPost false 0 (revZ (n - 1) Z) w) := by
  have := implProfileBack_any v lo hi n Z w hv hh
  rwa [prB_no h, bkN_no h] at this
theorem specBack_yes (v : Value) (lo hi n : Nat) (Z : Nat → Int) (w : World) (hv : RdI lo hi w v n Z) (hh : hi ≤ w.heap.size) (h : PrOk n Z) : Calls Try.prog 35 #[v] w (LsPost true n (revZ (n - 1) Z) w) := by
  have := specProfileBack_any v lo hi n Z w hv hh
  rwa [prB_yes h, bkN_yes h] at this
theorem specBack_no (v : Value) (lo hi n : Nat) (Z : Nat → Int) (w : World) (hv : RdI lo hi w v n Z) (hh : hi ≤ w.heap.size) (h : ¬ PrOk n Z) : Calls Try.prog 35 #[v] w (LsPost false 0 (revZ (n - 1) Z) w) := by
  have := specProfileBack_any v lo hi n Z w hv hh
  rwa [prB_no h, bkN_no h] at this
theorem implClimb_yes (v : Value) (lo hi n : Nat) (Z : Nat → Int) (w : World) (hv : RdI lo hi w v n Z) (hh : hi ≤ w.heap.size) (h : PrOk n Z) : Calls Try.prog 36 #[v] w (TriPost (upV Z (n - 1)) (dnV Z (n - 1)) true w) := by
  have := implProfileClimb_any v lo hi n Z w hv hh
  rwa [prB_yes h, clU_yes h, clD_yes h] at this
theorem implClimb_no (v : Value) (lo hi n : Nat) (Z : Nat → Int) (w : World) (hv : RdI lo hi w v n Z) (hh : hi ≤ w.heap.size) (h : ¬ PrOk n Z) : Calls Try.prog 36 #[v] w (TriPost 0 0 false w) := by
  have := implProfileClimb_any v lo hi n Z w hv hh
  rwa [prB_no h, clU_no h, clD_no h] at this
theorem specClimb_yes (v : Value) (lo hi n : Nat) (Z : Nat → Int) (w : World) (hv : RdI lo hi w v n Z) (hh : hi ≤ w.heap.size) (h : PrOk n Z) : Calls Try.prog 41 #[v] w (TriPost (upV Z (n - 1)) (dnV Z (n - 1)) true w) := by
  have := specProfileClimb_any v lo hi n Z w hv hh
  rwa [prB_yes h, clU_yes h, clD_yes h] at this
theorem specClimb_no (v : Value) (lo hi n : Nat) (Z : Nat → Int) (w : World) (hv : RdI lo hi w v n Z) (hh : hi ≤ w.heap.size) (h : ¬ PrOk n Z) : Calls Try.prog 41 #[v] w (TriPost 0 0 false w) := by
  have := specProfileClimb_any v lo hi n Z w hv hh
  rwa [prB_no h, clU_no h, clD_no h] at this
theorem implSeen_at (v : Value) (lo hi n : Nat) (Z : Nat → Int) (i : Nat) (w : World) (hv : RdI lo hi w v n Z) (hh : hi ≤ w.heap.size) (h : PrOk n Z) (hin : i < n) : Calls Try.prog 20 #[v, .int .i64 i] w (NsPost (snL Z i n) w) := by
  have := implProfileSeen_any v lo hi n Z i w hv hh ⟨by omega, by have := h.1.2; omega⟩
  rwa [snV_yes ⟨h, by omega, by omega⟩] at this
theorem implSees_at (v : Value) (lo hi n : Nat) (Z : Nat → Int) (i k : Nat) (w : World) (hv : RdI lo hi w v n Z) (hh : hi ≤ w.heap.size) (h : PrOk n Z) (hin : i < n) (hkn : k < n) : Calls Try.prog 16 #[v, .int .i64 i, .int .i64 k] w (BlPost (seB Z i k 0) w) := by
  have hn := h.1.2
  have := implProfileSees_any v lo hi n Z i k w hv hh ⟨by omega, by omega⟩ ⟨by omega, by omega⟩
  rwa [ssB_at i k h hin hkn] at this
theorem implPairs_yes (v : Value) (lo hi n : Nat) (Z : Nat → Int) (w : World) (hv : RdI lo hi w v n Z) (hh : hi ≤ w.heap.size) (h : PrOk n Z) : Calls Try.prog 25 #[v] w (IntPost (prN Z n) w) := by
  have := implProfilePairs_any v lo hi n Z w hv hh
  rwa [ppV_yes h] at this
theorem implHull_yes (v : Value) (lo hi n : Nat) (Z : Nat → Int) (w : World) (hv : RdI lo hi w v n Z) (hh : hi ≤ w.heap.size) (h : PrOk n Z) : Calls Try.prog 32 #[v] w (LgPost true (huL n Z n).length (nsZ (huL n Z n)) w) := by
  have h2 := (implProfileHull_any v lo hi n Z w hv hh).mono fun _ _ k => NbPost.lg k (hlV_ok n Z)
  rwa [prB_yes h, hlV_yes h] at h2
theorem implHull_no (v : Value) (lo hi n : Nat) (Z : Nat → Int) (w : World) (hv : RdI lo hi w v n Z) (hh : hi ≤ w.heap.size) (h : ¬ PrOk n Z) : Calls Try.prog 32 #[v] w (LgPost false 0 (nsZ []) w) := by
  have h2 := (implProfileHull_any v lo hi n Z w hv hh).mono fun _ _ k => NbPost.lg k (hlV_ok n Z)
  rwa [prB_no h, hlV_no h] at h2
theorem specHull_yes (v : Value) (lo hi n : Nat) (Z : Nat → Int) (w : World) (hv : RdI lo hi w v n Z) (hh : hi ≤ w.heap.size) (h : PrOk n Z) : Calls Try.prog 33 #[v] w (LsPost true (huL n Z n).length (nsZ (huL n Z n)) w) := by
  have h2 := (specProfileHull_any v lo hi n Z w hv hh).mono fun _ _ k => NbPost.ls k (hlV_ok n Z)
  rwa [prB_yes h, hlV_yes h] at h2
theorem specHull_no (v : Value) (lo hi n : Nat) (Z : Nat → Int) (w : World) (hv : RdI lo hi w v n Z) (hh : hi ≤ w.heap.size) (h : ¬ PrOk n Z) : Calls Try.prog 33 #[v] w (LsPost false 0 (nsZ []) w) := by
  have h2 := (specProfileHull_any v lo hi n Z w hv hh).mono fun _ _ k => NbPost.ls k (hlV_ok n Z)
  rwa [prB_no h, hlV_no h] at h2
theorem implTilt_yes (v : Value) (lo hi n : Nat) (Z : Nat → Int) (t : Int) (w : World) (hv : RdI lo hi w v n Z) (hh : hi ≤ w.heap.size) (h : TlOk n Z t) : Calls Try.prog 38 #[v, .int .i64 t] w (LgPost true n (tilZ Z t) w) := by
  have := implProfileTilt_any v lo hi n Z t w hv hh
  rwa [tlB_yes h, tlN_yes h] at this
theorem implTilt_no (v : Value) (lo hi n : Nat) (Z : Nat → Int) (t : Int) (w : World) (hv : RdI lo hi w v n Z) (hh : hi ≤ w.heap.size) (h : ¬ TlOk n Z t) : Calls Try.prog 38 #[v, .int .i64 t] w (LgPost false 0 (tilZ Z t) w) := by
  have := implProfileTilt_any v lo hi n Z t w hv hh
  rwa [tlB_no h, tlN_no h] at this
theorem specTilt_yes (v : Value) (lo hi n : Nat) (Z : Nat → Int) (t : Int) (w : World) (hv : RdI lo hi w v n Z) (hh : hi ≤ w.heap.size) (h : TlOk n Z t) : Calls Try.prog 39 #[v, .int .i64 t] w (LsPost true n (tilZ Z t) w) := by
  have := specProfileTilt_any v lo hi n Z t w hv hh
  rwa [tlB_yes h, tlN_yes h] at this
theorem specTilt_no (v : Value) (lo hi n : Nat) (Z : Nat → Int) (t : Int) (w : World) (hv : RdI lo hi w v n Z) (hh : hi ≤ w.heap.size) (h : ¬ TlOk n Z t) : Calls Try.prog 39 #[v, .int .i64 t] w (LsPost false 0 (tilZ Z t) w) := by
  have := specProfileTilt_any v lo hi n Z t w hv hh
  rwa [tlB_no h, tlN_no h] at this

end Go.Proofs.Ytgcebhmenffbjab
