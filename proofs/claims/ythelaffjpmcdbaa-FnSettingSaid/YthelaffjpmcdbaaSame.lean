/- The comparisons of the laws of the promises. -/
import Derived.Test.YthelaffjpmcdbaaM1
namespace Go.Proofs.Ythelaffjpmcdbaa
open Go.RowKit
set_option linter.unusedVariables false

set_option maxHeartbeats 1000000 in
theorem sameInts_no (a1 a2 : Option Addr) (n1 n2 c1 c2 : Nat) (w : World) (h1 : n1 ≤ 9223372036854775807) (h2 : n2 ≤ 9223372036854775807) (hne : n1 ≠ n2) :
    Calls Try.prog 40 #[.slice a1 n1 c1, .slice a2 n2 c2] w (EqPost false w) := by
  have hb : ((n1 : Int) != n2) = true := by rw [bne_iff_ne]; omega
  go_enter Try.func40, Try.ntmps40
  go_wp2
  go_ret
  exact ⟨rfl, 0, rfl⟩

set_option maxHeartbeats 1000000 in
theorem sameInts_any (v1 v2 : Value) (lo1 hi1 lo2 hi2 n : Nat) (Z1 Z2 : Nat → Int) (w : World) (h1 : RdI lo1 hi1 w v1 n Z1) (h2 : RdI lo2 hi2 w v2 n Z2) (heq : ∀ i, i < n → Z1 i = Z2 i) :
    Calls Try.prog 40 #[v1, v2] w (EqPost true w) := by
  obtain ⟨ao, cap, b, off, rfl, a2, a3, a4, a5, a6⟩ := h1
  obtain ⟨ao', cap', b', off', rfl, b2, b3, b4, b5, b6⟩ := h2
  have HE := Lib.hid heq
  clear heq a4 b4
  have hb : ((n : Int) != n) = false := by simp
  go_enter Try.func40, Try.ntmps40
  go_wp2
  go_loopw [5] (fun i wr => ∃ k m : Nat, k ≤ n ∧ i = .int .i64 k ∧ wr = w.drewN m) (fun i _ => n - (intOf i).toNat)
  case atStart => exact ⟨0, 0, Nat.zero_le _, rfl, rfl⟩
  case round =>
    obtain ⟨k, m, hk, rfl, rfl⟩ := hrel
    by_cases hlt : k < n
    · obtain ⟨rfl, _, _⟩ := a5 (by omega)
      obtain ⟨rfl, _, _⟩ := b5 (by omega)
      have q1 := a6 k hlt
      have q2 := b6 k hlt
      rw [HE.out k hlt] at q1
      have hx : (Z2 k != Z2 k) = false := by simp
      clear a5 b5 a6 b6
      have hlt' : (k : Int) < n := by omega
      go_wp2
      go_quiet (fail)
      go_wp2
      go_roundw
      case rel => exact ⟨k + 1, m + nq, by omega, by go_num, rfl⟩
      case measure => simp [intOf]; omega
    · clear a5 b5 a6 b6
      go_wp2
      go_ret
      exact ⟨rfl, m, rfl⟩

end Go.Proofs.Ythelaffjpmcdbaa
