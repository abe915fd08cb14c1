/- Profiles of the model: what is one, which points it has, who sees whom. -/
import Derived.Test.YtmfdflkpbejpoaaPrM
namespace Go.Proofs.Ytmfdflkpbejpoaa
open Go.RowKit
set_option linter.unusedVariables false

set_option maxHeartbeats 2000000 in
set_option maxRecDepth 20000 in
theorem specProfileValid_any (v : Value) (lo hi n : Nat) (Z : Nat → Int) (w : World) (hv : RdI lo hi w v n Z) :
    Calls Try.prog 54 #[v] w (SmPost (prB n Z) w) := by
  obtain ⟨ao, cap, b, off, rfl, h2, h3, h4, h5, h6⟩ := hv
  have H5 := Lib.hid h5
  have H6 := Lib.hid h6
  clear h4 h5 h6
  go_enter Try.func54, Try.ntmps54
  go_wp2
  go_loop [3] (fun i => ∃ k : Nat, k ≤ n ∧ i = .int .i64 k ∧ ∀ j, j < k → 0 ≤ Z j ∧ Z j ≤ 99) (fun i => n - (intOf i).toNat)
  case atStart => exact ⟨0, Nat.zero_le _, rfl, fun j hj => by omega⟩
  case round =>
    obtain ⟨k, hk, rfl, hdone⟩ := hrel
    have HD := Lib.hid hdone
    clear hdone
    by_cases hlt : k < n
    · obtain ⟨rfl, _, _⟩ := H5.out (by omega)
      have q1 := H6.out k hlt
      have hlt' : (k : Int) < n := by omega
      by_cases hz : 0 ≤ Z k ∧ Z k ≤ 99
      · obtain ⟨hz1, hz2⟩ := hz
        go_wp2_with fail
        refine (l6In_yes _ _ _ _ hz1 hz2).mono ?_
        rintro e w' ⟨rfl, rfl⟩
        go_wp2
        go_round
        case rel => exact ⟨k + 1, by omega, by go_num, fun j hj => by
          by_cases e : j = k
          · subst e; exact ⟨hz1, hz2⟩
          · exact HD.out j (by omega)⟩
        case measure => simp [intOf]; omega
      · have HB := Lib.hid (prB_no (n := n) (z := Z) (fun h => hz (h.2 k hlt)))
        go_wp2_with fail
        refine (l6In_no _ _ _ _ (by omega)).mono ?_
        rintro e w' ⟨rfl, rfl⟩
        go_wp2
        go_ret
        exact sm_post HB.out _
    · by_cases hN : 1 ≤ n ∧ n ≤ 20
      · have HB := Lib.hid (prB_yes (n := n) (z := Z) ⟨hN, fun j hj => HD.out j (by omega)⟩)
        go_wp2_with fail
        refine (l6In_yes _ _ _ _ (by omega) (by omega)).mono ?_
        rintro e w' ⟨rfl, rfl⟩
        go_wp2
        go_ret
        exact sm_post HB.out _
      · have HB := Lib.hid (prB_no (n := n) (z := Z) (fun h => hN h.1))
        go_wp2_with fail
        refine (l6In_no _ _ _ _ (by omega)).mono ?_
        rintro e w' ⟨rfl, rfl⟩
        go_wp2
        go_ret
        exact sm_post HB.out _

end Go.Proofs.Ytmfdflkpbejpoaa
