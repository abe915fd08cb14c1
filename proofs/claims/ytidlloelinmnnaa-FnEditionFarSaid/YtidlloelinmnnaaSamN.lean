/- The comparisons of the laws of the promises where they find a difference. -/
import Derived.Test.YtidlloelinmnnaaSame
import Derived.BigQuiet
namespace Go.Proofs.Ytidlloelinmnnaa
open Go.RowKit
set_option linter.unusedVariables false

set_option maxHeartbeats 1000000 in
theorem sameInts_neq (v1 v2 : Value) (lo1 hi1 lo2 hi2 n : Nat) (Z1 Z2 : Nat → Int) (w : World) (h1 : RdI lo1 hi1 w v1 n Z1) (h2 : RdI lo2 hi2 w v2 n Z2) (hne : ∃ i, i < n ∧ Z1 i ≠ Z2 i) :
    Calls Try.prog 84 #[v1, v2] w (EqPost false w) := by
  obtain ⟨ao, cap, b, off, rfl, a2, a3, a4, a5, a6⟩ := h1
  obtain ⟨ao', cap', b', off', rfl, b2, b3, b4, b5, b6⟩ := h2
  have HE := Lib.hid hne
  clear hne a4 b4
  have hb : ((n : Int) != n) = false := by simp
  go_enter Try.func84, Try.ntmps84
  go_wp2
  go_loopw [5] (fun i wr => ∃ k m : Nat, k ≤ n ∧ i = .int .i64 k ∧ wr = w.drewN m ∧ ∀ j, j < k → Z1 j = Z2 j) (fun i _ => n - (intOf i).toNat)
  case atStart => exact ⟨0, 0, Nat.zero_le _, rfl, rfl, fun j hj => by omega⟩
  case round =>
    obtain ⟨k, m, hk, rfl, rfl, hall⟩ := hrel
    have HA := Lib.hid hall
    clear hall
    by_cases hlt : k < n
    · obtain ⟨rfl, _, _⟩ := a5 (by omega)
      obtain ⟨rfl, _, _⟩ := b5 (by omega)
      have q1 := a6 k hlt
      have q2 := b6 k hlt
      have HQ : Z1 k = Z2 k → ∀ j, j < k + 1 → Z1 j = Z2 j := fun e j hj => by
        by_cases h : j = k
        · rw [h]; exact e
        · exact HA.out j (by omega)
      have HQ' := Lib.hid HQ
      obtain ⟨x, ex⟩ : ∃ x, Z1 k = x := ⟨_, rfl⟩
      obtain ⟨y, ey⟩ : ∃ y, Z2 k = y := ⟨_, rfl⟩
      rw [ex, ey] at HQ'
      rw [ex] at q1
      rw [ey] at q2
      clear a5 b5 a6 b6 ex ey HQ
      have hlt' : (k : Int) < n := by omega
      by_cases e : x = y
      · have hx : (x != y) = false := by simpa using e
        have HN := Lib.hid (HQ'.out e)
        clear e HQ'
        go_wp2
        go_quiet (fail)
        go_wp2
        go_roundw
        case rel => exact ⟨k + 1, m + nq, by omega, by go_num, rfl, HN.out⟩
        case measure => simp [intOf]; omega
      · have hx : (x != y) = true := by simpa using e
        clear e HQ'
        go_wp2
        go_quiet (fail)
        go_wp2
        go_ret
        exact ⟨rfl, m + nq, World.drewN_drewN _ _ _⟩
    · exfalso
      obtain ⟨j, hj, hne⟩ := HE.out
      exact hne (HA.out j (by omega))

/-- two grids with as many rows and columns that differ -/
def GDif (a b : G) : Prop := a.n = b.n ∧ (∀ r, r < a.n → a.len r = b.len r) ∧ ¬ G.Eqv a b
theorem GDif.row {a b : G} (h : GDif a b) : ∃ r, r < a.n ∧ ∃ c, c < a.len r ∧ a.z r c ≠ b.z r c := by
  obtain ⟨h1, h2, h3⟩ := h
  refine Classical.byContradiction fun hno => h3 ⟨h1, fun r hr => ⟨h2 r hr, fun c hc => Classical.byContradiction fun hz => hno ⟨r, hr, c, hc, hz⟩⟩⟩
set_option maxHeartbeats 2000000 in
theorem sameGrid_neq (v1 v2 : Value) (lo1 hi1 lo2 hi2 : Nat) (g h : G) (w : World) (h1 : RdM lo1 hi1 w v1 g) (h2 : RdM lo2 hi2 w v2 h) (hd : GDif g h) :
    Calls Try.prog 39 #[v1, v2] w (EqPost false w) := by
  obtain ⟨ao, cap, b, off, Ao, Cp, rfl, a2, a3, a5, a6, a7⟩ := h1
  obtain ⟨ao', cap', b', off', Ao', Cp', rfl, b2, b3, b5, b6, b7⟩ := h2
  have HR := Lib.hid hd.row
  have HD := Lib.hid hd
  have hn := hd.1
  rw [← hn] at b2 b5 b6 b7 ⊢
  have hb : ((g.n : Int) != g.n) = false := by simp
  clear hd hn
  go_enter Try.func39, Try.ntmps39
  go_wp2
  go_loopw [5] (fun i wr => ∃ k m : Nat, k ≤ g.n ∧ i = .int .i64 k ∧ wr = w.drewN m ∧ ∀ r, r < k → ∀ c, c < g.len r → g.z r c = h.z r c) (fun i _ => g.n - (intOf i).toNat)
  case atStart => exact ⟨0, 0, Nat.zero_le _, rfl, rfl, fun j hj => by omega⟩
  case round =>
    obtain ⟨k, m, hk, rfl, rfl, hall⟩ := hrel
    have HA := Lib.hid hall
    clear hall
    by_cases hlt : k < g.n
    · obtain ⟨rfl, _, _⟩ := a5 (by omega)
      obtain ⟨rfl, _, _⟩ := b5 (by omega)
      have q1 := a6 k hlt
      have q2 := b6 k hlt
      have r1 := a7 k hlt
      have r2 := b7 k hlt
      rw [← HD.out.2.1 k hlt] at q2 r2
      have hlt' : (k : Int) < g.n := by omega
      by_cases e : ∀ c, c < g.len k → g.z k c = h.z k c
      · have HC := Lib.hid (show ∀ W : World, SameIn lo1 hi1 w W → SameIn lo2 hi2 w W → Calls Try.prog 84 #[.slice (Ao k) (g.len k) (Cp k), .slice (Ao' k) (g.len k) (Cp' k)] W (EqPost true W) from
          fun W e1 e2 => sameInts_any _ _ lo1 hi1 lo2 hi2 (g.len k) (g.z k) (h.z k) W (r1.same e1) (r2.same e2) e)
        have HN := Lib.hid (show ∀ r, r < k + 1 → ∀ c, c < g.len r → g.z r c = h.z r c from fun r hr => by
          by_cases e2 : r = k
          · rw [e2]; exact e
          · exact HA.out r (by omega))
        clear a5 b5 a6 b6 a7 b7 r1 r2 e
        go_wp2
        go_quiet ((go_at_call 84; exact Calls.quiet_of' (HC.out _ (fun _ _ _ => rfl) (fun _ _ _ => rfl))))
        go_wp2
        go_roundw
        case rel => exact ⟨k + 1, m + nq, by omega, by go_num, rfl, HN.out⟩
        case measure => simp [intOf]; omega
      · have e' : ∃ c, c < g.len k ∧ g.z k c ≠ h.z k c := Classical.byContradiction fun hno => e (fun c hc => Classical.byContradiction fun hz => hno ⟨c, hc, hz⟩)
        have HC := Lib.hid (show ∀ W : World, SameIn lo1 hi1 w W → SameIn lo2 hi2 w W → Calls Try.prog 84 #[.slice (Ao k) (g.len k) (Cp k), .slice (Ao' k) (g.len k) (Cp' k)] W (EqPost false W) from
          fun W e1 e2 => sameInts_neq _ _ lo1 hi1 lo2 hi2 (g.len k) (g.z k) (h.z k) W (r1.same e1) (r2.same e2) e')
        clear a5 b5 a6 b6 a7 b7 r1 r2 e e'
        go_wp2
        go_quiet ((go_at_call 84; exact Calls.quiet_of' (HC.out _ (fun _ _ _ => rfl) (fun _ _ _ => rfl))))
        go_wp2
        go_ret
        exact ⟨rfl, m + nq, World.drewN_drewN _ _ _⟩
    · exfalso
      obtain ⟨r, hr, c, hc, hne⟩ := HR.out
      exact hne (HA.out r (by omega) c hc)

end Go.Proofs.Ytidlloelinmnnaa
