/- Counting a number in a list, and in the basins. -/
import Derived.Test.YtplfphpnpjjinabBasE
namespace Go.Proofs.Ytplfphpnpjjinab
open Go.RowKit
set_option linter.unusedVariables false

def cntZ (Z : Nat → Int) (s : Int) : Nat → Nat
  | 0 => 0
  | k + 1 => cntZ Z s k + (if Z k = s then 1 else 0)
theorem cntZ_yes {Z : Nat → Int} {s : Int} {k : Nat} (h : Z k = s) : cntZ Z s (k + 1) = cntZ Z s k + 1 := by simp [cntZ, h]
theorem cntZ_no {Z : Nat → Int} {s : Int} {k : Nat} (h : Z k ≠ s) : cntZ Z s (k + 1) = cntZ Z s k := by simp [cntZ, h]
theorem cntZ_le (Z : Nat → Int) (s : Int) : ∀ k, cntZ Z s k ≤ k
  | 0 => by simp [cntZ]
  | k + 1 => by have := cntZ_le Z s k; unfold cntZ; split <;> omega
theorem cntZ_mono (Z : Nat → Int) (s : Int) {a b : Nat} (h : a ≤ b) : cntZ Z s a ≤ cntZ Z s b := by
  induction h with
  | refl => exact Nat.le_refl _
  | step _ ih => exact Nat.le_trans ih (Nat.le_add_right _ _)
theorem cntZ_pos {Z : Nat → Int} {s : Int} {n j : Nat} (hj : j < n) (h : Z j = s) : 0 < cntZ Z s n := by
  have h1 := cntZ_yes h
  have h2 := cntZ_mono Z s (a := j + 1) (b := n) (by omega)
  omega
theorem cntZ_ex {Z : Nat → Int} {s : Int} : ∀ {n : Nat}, 0 < cntZ Z s n → ∃ j, j < n ∧ Z j = s
  | 0, h => by simp [cntZ] at h
  | n + 1, h => by
    by_cases e : Z n = s
    · exact ⟨n, by omega, e⟩
    · rw [cntZ_no e] at h
      obtain ⟨j, h1, h2⟩ := cntZ_ex h
      exact ⟨j, by omega, h2⟩
theorem cntZ_congr {Z Z' : Nat → Int} {s : Int} : ∀ {n : Nat}, (∀ j, j < n → Z j = Z' j) → cntZ Z s n = cntZ Z' s n
  | 0, _ => rfl
  | n + 1, h => by
    have h1 := cntZ_congr (s := s) (n := n) (fun j hj => h j (by omega))
    simp only [cntZ, h1, h n (by omega)]

set_option maxHeartbeats 1000000 in
set_option maxRecDepth 20000 in
theorem l2Count_any (v : Value) (lo hi n : Nat) (Z : Nat → Int) (s : Int) (w : World) (hv : RdI lo hi w v n Z) (hn : n ≤ 1000) :
    Calls Try.prog 84 #[v, .int .i64 s] w fun e w' => e = .returned (.int .i64 (cntZ Z s n)) ∧ w = w' := by
  obtain ⟨ao, cap, b, off, rfl, h2, h3, h4, h5, h6⟩ := hv
  have H5 := Lib.hid h5
  have H6 := Lib.hid h6
  clear h4 h5 h6
  go_enter Try.func84, Try.ntmps84
  go_wp2
  go_loop [5, 6] (fun o i => ∃ k : Nat, k ≤ n ∧ i = .int .i64 k ∧ o = .int .i64 (cntZ Z s k)) (fun _ i => n - (intOf i).toNat)
  case atStart => exact ⟨0, Nat.zero_le _, rfl, rfl⟩
  case round =>
    obtain ⟨k, hk, rfl, rfl⟩ := hrel
    have hle := cntZ_le Z s k
    by_cases hlt : k < n
    · have hlt' : (k : Int) < n := by omega
      obtain ⟨rfl, _, _⟩ := H5.out (by omega)
      have c1 := H6.out k hlt
      by_cases hz : Z k = s
      · have HT := Lib.hid (cntZ_yes hz)
        rw [hz] at c1
        have hx : (s == s) = true := by simp
        generalize cntZ Z s k = q at hle HT ⊢
        clear hz
        go_wp2
        go_round
        case rel => exact ⟨k + 1, by omega, by go_num, by rw [HT.out]; go_num⟩
        case measure => simp [intOf]; omega
      · have HT := Lib.hid (cntZ_no hz)
        have hx : (Z k == s) = false := by rw [beq_eq_false_iff_ne]; exact hz
        generalize cntZ Z s k = q at hle HT ⊢
        generalize Z k = zk at c1 hx hz
        clear hz
        go_wp2
        go_round
        case rel => exact ⟨k + 1, by omega, by go_num, by rw [HT.out]⟩
        case measure => simp [intOf]; omega
    · obtain rfl : k = n := by omega
      have hge : ¬ (k : Int) < k := by omega
      go_wp2
      go_ret
      exact ⟨rfl, rfl⟩

theorem IsRun.last_sink {R C : Nat} {Z : Nat → Int} {i : Ix (R * C)} {l : List (Ix (R * C))} (h : IsRun R C Z i l) : nxt R C Z (l.getLastD i) = l.getLastD i := by
  induction h with
  | sink h => simpa using h
  | flow h1 h2 ih =>
    rename_i i l
    obtain ⟨x, t, rfl⟩ : ∃ x t, l = x :: t := by
      rcases h2.cons with ⟨_, e⟩ | ⟨_, t, e, _⟩ <;> exact ⟨_, _, e⟩
    rw [List.getLastD_cons] at ih ⊢
    rw [List.getLastD_cons]
    exact ih
theorem endI_sink {R C : Nat} {Z : Nat → Int} (hZ : ∀ x, x < R * C → 0 ≤ Z x ∧ Z x ≤ 99) (i : Ix (R * C)) : nxt R C Z (endI R C Z i) = endI R C Z i := (runL_is hZ i).last_sink
theorem endI_self {R C : Nat} {Z : Nat → Int} (hZ : ∀ x, x < R * C → 0 ≤ Z x ∧ Z x ≤ 99) {i : Ix (R * C)} (h : nxt R C Z i = i) : endI R C Z i = i := by
  rcases (runL_is hZ i).cons with ⟨_, e⟩ | ⟨hn, _⟩
  · unfold endI; rw [e]; rfl
  · exact absurd h hn

/-- the index s is that of a sink -/
def SinkAt (R C : Nat) (Z : Nat → Int) (s : Int) : Prop := ∃ i : Ix (R * C), s = (i.1 : Int) ∧ nxt R C Z i = i
theorem sink_cnt {R C : Nat} {Z : Nat → Int} (hZ : ∀ x, x < R * C → 0 ≤ Z x ∧ Z x ≤ 99) (s : Int) : SinkAt R C Z s ↔ 0 < cntZ (ezV R C Z) s (R * C) := by
  constructor
  · rintro ⟨i, rfl, h⟩
    exact cntZ_pos i.2 (by rw [ezV_at, endI_self hZ h])
  · intro h
    obtain ⟨j, hj, e⟩ := cntZ_ex h
    rw [show ezV R C Z j = ((endI R C Z ⟨j, hj⟩).1 : Int) from ezV_at (Z := Z) ⟨j, hj⟩] at e
    exact ⟨endI R C Z ⟨j, hj⟩, e.symm, endI_sink hZ _⟩

open Classical in
noncomputable def G.bnV (g : G) (s : Int) : Int := if g.Valid ∧ SinkAt g.n (g.len 0) g.flat s then cntZ (ezV g.n (g.len 0) g.flat) s (g.n * g.len 0) else -1
theorem G.bnV_yes {g : G} {s : Int} (h : g.Valid) (k : SinkAt g.n (g.len 0) g.flat s) : g.bnV s = cntZ (ezV g.n (g.len 0) g.flat) s (g.n * g.len 0) := by unfold G.bnV; rw [if_pos ⟨h, k⟩]
theorem G.bnV_no {g : G} {s : Int} (h : ¬ (g.Valid ∧ SinkAt g.n (g.len 0) g.flat s)) : g.bnV s = -1 := by unfold G.bnV; rw [if_neg h]

theorem bsZ (R C : Nat) (Z : Nat → Int) {j : Nat} (hj : j < R * C) : ixZ (bsL R C Z (R * C)) j = ezV R C Z j := by
  have hl := bsL_len R C Z (R * C) (Nat.le_refl _)
  rw [ixZ_at _ (by omega)]
  exact bsL_get _ _ _ (Nat.le_refl _)

end Go.Proofs.Ytplfphpnpjjinab
