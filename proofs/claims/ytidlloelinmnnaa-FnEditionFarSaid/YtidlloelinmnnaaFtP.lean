/- Corrections: the contracts cleanly, where they are some and where they are not; two lists compared; a list's parts. -/
import Derived.Test.YtidlloelinmnnaaFtN
import Derived.Test.YtidlloelinmnnaaEn
import Derived.Test.YtidlloelinmnnaaSame
import Derived.BigQuiet
namespace Go.Proofs.Ytidlloelinmnnaa
open Go.RowKit Go.Shelf
set_option linter.unusedVariables false
set_option linter.unusedSimpArgs false

theorem fzZ_fxF (Z : Nat → Int) (n : Nat) : ∀ j, j < n * 4 → fzZ (fxF Z 0 n) j = Z j := fun j hj => by
  have h1 := fxAt_fzZ (fxF Z 0 n) (j / 4) (fxAt Z (0 + j / 4)) (fxF_at Z n 0 (j / 4) (by omega))
  rw [Nat.zero_add] at h1
  unfold fxAt at h1
  simp only [Fx.mk.injEq] at h1
  obtain ⟨a, b, c, d⟩ := h1
  have h4 : j % 4 = 0 ∨ j % 4 = 1 ∨ j % 4 = 2 ∨ j % 4 = 3 := by omega
  rcases h4 with h | h | h | h
  · rw [show j = j / 4 * 4 by omega]; exact a
  · rw [show j = j / 4 * 4 + 1 by omega]; exact b
  · rw [show j = j / 4 * 4 + 2 by omega]; exact c
  · rw [show j = j / 4 * 4 + 3 by omega]; exact d
/-- the list again, read as it was given -/
theorem RdT.again {lo hi : Nat} {w : World} {v : Value} {Z : Nat → Int} {n : Nat} (h : RdT lo hi w v (fxF Z 0 n).length (fzZ (fxF Z 0 n))) : RdT lo hi w v n Z := by
  rw [fxF_len] at h
  exact h.congr (fzZ_fxF Z n)
theorem RdT.take {lo hi : Nat} {w : World} {a : Option Addr} {n cap k : Nat} {Z : Nat → Int} (h : RdT lo hi w (.slice a n cap) n Z) (hk : k ≤ n) : RdT lo hi w (.slice a k cap) k Z := by
  obtain ⟨ao, c, b, off, e, h2, h3, h4, h5, h6⟩ := h
  simp only [Value.slice.injEq] at e
  obtain ⟨rfl, _, rfl⟩ := e
  exact ⟨a, cap, b, off, rfl, by omega, h3, fun j hj => h4 j (by omega), fun h0 => h5 (by omega), fun j hj => h6 j (by omega)⟩
theorem RdT.dropT {lo hi : Nat} {w : World} {b off n cap k : Nat} {Z : Nat → Int} (h : RdT lo hi w (.slice (some ⟨b, off, none⟩) n cap) n Z) (hk : k ≤ n) : RdT lo hi w (.slice (some ⟨b, off + k * 4, none⟩) (n - k) (cap - k)) (n - k) (dpZ Z k) := by
  obtain ⟨ao, c, b', off', e, h2, h3, h4, h5, h6⟩ := h
  simp only [Value.slice.injEq] at e
  obtain ⟨rfl, _, rfl⟩ := e
  refine ⟨_, cap - k, b', off' + k * 4, rfl, by omega, by omega, fun j hj => h4 _ (by omega), fun h0 => ?_, fun j hj => ?_⟩
  · obtain ⟨e1, h7, h8⟩ := h5 (by omega)
    simp only [Option.some.injEq, Addr.mk.injEq] at e1
    obtain ⟨rfl, rfl, _⟩ := e1
    exact ⟨rfl, h7, h8⟩
  · have := h6 (k * 4 + j) (by omega)
    rw [show off' + k * 4 + j = off' + (k * 4 + j) by omega]; exact this
theorem RdT.dropE {lo hi : Nat} {w : World} {a : Option Addr} {cap : Nat} {Z : Nat → Int} (hc : cap ≤ 9223372036854775807) : RdT lo hi w (.slice a 0 cap) 0 Z :=
  ⟨a, cap, 0, 0, rfl, Nat.zero_le _, hc, fun j hj => by omega, fun h0 => by omega, fun j hj => by omega⟩

set_option maxRecDepth 20000 in
set_option maxHeartbeats 2000000 in
theorem sameFixes_any (v1 v2 : Value) (lo1 hi1 lo2 hi2 n : Nat) (Z1 Z2 : Nat → Int) (w : World) (h1 : RdT lo1 hi1 w v1 n Z1) (h2 : RdT lo2 hi2 w v2 n Z2) (heq : ∀ i, i < n * 4 → Z1 i = Z2 i) (hn : n ≤ 1000) :
    Calls Try.prog 43 #[v1, v2] w (EqPost true w) := by
  have h1' := h1.congr heq
  obtain ⟨ao, cap, b, off, rfl, a2, a3, a4, a5, a6⟩ := h1'
  obtain ⟨ao', cap', b', off', rfl, b2, b3, b4, b5, b6⟩ := h2
  clear heq a4 b4 h1
  have hb : ((n : Int) != n) = false := by simp
  go_enter Try.func43, Try.ntmps43
  go_wp2
  go_loopw [5] (fun i wr => ∃ k m : Nat, k ≤ n ∧ i = .int .i64 k ∧ wr = w.drewN m) (fun i _ => n - (intOf i).toNat)
  case atStart => exact ⟨0, 0, Nat.zero_le _, rfl, rfl⟩
  case round =>
    obtain ⟨k, m, hk, rfl, rfl⟩ := hrel
    by_cases hlt : k < n
    · obtain ⟨rfl, _, _⟩ := a5 (by omega)
      obtain ⟨rfl, _, _⟩ := b5 (by omega)
      obtain ⟨q0, q1, q2, q3⟩ := four_of a6 hlt
      obtain ⟨p0, p1, p2, p3⟩ := four_of b6 hlt
      obtain ⟨x0, e0⟩ : ∃ x, Z2 (k * 4) = x := ⟨_, rfl⟩
      obtain ⟨x1, e1⟩ : ∃ x, Z2 (k * 4 + 1) = x := ⟨_, rfl⟩
      obtain ⟨x2, e2⟩ : ∃ x, Z2 (k * 4 + 2) = x := ⟨_, rfl⟩
      obtain ⟨x3, e3⟩ : ∃ x, Z2 (k * 4 + 3) = x := ⟨_, rfl⟩
      rw [e0] at q0 p0
      rw [e1] at q1 p1
      rw [e2] at q2 p2
      rw [e3] at q3 p3
      have hx0 : (x0 != x0) = false := by simp
      have hx1 : (x1 != x1) = false := by simp
      have hx2 : (x2 != x2) = false := by simp
      have hx3 : (x3 != x3) = false := by simp
      clear a5 b5 a6 b6 e0 e1 e2 e3
      have hlt' : (k : Int) < n := by omega
      go_wp2
      go_quiet (fail)
      go_wp2
      go_roundw
      case rel => exact ⟨k + 1, m + nq, by omega, by go_num, rfl⟩
      case measure => simp [intOf]; omega
    · clear a5 b5 a6 b6
      go_wp2
      go_ret
      exact ⟨rfl, m, rfl⟩

theorem implDo_yes (v u : Value) (lo hi n : Nat) (g : G) (Z : Nat → Int) (w : World) (hv : RdM lo hi w v g) (hu : RdT lo hi w u n Z) (hh : hi ≤ w.heap.size) (hn : n ≤ 1048576) (h : FxOk g n Z) : Calls Try.prog 38 #[v, u] w (GPost true (exG g n Z) w) := by
  have := implFixesDo_any v u lo hi n g Z w hv hu hh hn; rwa [fxB_yes h] at this
theorem implDo_no (v u : Value) (lo hi n : Nat) (g : G) (Z : Nat → Int) (w : World) (hv : RdM lo hi w v g) (hu : RdT lo hi w u n Z) (hh : hi ≤ w.heap.size) (hn : n ≤ 1048576) (h : ¬ FxOk g n Z) : Calls Try.prog 38 #[v, u] w (GPost false G0 w) := by
  have := implFixesDo_any v u lo hi n g Z w hv hu hh hn; rwa [fxB_no h, exG_no h] at this
theorem implBack_yes (v u : Value) (lo hi n : Nat) (g : G) (Z : Nat → Int) (w : World) (hv : RdM lo hi w v g) (hu : RdT lo hi w u n Z) (hh : hi ≤ w.heap.size) (hn : n ≤ 1048576) (h : FxOk g n Z) : Calls Try.prog 41 #[v, u] w (TsPost true (bkL (fxF Z 0 n)).length (fzZ (bkL (fxF Z 0 n))) w) :=
  (implFixesBack_any v u lo hi n g Z w hv hu hh hn).mono fun _ _ k => by have := k.ts (bkE_range g n Z); rwa [fxB_yes h, bkE_yes h] at this
theorem implBack_no (v u : Value) (lo hi n : Nat) (g : G) (Z : Nat → Int) (w : World) (hv : RdM lo hi w v g) (hu : RdT lo hi w u n Z) (hh : hi ≤ w.heap.size) (hn : n ≤ 1048576) (h : ¬ FxOk g n Z) : Calls Try.prog 41 #[v, u] w (TsPost false 0 (fzZ []) w) :=
  (implFixesBack_any v u lo hi n g Z w hv hu hh hn).mono fun _ _ k => by have := k.ts (bkE_range g n Z); rwa [fxB_no h, bkE_no h] at this
theorem implShort_yes (v u : Value) (lo hi n : Nat) (g : G) (Z : Nat → Int) (w : World) (hv : RdM lo hi w v g) (hu : RdT lo hi w u n Z) (hh : hi ≤ w.heap.size) (hn : n ≤ 1048576) (h : FxOk g n Z) : Calls Try.prog 46 #[v, u] w (TsPost true (shL g n Z).length (fzZ (shL g n Z)) w) :=
  (implFixesShort_any v u lo hi n g Z w hv hu hh hn).mono fun _ _ k => by have := k.ts (shE_range g n Z); rwa [fxB_yes h, shE_yes h] at this
theorem implShort_no (v u : Value) (lo hi n : Nat) (g : G) (Z : Nat → Int) (w : World) (hv : RdM lo hi w v g) (hu : RdT lo hi w u n Z) (hh : hi ≤ w.heap.size) (hn : n ≤ 1048576) (h : ¬ FxOk g n Z) : Calls Try.prog 46 #[v, u] w (TsPost false 0 (fzZ []) w) :=
  (implFixesShort_any v u lo hi n g Z w hv hu hh hn).mono fun _ _ k => by have := k.ts (shE_range g n Z); rwa [fxB_no h, shE_no h] at this
theorem implRise_yes (v u : Value) (lo hi n : Nat) (g : G) (Z : Nat → Int) (w : World) (hv : RdM lo hi w v g) (hu : RdT lo hi w u n Z) (hh : hi ≤ w.heap.size) (hn : n ≤ 1048576) (h : FxOk g n Z) : Calls Try.prog 44 #[v, u] w (IbxPost (riE g n Z) true w) := by
  have := implFixesRise_any v u lo hi n g Z w hv hu hh hn; rwa [fxB_yes h] at this
theorem implRise_no (v u : Value) (lo hi n : Nat) (g : G) (Z : Nat → Int) (w : World) (hv : RdM lo hi w v g) (hu : RdT lo hi w u n Z) (hh : hi ≤ w.heap.size) (hn : n ≤ 1048576) (h : ¬ FxOk g n Z) : Calls Try.prog 44 #[v, u] w (IbxPost 0 false w) := by
  have := implFixesRise_any v u lo hi n g Z w hv hu hh hn; rwa [fxB_no h, riE_no h] at this
theorem implValid_b (v u : Value) (lo hi n : Nat) (g : G) (Z : Nat → Int) (w : World) (hv : RdM lo hi w v g) (hu : RdT lo hi w u n Z) (hh : hi ≤ w.heap.size) (hn : n ≤ 1048576) (b : Bool) (h : fxB g n Z = b) : Calls Try.prog 36 #[v, u] w (BlPost b w) := by
  have := implFixesValid_any v u lo hi n g Z w hv hu hh hn; rwa [h] at this
theorem implAre_b (v u : Value) (lo hi n : Nat) (g : G) (Z : Nat → Int) (w : World) (hv : RdM lo hi w v g) (hu : RdT lo hi w u n Z) (hh : hi ≤ w.heap.size) (hn : n ≤ 1048576) (b : Bool) (h : areB g n Z = b) : Calls Try.prog 48 #[v, u] w (BlPost b w) := by
  have := implFixesAre_any v u lo hi n g Z w hv hu hh hn; rwa [h] at this
theorem implMake_yes (v u : Value) (lo hi : Nat) (a b : G) (w : World) (hv : RdM lo hi w v a) (hu : RdM lo hi w u b) (hh : hi ≤ w.heap.size) (h : AkOk a b) : Calls Try.prog 50 #[v, u] w (TsPost true (mkL a b).length (fzZ (mkL a b)) w) :=
  (implFixesMake_any v u lo hi a b w hv hu hh).mono fun _ _ k => by have := k.ts (mkE_range a b); rwa [akB_yes h, mkE_yes h] at this
theorem implMake_no (v u : Value) (lo hi : Nat) (a b : G) (w : World) (hv : RdM lo hi w v a) (hu : RdM lo hi w u b) (hh : hi ≤ w.heap.size) (h : ¬ AkOk a b) : Calls Try.prog 50 #[v, u] w (TsPost false 0 (fzZ []) w) :=
  (implFixesMake_any v u lo hi a b w hv hu hh).mono fun _ _ k => by have := k.ts (mkE_range a b); rwa [akB_no h, mkE_no h] at this
theorem implFar_i (v u : Value) (lo hi : Nat) (a b : G) (w : World) (hv : RdM lo hi w v a) (hu : RdM lo hi w u b) (hh : hi ≤ w.heap.size) (x : Int) (h : faE a b = x) : Calls Try.prog 52 #[v, u] w (IntPost x w) := by
  have := implEditionFar_any v u lo hi a b w hv hu hh; rwa [h] at this
theorem specDo_yes (v u : Value) (lo hi n : Nat) (g : G) (Z : Nat → Int) (w : World) (hv : RdM lo hi w v g) (hu : RdT lo hi w u n Z) (hh : hi ≤ w.heap.size) (hn : n ≤ 1048576) (h : FxOk g n Z) : Calls Try.prog 62 #[v, u] w (SPost true (exG g n Z) w) := by
  have := specFixesDo_any v u lo hi n g Z w hv hu hh hn; rwa [fxB_yes h] at this
theorem specDo_no (v u : Value) (lo hi n : Nat) (g : G) (Z : Nat → Int) (w : World) (hv : RdM lo hi w v g) (hu : RdT lo hi w u n Z) (hh : hi ≤ w.heap.size) (hn : n ≤ 1048576) (h : ¬ FxOk g n Z) : Calls Try.prog 62 #[v, u] w (SPost false G0 w) := by
  have := specFixesDo_any v u lo hi n g Z w hv hu hh hn; rwa [fxB_no h, exG_no h] at this
theorem specBack_yes (v u : Value) (lo hi n : Nat) (g : G) (Z : Nat → Int) (w : World) (hv : RdM lo hi w v g) (hu : RdT lo hi w u n Z) (hh : hi ≤ w.heap.size) (hn : n ≤ 1048576) (h : FxOk g n Z) : Calls Try.prog 42 #[v, u] w (TsPost true (bkL (fxF Z 0 n)).length (fzZ (bkL (fxF Z 0 n))) w) :=
  (specFixesBack_any v u lo hi n g Z w hv hu hh hn).mono fun _ _ k => by have := k.ts (bkE_range g n Z); rwa [fxB_yes h, bkE_yes h] at this
theorem specBack_no (v u : Value) (lo hi n : Nat) (g : G) (Z : Nat → Int) (w : World) (hv : RdM lo hi w v g) (hu : RdT lo hi w u n Z) (hh : hi ≤ w.heap.size) (hn : n ≤ 1048576) (h : ¬ FxOk g n Z) : Calls Try.prog 42 #[v, u] w (TsPost false 0 (fzZ []) w) :=
  (specFixesBack_any v u lo hi n g Z w hv hu hh hn).mono fun _ _ k => by have := k.ts (bkE_range g n Z); rwa [fxB_no h, bkE_no h] at this
theorem specShort_yes (v u : Value) (lo hi n : Nat) (g : G) (Z : Nat → Int) (w : World) (hv : RdM lo hi w v g) (hu : RdT lo hi w u n Z) (hh : hi ≤ w.heap.size) (hn : n ≤ 1048576) (h : FxOk g n Z) : Calls Try.prog 47 #[v, u] w (TsPost true (shL g n Z).length (fzZ (shL g n Z)) w) :=
  (specFixesShort_any v u lo hi n g Z w hv hu hh hn).mono fun _ _ k => by have := k.ts (shE_range g n Z); rwa [fxB_yes h, shE_yes h] at this
theorem specShort_no (v u : Value) (lo hi n : Nat) (g : G) (Z : Nat → Int) (w : World) (hv : RdM lo hi w v g) (hu : RdT lo hi w u n Z) (hh : hi ≤ w.heap.size) (hn : n ≤ 1048576) (h : ¬ FxOk g n Z) : Calls Try.prog 47 #[v, u] w (TsPost false 0 (fzZ []) w) :=
  (specFixesShort_any v u lo hi n g Z w hv hu hh hn).mono fun _ _ k => by have := k.ts (shE_range g n Z); rwa [fxB_no h, shE_no h] at this
theorem specRise_yes (v u : Value) (lo hi n : Nat) (g : G) (Z : Nat → Int) (w : World) (hv : RdM lo hi w v g) (hu : RdT lo hi w u n Z) (hh : hi ≤ w.heap.size) (hn : n ≤ 1048576) (h : FxOk g n Z) : Calls Try.prog 54 #[v, u] w (IbxPost (riE g n Z) true w) := by
  have := specFixesRise_any v u lo hi n g Z w hv hu hh hn; rwa [fxB_yes h] at this
theorem specRise_no (v u : Value) (lo hi n : Nat) (g : G) (Z : Nat → Int) (w : World) (hv : RdM lo hi w v g) (hu : RdT lo hi w u n Z) (hh : hi ≤ w.heap.size) (hn : n ≤ 1048576) (h : ¬ FxOk g n Z) : Calls Try.prog 54 #[v, u] w (IbxPost 0 false w) := by
  have := specFixesRise_any v u lo hi n g Z w hv hu hh hn; rwa [fxB_no h, riE_no h] at this
theorem specValid_b (v u : Value) (lo hi n : Nat) (g : G) (Z : Nat → Int) (w : World) (hv : RdM lo hi w v g) (hu : RdT lo hi w u n Z) (hh : hi ≤ w.heap.size) (hn : n ≤ 1048576) (b : Bool) (h : fxB g n Z = b) : Calls Try.prog 37 #[v, u] w (BlPost b w) := by
  have := specFixesValid_any v u lo hi n g Z w hv hu hh hn; rwa [h] at this
theorem specAre_b (v u : Value) (lo hi n : Nat) (g : G) (Z : Nat → Int) (w : World) (hv : RdM lo hi w v g) (hu : RdT lo hi w u n Z) (hh : hi ≤ w.heap.size) (hn : n ≤ 1048576) (b : Bool) (h : areB g n Z = b) : Calls Try.prog 60 #[v, u] w (BlPost b w) := by
  have := specFixesAre_any v u lo hi n g Z w hv hu hh hn; rwa [h] at this
theorem specMake_yes (v u : Value) (lo hi : Nat) (a b : G) (w : World) (hv : RdM lo hi w v a) (hu : RdM lo hi w u b) (hh : hi ≤ w.heap.size) (h : AkOk a b) : Calls Try.prog 51 #[v, u] w (TsPost true (mkL a b).length (fzZ (mkL a b)) w) :=
  (specFixesMake_any v u lo hi a b w hv hu hh).mono fun _ _ k => by have := k.ts (mkE_range a b); rwa [akB_yes h, mkE_yes h] at this
theorem specMake_no (v u : Value) (lo hi : Nat) (a b : G) (w : World) (hv : RdM lo hi w v a) (hu : RdM lo hi w u b) (hh : hi ≤ w.heap.size) (h : ¬ AkOk a b) : Calls Try.prog 51 #[v, u] w (TsPost false 0 (fzZ []) w) :=
  (specFixesMake_any v u lo hi a b w hv hu hh).mono fun _ _ k => by have := k.ts (mkE_range a b); rwa [akB_no h, mkE_no h] at this
theorem specFar_i (v u : Value) (lo hi : Nat) (a b : G) (w : World) (hv : RdM lo hi w v a) (hu : RdM lo hi w u b) (hh : hi ≤ w.heap.size) (x : Int) (h : faE a b = x) : Calls Try.prog 56 #[v, u] w (IntPost x w) := by
  have := specEditionFar_any v u lo hi a b w hv hu hh; rwa [h] at this

end Go.Proofs.Ytidlloelinmnnaa
