/- Flipped maps: what is reckoned, and the contracts. -/
import Derived.Test.YthelaffjpmcdbaaSwE
import Derived.Test.YthelaffjpmcdbaaLf
import Derived.Test.YthelaffjpmcdbaaFl
import Derived.Test.YthelaffjpmcdbaaStW
import Derived.BigQuiet
namespace Go.Proofs.Ythelaffjpmcdbaa
open Go.RowKit
set_option linter.unusedVariables false

set_option maxRecDepth 20000 in
set_option maxHeartbeats 2000000 in
theorem sameLabels_any (v1 v2 : Value) (lo1 hi1 lo2 hi2 n : Nat) (Z1 Z2 : Nat → Int) (w : World) (h1 : RdT lo1 hi1 w v1 n Z1) (h2 : RdT lo2 hi2 w v2 n Z2) (heq : ∀ i, i < n * 4 → Z1 i = Z2 i) (hn : n ≤ 1000) :
    Calls Try.prog 31 #[v1, v2] w (EqPost true w) := by
  have h1' := h1.congr heq
  obtain ⟨ao, cap, b, off, rfl, a2, a3, a4, a5, a6⟩ := h1'
  obtain ⟨ao', cap', b', off', rfl, b2, b3, b4, b5, b6⟩ := h2
  clear heq a4 b4 h1
  have hb : ((n : Int) != n) = false := by simp
  go_enter Try.func31, Try.ntmps31
  go_wp2
  go_loopw [5] (fun i wr => ∃ k m : Nat, k ≤ n ∧ i = .int .i64 k ∧ wr = w.drewN m) (fun i _ => n - (intOf i).toNat)
  case atStart => exact ⟨0, 0, Nat.zero_le _, rfl, rfl⟩
  case round =>
    obtain ⟨k, m, hk, rfl, rfl⟩ := hrel
    by_cases hlt : k < n
    · obtain ⟨rfl, _, _⟩ := a5 (by omega)
      obtain ⟨rfl, _, _⟩ := b5 (by omega)
      obtain ⟨q0, q1, q2, q3⟩ := four_of a6 hlt
      obtain ⟨p0, p1, p2, p3⟩ := four_of b6 hlt
      obtain ⟨x0, e0⟩ : ∃ x, Z2 (k * 4) = x := ⟨_, rfl⟩
      obtain ⟨x1, e1⟩ : ∃ x, Z2 (k * 4 + 1) = x := ⟨_, rfl⟩
      obtain ⟨x2, e2⟩ : ∃ x, Z2 (k * 4 + 2) = x := ⟨_, rfl⟩
      obtain ⟨x3, e3⟩ : ∃ x, Z2 (k * 4 + 3) = x := ⟨_, rfl⟩
      rw [e0] at q0 p0
      rw [e1] at q1 p1
      rw [e2] at q2 p2
      rw [e3] at q3 p3
      have hx0 : (x0 != x0) = false := by simp
      have hx1 : (x1 != x1) = false := by simp
      have hx2 : (x2 != x2) = false := by simp
      have hx3 : (x3 != x3) = false := by simp
      clear a5 b5 a6 b6 e0 e1 e2 e3
      have hlt' : (k : Int) < n := by omega
      go_wp2
      go_quiet (fail)
      go_wp2
      go_roundw
      case rel => exact ⟨k + 1, m + nq, by omega, by go_num, rfl⟩
      case measure => simp [intOf]; omega
    · clear a5 b5 a6 b6
      go_wp2
      go_ret
      exact ⟨rfl, m, rfl⟩


theorem flI_flI {s : Int} (h : -1 ≤ s ∧ s ≤ 3) : flI (flI s) = s := by
  rcases (by omega : s = -1 ∨ s = 0 ∨ s = 1 ∨ s = 2 ∨ s = 3) with rfl | rfl | rfl | rfl | rfl <;> decide
theorem flZ_flZ (Z : Nat → Int) (j : Nat) : flZ (flZ Z) j = Z j := by
  unfold flZ
  by_cases h : j % 4 = 1
  · rw [if_pos h, if_pos h]; omega
  · rw [if_neg h, if_neg h]
/-- a place on the flipped map -/
def fj (j : Nat) : Nat := 10 * (9 - j / 10) + j % 10
theorem fl_label {n : Nat} {Z : Nat → Int} (h : LsOk n Z) : LsOk n (flZ Z) := by
  refine ⟨h.1, fun i hi => ?_⟩
  obtain ⟨e0, e1, e2, e3⟩ := flZ_at Z i
  obtain ⟨⟨a0, a1, a2, a3⟩, hs⟩ := h.2 i hi
  refine ⟨?_, fun k hk => ?_⟩
  · rw [e0, e1, e2, e3]
    exact ⟨a0, by omega, a2, a3⟩
  · obtain ⟨f0, f1, _, _⟩ := flZ_at Z k
    intro hsp
    refine hs k hk ?_
    unfold Spot at hsp ⊢
    rw [e0, e1, f0, f1] at hsp
    exact ⟨hsp.1, by omega⟩
theorem fl_pc {Z : Nat → Int} {k : Nat} {s : Int} (hs : 0 ≤ s ∧ s ≤ 3) : PcZ (flZ Z) k (flI s) ↔ PcZ Z k s := by
  obtain ⟨e0, e1, e2, e3⟩ := flZ_at Z k
  unfold PcZ
  rw [e0, e1, e2]
  unfold PcOk weX weY flI
  rcases (by omega : s = 0 ∨ s = 1 ∨ s = 2 ∨ s = 3) with rfl | rfl | rfl | rfl
  · simp; omega
  · simp; omega
  · simp; omega
  · simp; omega
theorem fl_wd (Z : Nat → Int) (k : Nat) : wdN (flZ Z) k = wdN Z k := by
  unfold wdN; rw [(flZ_at Z k).2.2.1]
/-- a label's row and first column at a side -/
theorem at_row {Z : Nat → Int} {k : Nat} {s : Int} (h : LzOk Z k) (hp : PcZ Z k s) : ∃ X Y : Nat, X + wdN Z k ≤ 10 ∧ Y ≤ 9 ∧ atA Z k s = 10 * Y + X ∧ weX (Z (k * 4)) (Z (k * 4 + 2)) s = X ∧ weY (Z (k * 4 + 1)) s = Y := by
  obtain ⟨h1, h2, h3, h4⟩ := at_facts h hp
  have hp2 := hp
  unfold PcZ PcOk at hp2
  refine ⟨(weX (Z (k * 4)) (Z (k * 4 + 2)) s).toNat, (weY (Z (k * 4 + 1)) s).toNat, by omega, by omega, ?_, by omega, by omega⟩
  have h5 : (atA Z k s : Int) = 10 * weY (Z (k * 4 + 1)) s + weX (Z (k * 4)) (Z (k * 4 + 2)) s := h1
  omega
theorem fl_we {x y a s : Int} (hs : 0 ≤ s ∧ s ≤ 3) : weX x a (flI s) = weX x a s ∧ weY (9 - y) (flI s) = 9 - weY y s := by
  unfold weX weY flI
  rcases (by omega : s = 0 ∨ s = 1 ∨ s = 2 ∨ s = 3) with rfl | rfl | rfl | rfl
  · simp
  · simp
  · simp; omega
  · simp; omega
theorem fl_cv {Z : Nat → Int} {k : Nat} {s : Int} (h : LzOk Z k) (h' : LzOk (flZ Z) k) (hs : 0 ≤ s ∧ s ≤ 3) (hp : PcZ Z k s) {j : Nat} (hj : j < 100) : Cv (flZ Z) k (flI s) j ↔ Cv Z k s (fj j) := by
  obtain ⟨X, Y, h1, h2, h3, h4, h5⟩ := at_row h hp
  obtain ⟨X', Y', g1, g2, g3, g4, g5⟩ := at_row h' ((fl_pc hs).2 hp)
  obtain ⟨e0, e1, e2, e3⟩ := flZ_at Z k
  rw [e0, e2, (fl_we (y := 0) hs).1] at g4
  rw [e1, (fl_we (x := 0) (a := 0) hs).2] at g5
  rw [fl_wd] at g1
  have hw := (at_facts h hp).2.1
  unfold Cv
  rw [fl_wd, h3, g3]
  unfold fj
  omega
/-- flipped maps bear labels at flipped places -/
def FlM (M M' : Nat → Int) : Prop := ∀ j, j < 100 → (M' j = 0 ↔ M (fj j) = 0)
theorem fl_point {Z : Nat → Int} {k : Nat} (h : LzOk Z k) {j : Nat} (hj : j < 100) : ptN (flZ Z) k = j ↔ ptN Z k = fj j := by
  obtain ⟨e0, e1, e2, e3⟩ := flZ_at Z k
  have h0 := h.1.1
  have h1 := h.1.2.1
  unfold ptN fj
  rw [e0, e1]
  omega
theorem fj_lt {j : Nat} (h : j < 100) : fj j < 100 := by unfold fj; omega
theorem fj_fj {j : Nat} (h : j < 100) : fj (fj j) = j := by unfold fj; omega
theorem flM_start {n : Nat} {Z : Nat → Int} (h : LsOk n Z) : FlM (mpK Z n) (mpK (flZ Z) n) := by
  intro j hj
  have hp : ∀ p, p < n → (ptN (flZ Z) p = j ↔ ptN Z p = fj j) := fun p hp => fl_point (h.2 p hp) hj
  rcases mpK_is Z (fj j) n with ⟨h1, h2⟩ | ⟨h1, p, h2, h3⟩
  · rcases mpK_is (flZ Z) j n with ⟨g1, _⟩ | ⟨_, q, g2, g3⟩
    · exact ⟨fun _ => h1, fun _ => g1⟩
    · exact absurd ((hp q g2).1 g3) (h2 q g2)
  · rcases mpK_is (flZ Z) j n with ⟨_, g2⟩ | ⟨g1, _⟩
    · exact absurd ((hp p h2).2 h3) (g2 p h2)
    · exact ⟨fun e => by omega, fun e => by omega⟩
theorem fl_fit {Z : Nat → Int} {M M' : Nat → Int} {k : Nat} {s : Int} (h : LzOk Z k) (h' : LzOk (flZ Z) k) (hs : 0 ≤ s ∧ s ≤ 3) (hm : FlM M M') : Fit (flZ Z) M' k (flI s) ↔ Fit Z M k s := by
  have hs' : 0 ≤ flI s ∧ flI s ≤ 3 := by unfold flI; split <;> (try split) <;> omega
  unfold Fit
  rw [fl_pc hs, fl_wd]
  constructor
  · rintro ⟨_, h2, h3⟩
    refine ⟨hs, h2, fun i hi => ?_⟩
    have hc := at_facts h h2
    have hj : atA Z k s + i < 100 := by omega
    have hcv : Cv Z k s (fj (fj (atA Z k s + i))) := by rw [fj_fj hj]; exact ⟨by omega, by omega⟩
    have hcv2 := (fl_cv h h' hs h2 (fj_lt hj)).2 hcv
    have h4 := h3 (fj (atA Z k s + i) - atA (flZ Z) k (flI s)) (by have := hcv2.1; have := hcv2.2; rw [fl_wd] at this; omega)
    rw [show atA (flZ Z) k (flI s) + (fj (atA Z k s + i) - atA (flZ Z) k (flI s)) = fj (atA Z k s + i) by have := hcv2.1; omega] at h4
    have h5 := (hm _ (fj_lt hj)).1 h4
    rwa [fj_fj hj] at h5
  · rintro ⟨_, h2, h3⟩
    refine ⟨hs', h2, fun i hi => ?_⟩
    have hc := at_facts h' ((fl_pc hs).2 h2)
    rw [fl_wd] at hc
    have hj : atA (flZ Z) k (flI s) + i < 100 := by omega
    have hcv2 := (fl_cv h h' hs h2 hj).1 ⟨by omega, by rw [fl_wd]; omega⟩
    refine (hm _ hj).2 ?_
    have h4 := h3 (fj (atA (flZ Z) k (flI s) + i) - atA Z k s) (by have := hcv2.1; have := hcv2.2; omega)
    rwa [show atA Z k s + (fj (atA (flZ Z) k (flI s) + i) - atA Z k s) = fj (atA (flZ Z) k (flI s) + i) by have := hcv2.1; omega] at h4
theorem fl_stp {Z : Nat → Int} {M M' : Nat → Int} {k : Nat} {s : Int} (h : LzOk Z k) (h' : LzOk (flZ Z) k) (hs : 0 ≤ s ∧ s ≤ 3) (hp : PcZ Z k s) (hm : FlM M M') : FlM (stp Z M k s) (stp (flZ Z) M' k (flI s)) := by
  intro j hj
  have hc := fl_cv h h' hs hp hj
  show (if Cv (flZ Z) k (flI s) j then (k : Int) + 1 else M' j) = 0 ↔ (if Cv Z k s (fj j) then (k : Int) + 1 else M (fj j)) = 0
  by_cases e : Cv Z k s (fj j)
  · rw [if_pos e, if_pos (hc.2 e)]
  · rw [if_neg e, if_neg (fun g => e (hc.1 g))]
    exact hm j hj
/-- flipped sides are a setting of flipped labels -/
theorem fl_alK {n : Nat} {Z : Nat → Int} (h : LsOk n Z) {sd : Nat → Int} : ∀ i M, i ≤ n → alK Z n sd i = some M → ∃ M', alK (flZ Z) n (fun k => flI (sd k)) i = some M' ∧ FlM M M'
  | 0, M, _, hM => by
    have e : mpK Z n = M := by simpa [alK] using hM
    subst e
    exact ⟨_, rfl, flM_start h⟩
  | i + 1, M, hi, hM => by
    cases e : alK Z n sd i with
    | none => rw [alK_none e] at hM; cases hM
    | some M0 =>
      obtain ⟨M', h1, h2⟩ := fl_alK h i M0 (by omega) e
      by_cases hs : sd i = -1
      · rw [alK_out e hs] at hM
        simp only [Option.some.injEq] at hM
        subst hM
        exact ⟨M', alK_out h1 (by show flI (sd i) = -1; rw [hs]; decide), h2⟩
      · by_cases hf : Fit Z M0 i (sd i)
        · rw [alK_yes e hs hf] at hM
          simp only [Option.some.injEq] at hM
          subst hM
          have hz := h.2 i (by omega)
          have hz' := (fl_label h).2 i (by omega)
          have hne : ¬ flI (sd i) = -1 := by
            have := hf.1
            unfold flI; split <;> (try split) <;> omega
          exact ⟨_, alK_yes h1 hne ((fl_fit hz hz' hf.1 h2).2 hf), fl_stp hz hz' hf.1 hf.2.1 h2⟩
        · rw [alK_no e hs hf] at hM; cases hM
theorem fl_weight (Z : Nat → Int) (sd : Nat → Int) : ∀ i, (∀ k, k < i → -1 ≤ sd k ∧ sd k ≤ 3) → wtK (flZ Z) (fun k => flI (sd k)) i = wtK Z sd i
  | 0, _ => rfl
  | i + 1, h => by
    have ih := fl_weight Z sd i (fun k hk => h k (by omega))
    have hr := h i (by omega)
    show (if flI (sd i) = -1 then wtK (flZ Z) (fun k => flI (sd k)) i else wtK (flZ Z) (fun k => flI (sd k)) i + flZ Z (i * 4 + 3)) = (if sd i = -1 then wtK Z sd i else wtK Z sd i + Z (i * 4 + 3))
    rw [ih, (flZ_at Z i).2.2.2]
    by_cases e : sd i = -1
    · rw [if_pos e, if_pos (by rw [e]; decide)]
    · rw [if_neg e, if_neg (by unfold flI; split <;> (try split) <;> omega)]
theorem fl_fit4 {Z : Nat → Int} {M M' : Nat → Int} {k : Nat} (h : LzOk Z k) (h' : LzOk (flZ Z) k) (hm : FlM M M') :
    (Fit (flZ Z) M' k 0 ↔ Fit Z M k 0) ∧ (Fit (flZ Z) M' k 1 ↔ Fit Z M k 1) ∧ (Fit (flZ Z) M' k 3 ↔ Fit Z M k 2) ∧ (Fit (flZ Z) M' k 2 ↔ Fit Z M k 3) :=
  ⟨fl_fit (s := 0) h h' (by omega) hm, fl_fit (s := 1) h h' (by omega) hm, fl_fit (s := 2) h h' (by omega) hm, fl_fit (s := 3) h h' (by omega) hm⟩
theorem fl_stp4 {Z : Nat → Int} {M M' : Nat → Int} {k : Nat} (h : LzOk Z k) (h' : LzOk (flZ Z) k) (hm : FlM M M') :
    (Fit Z M k 0 → FlM (stp Z M k 0) (stp (flZ Z) M' k 0)) ∧ (Fit Z M k 1 → FlM (stp Z M k 1) (stp (flZ Z) M' k 1)) ∧ (Fit Z M k 2 → FlM (stp Z M k 2) (stp (flZ Z) M' k 3)) ∧ (Fit Z M k 3 → FlM (stp Z M k 3) (stp (flZ Z) M' k 2)) :=
  ⟨fun f => fl_stp (s := 0) h h' (by omega) f.2.1 hm, fun f => fl_stp (s := 1) h h' (by omega) f.2.1 hm, fun f => fl_stp (s := 2) h h' (by omega) f.2.1 hm, fun f => fl_stp (s := 3) h h' (by omega) f.2.1 hm⟩
noncomputable def c1 (Z M : Nat → Int) (k : Nat) (s : Int) (c : (Nat → Int) → Nat) : Nat := if ftB Z M k s = true then c (stp Z M k s) else 0
theorem ct1_four (Z : Nat → Int) (k : Nat) (M : Nat → Int) (c : (Nat → Int) → Nat) : ct1 Z k M c 4 = c1 Z M k 0 c + c1 Z M k 1 c + c1 Z M k 2 c + c1 Z M k 3 c := by
  show 0 + c1 Z M k ((0 : Nat) : Int) c + c1 Z M k ((1 : Nat) : Int) c + c1 Z M k ((2 : Nat) : Int) c + c1 Z M k ((3 : Nat) : Int) c = _
  simp
theorem c1_eq {Z Z' M M' : Nat → Int} {k : Nat} {s s' : Int} {c c' : (Nat → Int) → Nat} (h : Fit Z' M' k s' ↔ Fit Z M k s) (hc : Fit Z M k s → c' (stp Z' M' k s') = c (stp Z M k s)) : c1 Z' M' k s' c' = c1 Z M k s c := by
  unfold c1
  by_cases f : Fit Z M k s
  · rw [ftB_yes f, ftB_yes (h.2 f), if_pos rfl, if_pos rfl]; exact hc f
  · rw [ftB_no f, ftB_no (fun g => f (h.1 g))]; rfl
/-- as many settings -/
theorem fl_ct {n : Nat} {Z : Nat → Int} (h : LsOk n Z) : ∀ f k M M', k + f = n → FlM M M' → ct (flZ Z) f k M' = ct Z f k M
  | 0, _, _, _, _, _ => rfl
  | f + 1, k, M, M', hk, hm => by
    show ct (flZ Z) f (k + 1) M' + ct1 (flZ Z) k M' (ct (flZ Z) f (k + 1)) 4 = ct Z f (k + 1) M + ct1 Z k M (ct Z f (k + 1)) 4
    have hz := h.2 k (by omega)
    have hz' := (fl_label h).2 k (by omega)
    obtain ⟨a0, a1, a2, a3⟩ := fl_fit4 hz hz' hm
    obtain ⟨b0, b1, b2, b3⟩ := fl_stp4 hz hz' hm
    rw [fl_ct h f (k + 1) M M' (by omega) hm, ct1_four, ct1_four,
      c1_eq a0 (fun g => fl_ct h f (k + 1) _ _ (by omega) (b0 g)), c1_eq a1 (fun g => fl_ct h f (k + 1) _ _ (by omega) (b1 g)),
      c1_eq a2 (fun g => fl_ct h f (k + 1) _ _ (by omega) (b2 g)), c1_eq a3 (fun g => fl_ct h f (k + 1) _ _ (by omega) (b3 g))]
    omega
/-- as good ones -/
noncomputable def g1 (Z M : Nat → Int) (k : Nat) (s : Int) (o x : Int) (r : (Nat → Int) → Int) : Int := if ftB Z M k s = true then max x (o + r (stp Z M k s)) else x
theorem bs1_four (Z : Nat → Int) (k : Nat) (M : Nat → Int) (o c : Int) (r : (Nat → Int) → Int) : bs1 Z k M o c r 4 = g1 Z M k 3 o (g1 Z M k 2 o (g1 Z M k 1 o (g1 Z M k 0 o c r) r) r) r := rfl
theorem g1_eq {Z Z' M M' : Nat → Int} {k : Nat} {s s' o x : Int} {r r' : (Nat → Int) → Int} (h : Fit Z' M' k s' ↔ Fit Z M k s) (hc : Fit Z M k s → r' (stp Z' M' k s') = r (stp Z M k s)) : g1 Z' M' k s' o x r' = g1 Z M k s o x r := by
  unfold g1
  by_cases f : Fit Z M k s
  · rw [ftB_yes f, ftB_yes (h.2 f), if_pos rfl, if_pos rfl, hc f]
  · rw [ftB_no f, ftB_no (fun g => f (h.1 g))]; rfl
theorem g1_swap (Z M : Nat → Int) (k : Nat) (s t o x : Int) (r : (Nat → Int) → Int) : g1 Z M k s o (g1 Z M k t o x r) r = g1 Z M k t o (g1 Z M k s o x r) r := by
  unfold g1
  split <;> split <;> omega
theorem fl_bst {n : Nat} {Z : Nat → Int} (h : LsOk n Z) (b : Bool) : ∀ f k M M', k + f = n → FlM M M' → bst (flZ Z) b f k M' = bst Z b f k M
  | 0, _, _, _, _, _ => rfl
  | f + 1, k, M, M', hk, hm => by
    show bs1 (flZ Z) k M' (ow (flZ Z) b k) (bst (flZ Z) b f (k + 1) M') (bst (flZ Z) b f (k + 1)) 4 = bs1 Z k M (ow Z b k) (bst Z b f (k + 1) M) (bst Z b f (k + 1)) 4
    have hz := h.2 k (by omega)
    have hz' := (fl_label h).2 k (by omega)
    obtain ⟨a0, a1, a2, a3⟩ := fl_fit4 hz hz' hm
    obtain ⟨b0, b1, b2, b3⟩ := fl_stp4 hz hz' hm
    have ho : ow (flZ Z) b k = ow Z b k := by unfold ow; rw [(flZ_at Z k).2.2.2]
    rw [ho, fl_bst h b f (k + 1) M M' (by omega) hm, bs1_four, bs1_four,
      g1_eq a0 (fun g => fl_bst h b f (k + 1) _ _ (by omega) (b0 g)), g1_eq a1 (fun g => fl_bst h b f (k + 1) _ _ (by omega) (b1 g)),
      g1_eq a3 (fun g => fl_bst h b f (k + 1) _ _ (by omega) (b3 g)), g1_eq a2 (fun g => fl_bst h b f (k + 1) _ _ (by omega) (b2 g)), g1_swap]
theorem fl_set {n : Nat} {Z sd : Nat → Int} (h : StOk n Z n sd) : StOk n (flZ Z) n (fun k => flI (sd k)) := by
  obtain ⟨h1, _, M, h3⟩ := h
  obtain ⟨M', h4, _⟩ := fl_alK h1 n M (Nat.le_refl _) h3
  exact ⟨fl_label h1, rfl, M', h4⟩
theorem st_range {n : Nat} {Z sd : Nat → Int} (h : StOk n Z n sd) : ∀ k, k < n → -1 ≤ sd k ∧ sd k ≤ 3 := by
  obtain ⟨_, _, M, h3⟩ := h
  exact alK_range n M h3
/-- the weights of the flipped best and of the best flipped one -/
theorem fl_best {n : Nat} {Z : Nat → Int} (h : LsOk n Z) : wtK (flZ Z) (fun k => flI (bsG n Z k)) n = wtK (flZ Z) (bsG n (flZ Z)) n := by
  obtain ⟨h1, h2⟩ := bsG_best h
  obtain ⟨h3, h4⟩ := bsG_best (fl_label h)
  rw [fl_weight Z _ n (st_range h1), h2, h4, fl_bst h true n 0 _ _ (by omega) (flM_start h)]

theorem implFlip_yes (v : Value) (lo hi n : Nat) (Z : Nat → Int) (w : World) (hv : RdT lo hi w v n Z) (hh : hi ≤ w.heap.size) (h : LsOk n Z) : Calls Try.prog 34 #[v] w (TgPost true n (flZ Z) w) := by
  have h1 := implLabelsFlip_any v lo hi n Z w hv hh (by have := h.1; omega)
  have e : lsM n Z = n := by unfold lsM; rw [lsB_yes h]; rfl
  rwa [lsB_yes h, e] at h1
theorem specFlip_yes (v : Value) (lo hi n : Nat) (Z : Nat → Int) (w : World) (hv : RdT lo hi w v n Z) (hh : hi ≤ w.heap.size) (h : LsOk n Z) : Calls Try.prog 35 #[v] w (TsPost true n (flZ Z) w) := by
  have h1 := specLabelsFlip_any v lo hi n Z w hv hh (by have := h.1; omega)
  have e : lsM n Z = n := by unfold lsM; rw [lsB_yes h]; rfl
  rwa [lsB_yes h, e] at h1
theorem implFlip_no (v : Value) (lo hi n : Nat) (Z : Nat → Int) (w : World) (hv : RdT lo hi w v n Z) (hh : hi ≤ w.heap.size) (hn : n ≤ 1000) (h : ¬ LsOk n Z) : Calls Try.prog 34 #[v] w (TgPost false 0 (flZ Z) w) := by
  have h1 := implLabelsFlip_any v lo hi n Z w hv hh (by omega)
  have e : lsM n Z = 0 := by unfold lsM; rw [lsB_no h]; rfl
  rwa [lsB_no h, e] at h1
theorem specFlip_no (v : Value) (lo hi n : Nat) (Z : Nat → Int) (w : World) (hv : RdT lo hi w v n Z) (hh : hi ≤ w.heap.size) (hn : n ≤ 1000) (h : ¬ LsOk n Z) : Calls Try.prog 35 #[v] w (TsPost false 0 (flZ Z) w) := by
  have h1 := specLabelsFlip_any v lo hi n Z w hv hh (by omega)
  have e : lsM n Z = 0 := by unfold lsM; rw [lsB_no h]; rfl
  rwa [lsB_no h, e] at h1
theorem implMost_yes (v : Value) (hi n : Nat) (Z : Nat → Int) (w : World) (hv : RdT 0 hi w v n Z) (hh : hi ≤ w.heap.size) (h : LsOk n Z) : Calls Try.prog 32 #[v] w (IntPost (bst Z false n 0 (mpK Z n)) w) := by
  have h1 := implSettingMost_any v hi n Z w hv hh (by have := h.1; omega)
  have e : soV n Z = bst Z false n 0 (mpK Z n) := by unfold soV; rw [lsB_yes h]; rfl
  rwa [e] at h1
theorem implSf_at (v : Value) (lo hi n : Nat) (Z : Nat → Int) (w : World) (hv : RdI lo hi w v n Z) (hh : hi ≤ w.heap.size) (hn : n ≤ 1000) (hr : ∀ k, k < n → -1 ≤ Z k ∧ Z k ≤ 3) : Calls Try.prog 36 #[v] w (LsPost1 n (fun k => flI (Z k)) w) :=
  (implSettingFlip_any v lo hi n Z w hv hh (by omega)).mono fun e w' ⟨v', h1, h2, h3⟩ => by
    have h4 := own_nums h2 (fun i hi => by
      have := hr i hi
      have : -1 ≤ flI (Z i) ∧ flI (Z i) ≤ 3 := by unfold flI; split <;> (try split) <;> omega
      omega)
    obtain ⟨a, c, e2⟩ := nums_shape h2
    exact ⟨v', h1, ⟨a, n, c, e2⟩, h4.rd, h3⟩
end Go.Proofs.Ythelaffjpmcdbaa
