/- The contracts of peaks and regions, without 'if'. -/
import Derived.Test.YtcfeckpbjdipeaaPkR
import Derived.Test.YtcfeckpbjdipeaaDrawPk
import Derived.Test.YtcfeckpbjdipeaaPHelp
import Derived.Test.YtcfeckpbjdipeaaPHasB
import Derived.Test.YtcfeckpbjdipeaaIslZ
namespace Go.Proofs.Ytcfeckpbjdipeaa
open Go.RowKit
set_option linter.unusedVariables false

/-- the levels over the least height -/
structure LvSum (g : G) (L H m : Nat) (S r : Nat → Int) : Prop where
  low : mn g.flat (g.n * g.len 0) = (L : Int)
  high : mx g.flat (g.n * g.len 0) = (H : Int)
  sum : L + m = H
  top : H ≤ 99
  zero : S 0 = 0
  step : ∀ k, k < m → S (k + 1) = S k + r k
  range : ∀ k, k ≤ m → 0 ≤ S k ∧ S k ≤ 5000
  rg : ∀ k, k < m → g.rgV ((L : Int) + 1 + (k : Int)) = r k ∧ 0 ≤ r k ∧ r k ≤ 49
  all : g.smV = S m
theorem lvSum_ex {g : G} (h : g.Valid) : ∃ L H m S r, LvSum g L H m S r := by
  have hpos : 0 < g.n * g.len 0 := Nat.mul_pos h.1.1 h.2.1.1
  have h49 := mul_le_49 h.1.2 h.2.1.2
  obtain ⟨x, hx, ex⟩ := mn_isK g.flat hpos
  have hx2 := flat_okW h hx
  have hmm := mn_mx (Z := g.flat) hpos
  obtain ⟨y, hy, ey⟩ : ∃ y, y < g.n * g.len 0 ∧ mx g.flat (g.n * g.len 0) ≤ g.flat y := by
    apply Classical.byContradiction
    intro hc
    have hall : ∀ x, x < g.n * g.len 0 → g.flat x ≤ mx g.flat (g.n * g.len 0) - 1 := fun x hx => by
      apply Classical.byContradiction
      intro hn
      exact hc ⟨x, hx, by omega⟩
    have := mx_le (Z := g.flat) (y := mx g.flat (g.n * g.len 0) - 1) (g.n * g.len 0) (hall 0 hpos) hall
    omega
  have hy2 := flat_okW h hy
  have e1 : mn g.flat (g.n * g.len 0) = ((mn g.flat (g.n * g.len 0)).toNat : Int) := by omega
  have e2 : mx g.flat (g.n * g.len 0) = ((mx g.flat (g.n * g.len 0)).toNat : Int) := by omega
  refine ⟨(mn g.flat (g.n * g.len 0)).toNat, (mx g.flat (g.n * g.len 0)).toNat, (mx g.flat (g.n * g.len 0)).toNat - (mn g.flat (g.n * g.len 0)).toNat, rgS g.n (g.len 0) g.flat (mn g.flat (g.n * g.len 0)), fun k => rgN g.n (g.len 0) g.flat (mn g.flat (g.n * g.len 0) + k + 1) (g.n * g.len 0), e1, e2, by omega, by omega, rfl, fun k hk => rgS_succ _ _ _ _ _, fun k hk => ?_, fun k hk => ?_, ?_⟩
  · have := rgS_range (R := g.n) (C := g.len 0) (Z := g.flat) (low := mn g.flat (g.n * g.len 0)) h49 k
    omega
  · have := rgN_le g.n (g.len 0) g.flat (mn g.flat (g.n * g.len 0) + k + 1) (g.n * g.len 0)
    rw [← e1, G.rgV_yes ⟨h, by omega, by omega⟩, show mn g.flat (g.n * g.len 0) + 1 + (k : Int) = mn g.flat (g.n * g.len 0) + k + 1 by omega]
    exact ⟨rfl, by omega, by omega⟩
  · exact G.smV_levels h (by omega)

noncomputable def keyN (R C : Nat) (Z : Nat → Int) (j : Nat) : Int := open Classical in if h : j < R * C then keyV R C Z ⟨j, h⟩ else 0
theorem keyN_at {R C : Nat} {Z : Nat → Int} (i : Ix (R * C)) : keyN R C Z i.1 = keyV R C Z i := by unfold keyN; rw [dif_pos i.2]
theorem topP_n {R C : Nat} {Z : Nat → Int} {lv : Int} {j : Nat} (h : j < R * C) : topP R C Z lv j = (decide (lv ≤ Z j) && decide (keyN R C Z j < lv)) := by
  rw [show j = (⟨j, h⟩ : Ix (R * C)).1 from rfl, keyN_at, topP_at]

theorem owI_congrP {lo hi : Nat} {w : World} {v : Value} {n : Nat} {Z Z' : Nat → Int} (h : OwI lo hi w v n Z) (e : ∀ i, i < n → Z i = Z' i) : OwI lo hi w v n Z' := by
  rcases h with ⟨rfl, rfl⟩ | ⟨b, N, cap, F, rfl, h1, h2, h3, h4, h5, h6, h7, h8⟩
  · exact Or.inl ⟨rfl, rfl⟩
  · exact Or.inr ⟨b, N, cap, F, rfl, h1, h2, h3, h4, h5, h6, fun i hi => by rw [← e i hi]; exact h7 i hi, fun i hi => by rw [← e i hi]; exact h8 i hi⟩

/-- the peaks by rank, as numbers -/
structure PkFn (g : G) (n : Nat) (x : Nat → Nat) : Prop where
  len : n = (rkL g.n (g.len 0) g.flat (g.n * g.len 0)).length
  pos : 0 < n
  le : n ≤ 49
  at' : ∀ k (hk : k < n), ∃ h : x k < g.n * g.len 0, pkQ g.n (g.len 0) g.flat ⟨x k, h⟩ = true ∧ (rkL g.n (g.len 0) g.flat (g.n * g.len 0))[k]? = some ⟨x k, h⟩
  ix : ∀ k, k < n → ixZ (rkL g.n (g.len 0) g.flat (g.n * g.len 0)) k = (x k : Int)
theorem pkFn_ex {g : G} (h : g.Valid) : ∃ n x, PkFn g n x := by
  have hpos : 0 < g.n * g.len 0 := Nat.mul_pos h.1.1 h.2.1.1
  have h49 := mul_le_49 h.1.2 h.2.1.2
  obtain ⟨h0, _⟩ := rk_first (R := g.n) (C := g.len 0) (Z := g.flat) hpos
  have hle : (rkL g.n (g.len 0) g.flat (g.n * g.len 0)).length ≤ 49 := Nat.le_trans rkL_len h49
  refine ⟨_, fun k => (((rkL g.n (g.len 0) g.flat (g.n * g.len 0))[k]?).map fun y => y.1).getD 0, rfl, h0, hle, fun k hk => ?_, fun k hk => ?_⟩
  · have e : (rkL g.n (g.len 0) g.flat (g.n * g.len 0))[k]? = some ((rkL g.n (g.len 0) g.flat (g.n * g.len 0))[k]) := List.getElem?_eq_getElem hk
    have hm := (rkL_mem (R := g.n) (C := g.len 0) (Z := g.flat) (Nat.le_refl _) ((rkL g.n (g.len 0) g.flat (g.n * g.len 0))[k])).1 (List.getElem_mem hk)
    simp only [e, Option.map_some, Option.getD_some]
    exact ⟨((rkL g.n (g.len 0) g.flat (g.n * g.len 0))[k]).2, hm.2, trivial⟩
  · rw [ixZ_at _ hk]
    simp [List.getElem?_eq_getElem hk]
theorem PkFn.impl {g : G} {n : Nat} {x : Nat → Nat} (h : PkFn g n x) (hval : g.Valid) (v : Value) (lo hi : Nat) (w : World) (hv : RdM lo hi w v g) (hh : hi ≤ w.heap.size) : Calls Try.prog 20 #[v] w (LgPost1 n (fun j => (x j : Int)) w) :=
  (implPkL_yes v lo hi g w hv hh hval).mono fun e w' ⟨v', e1, e2, ow, hb⟩ => ⟨v', e1, e2, by rw [h.len]; exact owI_congrP ow (fun i hi => h.ix i (by rw [h.len]; exact hi)), hb⟩
theorem PkFn.spec {g : G} {n : Nat} {x : Nat → Nat} (h : PkFn g n x) (hval : g.Valid) (v : Value) (lo hi : Nat) (w : World) (hv : RdM lo hi w v g) (hh : hi ≤ w.heap.size) : Calls Try.prog 75 #[v] w (LsPost1 n (fun j => (x j : Int)) w) :=
  (specPkL_yes v lo hi g w hv hh hval).mono fun e w' ⟨v', e1, e2, ow, hb⟩ => ⟨v', e1, e2, by rw [h.len]; exact ow.congr (fun i hi => h.ix i (by rw [h.len]; exact hi)), hb⟩
/-- a number in the list of the peaks -/
theorem PkFn.hasInt {g : G} {n : Nat} {x : Nat → Nat} (h : PkFn g n x) (hval : g.Valid) (v : Value) (lo hi : Nat) (i : Ix (g.n * g.len 0)) (w : World) (hr : RdI lo hi w v n (fun j => (x j : Int))) : Calls Try.prog 19 #[v, .int .i64 i.1] w (HasPost (pkQ g.n (g.len 0) g.flat i) w) := by
  have h49 := mul_le_49 hval.1.2 hval.2.1.2
  have := i.2
  have h1 := hasInt_any v lo hi (rkL g.n (g.len 0) g.flat (g.n * g.len 0)) i.1 w (by rw [← h.len]; exact hr.congr (fun j hj => (h.ix j hj).symm)) h49 (by rw [← h.len]; exact h.le) (by omega)
  rw [rk_has] at h1
  exact h1
/-- peaks that are counted -/
theorem PkFn.count {g : G} {n : Nat} {x : Nat → Nat} (h : PkFn g n x) (q : Nat → Bool) : ∃ c : Nat → Nat, c 0 = 0 ∧ (∀ k, k < n → q (x k) = true → c (k + 1) = c k + 1) ∧ (∀ k, k < n → q (x k) = false → c (k + 1) = c k) ∧ (∀ k, c k ≤ k) ∧ c n = (rkL g.n (g.len 0) g.flat (g.n * g.len 0)).countP (fun y => q y.1) := by
  generalize hL : rkL g.n (g.len 0) g.flat (g.n * g.len 0) = L
  have hs : ∀ k (hk : k < L.length), (L.take (k + 1)).countP (fun y => q y.1) = (L.take k).countP (fun y => q y.1) + (if q (L[k]).1 = true then 1 else 0) := fun k hk => by
    rw [List.take_succ_eq_append_getElem hk, List.countP_append, List.countP_cons]; simp
  have hx : ∀ k (hk : k < n), ∃ hk2 : k < L.length, (L[k]).1 = x k := fun k hk => by
    obtain ⟨h1, _, h3⟩ := h.at' k hk
    rw [hL] at h3
    obtain ⟨h4, h5⟩ := List.getElem?_eq_some_iff.1 h3
    exact ⟨h4, by rw [h5]⟩
  refine ⟨fun k => (L.take k).countP (fun y => q y.1), by simp, fun k hk e => ?_, fun k hk e => ?_, fun k => Nat.le_trans List.countP_le_length (by rw [List.length_take]; omega), ?_⟩
  · obtain ⟨h1, h2⟩ := hx k hk
    simp only [hs k h1, h2, e, if_true]
  · obtain ⟨h1, h2⟩ := hx k hk
    simp only [hs k h1, h2, e]; simp
  · have := h.len
    rw [hL] at this
    simp only [this, List.take_length]
theorem implKey_n (v : Value) (lo hi : Nat) (g : G) (j : Nat) (hj : j < g.n * g.len 0) (w : World) (hv : RdM lo hi w v g) (hh : hi ≤ w.heap.size) (h : g.Valid) (hp : pkQ g.n (g.len 0) g.flat ⟨j, hj⟩ = true) : Calls Try.prog 26 #[v, .int .i64 j] w (IntPost (keyN g.n (g.len 0) g.flat j) w) := by
  have e := keyN_at (R := g.n) (C := g.len 0) (Z := g.flat) ⟨j, hj⟩
  simp only at e
  rw [e, ← G.kyV_yes h (by rw [G.pkB_yes h, hp])]
  exact implPeakKey_any v lo hi g j w hv hh
theorem keyN_range {R C : Nat} {Z : Nat → Int} (hZ : ∀ x, x < R * C → 0 ≤ Z x ∧ Z x ≤ 99) {j : Nat} (hj : j < R * C) : 0 ≤ keyN R C Z j ∧ keyN R C Z j ≤ 99 := by
  have e := keyN_at (R := R) (C := C) (Z := Z) ⟨j, hj⟩
  simp only at e
  rw [e]
  exact keyV_range hZ _

theorem implSum_no (v : Value) (lo hi : Nat) (g : G) (w : World) (hv : RdM lo hi w v g) (hh : hi ≤ w.heap.size) (h : ¬ g.Valid) : Calls Try.prog 43 #[v] w (IntPost (-1) w) := by
  rw [← G.smV_no h]; exact implPeakSum_any v lo hi g w hv hh
theorem specSum_no (v : Value) (lo hi : Nat) (g : G) (w : World) (hv : RdM lo hi w v g) (hh : hi ≤ w.heap.size) (h : ¬ g.Valid) : Calls Try.prog 44 #[v] w (IntPost (-1) w) := by
  rw [← G.smV_no h]; exact specPeakSum_any v lo hi g w hv hh
theorem implReg_no (v : Value) (lo hi : Nat) (g : G) (lv : Int) (w : World) (hv : RdM lo hi w v g) (hh : hi ≤ w.heap.size) (h : ¬ g.LvOk lv) : Calls Try.prog 40 #[v, .int .i64 lv] w (IntPost (-1) w) := by
  rw [← G.rgV_no h]; exact implLevelRegions_any v lo hi g lv w hv hh
theorem specReg_no (v : Value) (lo hi : Nat) (g : G) (lv : Int) (w : World) (hv : RdM lo hi w v g) (hh : hi ≤ w.heap.size) (h : ¬ g.LvOk lv) : Calls Try.prog 50 #[v, .int .i64 lv] w (IntPost (-1) w) := by
  rw [← G.rgV_no h]; exact specLevelRegions_any v lo hi g lv w hv hh
theorem implReg_yes (v : Value) (lo hi : Nat) (g : G) (lv : Int) (m : Nat) (em : rgN g.n (g.len 0) g.flat lv (g.n * g.len 0) = m) (w : World) (hv : RdM lo hi w v g) (hh : hi ≤ w.heap.size) (h : g.LvOk lv) : Calls Try.prog 40 #[v, .int .i64 lv] w (IntPost m w) := by
  rw [← em, ← G.rgV_yes h]; exact implLevelRegions_any v lo hi g lv w hv hh
theorem specReg_yes (v : Value) (lo hi : Nat) (g : G) (lv : Int) (m : Nat) (em : rgN g.n (g.len 0) g.flat lv (g.n * g.len 0) = m) (w : World) (hv : RdM lo hi w v g) (hh : hi ≤ w.heap.size) (h : g.LvOk lv) : Calls Try.prog 50 #[v, .int .i64 lv] w (IntPost m w) := by
  rw [← em, ← G.rgV_yes h]; exact specLevelRegions_any v lo hi g lv w hv hh
theorem implKey_at (v : Value) (lo hi : Nat) (g : G) (i : Ix (g.n * g.len 0)) (w : World) (hv : RdM lo hi w v g) (hh : hi ≤ w.heap.size) (h : g.Valid) (hp : pkQ g.n (g.len 0) g.flat i = true) : Calls Try.prog 26 #[v, .int .i64 i.1] w (IntPost (keyV g.n (g.len 0) g.flat i) w) := by
  rw [← G.kyV_yes h (by rw [G.pkB_yes h, hp])]; exact implPeakKey_any v lo hi g i.1 w hv hh
theorem prV_at {g : G} (h : g.Valid) {i : Ix (g.n * g.len 0)} (hp : pkQ g.n (g.len 0) g.flat i = true) : g.prV (i.1 : Int) = g.flat i.1 - keyV g.n (g.len 0) g.flat i :=
  prV_mem h (by rw [G.rkV_yes h, rkL_mem (Nat.le_refl _)]; exact ⟨i.2, hp⟩)
theorem implPr_at (v : Value) (lo hi : Nat) (g : G) (i : Ix (g.n * g.len 0)) (w : World) (hv : RdM lo hi w v g) (hh : hi ≤ w.heap.size) (h : g.Valid) (hp : pkQ g.n (g.len 0) g.flat i = true) : Calls Try.prog 30 #[v, .int .i64 i.1] w (IntPost (g.flat i.1 - keyV g.n (g.len 0) g.flat i) w) := by
  rw [← prV_at h hp]; exact implPeakProminence_any v lo hi g i.1 w hv hh
theorem implIsl_no (v : Value) (lo hi : Nat) (g : G) (lv s : Int) (w : World) (hv : RdM lo hi w v g) (hh : hi ≤ w.heap.size) (h : ¬ g.IlOk lv s) : Calls Try.prog 38 #[v, .int .i64 lv, .int .i64 s] w (IntPost (-1) w) := by
  rw [← G.ilV_no h]; exact implPeakIsland_any v lo hi g lv s w hv hh
theorem specIsl_no (v : Value) (lo hi : Nat) (g : G) (lv s : Int) (w : World) (hv : RdM lo hi w v g) (hh : hi ≤ w.heap.size) (h : ¬ g.IlOk lv s) : Calls Try.prog 39 #[v, .int .i64 lv, .int .i64 s] w (IntPost (-1) w) := by
  rw [← G.ilV_no h]; exact specPeakIsland_any v lo hi g lv s w hv hh
theorem implIsl_yes (v : Value) (lo hi : Nat) (g : G) (lv s : Int) (m : Nat) (em : pcN g.n (g.len 0) g.flat lv s (g.n * g.len 0) = m) (w : World) (hv : RdM lo hi w v g) (hh : hi ≤ w.heap.size) (h : g.IlOk lv s) : Calls Try.prog 38 #[v, .int .i64 lv, .int .i64 s] w (IntPost m w) := by
  rw [← em, ← G.ilV_yes h]; exact implPeakIsland_any v lo hi g lv s w hv hh
theorem specIsl_yes (v : Value) (lo hi : Nat) (g : G) (lv s : Int) (m : Nat) (em : pcN g.n (g.len 0) g.flat lv s (g.n * g.len 0) = m) (w : World) (hv : RdM lo hi w v g) (hh : hi ≤ w.heap.size) (h : g.IlOk lv s) : Calls Try.prog 39 #[v, .int .i64 lv, .int .i64 s] w (IntPost m w) := by
  rw [← em, ← G.ilV_yes h]; exact specPeakIsland_any v lo hi g lv s w hv hh
end Go.Proofs.Ytcfeckpbjdipeaa
