/- Passes are mutual; keys of raised grids; a raised peak: what is reckoned, and the contracts without 'if'. -/
import Derived.Test.YtcfeckpbjdipeaaPkW
import Derived.Test.YtcfeckpbjdipeaaKeZ
import Derived.Test.YtcfeckpbjdipeaaRgZ
import Derived.Test.YtcfeckpbjdipeaaGrZ
namespace Go.Proofs.Ytcfeckpbjdipeaa
open Go.RowKit
set_option linter.unusedVariables false

theorem Rch.symm {R C : Nat} {Z : Nat → Int} {q : Int} {a b : Ix (R * C)} (h : Rch R C Z q a b) : Rch R C Z q b a := by
  induction h with
  | here h => exact .here h
  | step h hn hc ih => exact Rch.trans (.step (.here hc) (psNear_symm hn) h.lst) ih
theorem psV_symm {R C : Nat} {Z : Nat → Int} (hZ : ∀ x, x < R * C → 0 ≤ Z x ∧ Z x ≤ 99) (a b : Ix (R * C)) : psV R C Z a b.1 = psV R C Z b a.1 := by
  have h := psV_is hZ a b
  have k := psV_is hZ b a
  have h1 := h.2 _ k.1.symm
  have h2 := k.2 _ h.1.symm
  omega
theorem psV_self {R C : Nat} {Z : Nat → Int} (hZ : ∀ x, x < R * C → 0 ≤ Z x ∧ Z x ≤ 99) (a : Ix (R * C)) : psV R C Z a a.1 = Z a.1 :=
  (psV_is hZ a a).eq ⟨.here (Int.le_refl _), fun q h => h.fst⟩
theorem psV_tri {R C : Nat} {Z : Nat → Int} (hZ : ∀ x, x < R * C → 0 ≤ Z x ∧ Z x ≤ 99) (a c b : Ix (R * C)) : min (psV R C Z a c.1) (psV R C Z c b.1) ≤ psV R C Z a b.1 := by
  have h1 := (psV_is hZ a c).1
  have h2 := (psV_is hZ c b).1
  exact (psV_is hZ a b).2 _ ((h1.low (by omega)).trans (h2.low (by omega)))
theorem psV_le {R C : Nat} {Z : Nat → Int} (hZ : ∀ x, x < R * C → 0 ≤ Z x ∧ Z x ≤ 99) (a b : Ix (R * C)) : psV R C Z a b.1 ≤ Z a.1 ∧ psV R C Z a b.1 ≤ Z b.1 := by
  have h := (psV_is hZ a b).1
  exact ⟨h.fst, h.lst⟩

/-! All heights one more. -/
def Up1 (N : Nat) (Z Z' : Nat → Int) : Prop := ∀ x, x < N → Z' x = Z x + 1
theorem up_hiB {N : Nat} {Z Z' : Nat → Int} (h : Up1 N Z Z') {a b : Nat} (ha : a < N) (hb : b < N) : hiB Z' a b = hiB Z a b := by
  have h1 := h a ha
  have h2 := h b hb
  unfold hiB
  exact decide_eq_decide.2 (by omega)
theorem up_pk {R C : Nat} {Z Z' : Nat → Int} (h : Up1 (R * C) Z Z') (i : Ix (R * C)) (hp : pkQ R C Z i = true) : pkQ R C Z' i = true := by
  rw [pkQ_iff] at *
  intro x hx
  rw [up_hiB h x.2 i.2]
  exact hp x hx
theorem up_rch {R C : Nat} {Z Z' : Nat → Int} (h : Up1 (R * C) Z Z') {q : Int} {a b : Ix (R * C)} (k : Rch R C Z q a b) : Rch R C Z' (q + 1) a b := by
  induction k with
  | here k => exact .here (by have := h a.1 a.2; omega)
  | @step b c k hn hc ih => exact .step ih hn (by have := h c.1 c.2; omega)
theorem down_rch {R C : Nat} {Z Z' : Nat → Int} (h : Up1 (R * C) Z Z') {q : Int} {a b : Ix (R * C)} (k : Rch R C Z' q a b) : Rch R C Z (q - 1) a b := by
  induction k with
  | here k => exact .here (by have := h a.1 a.2; omega)
  | @step b c k hn hc ih => exact .step ih hn (by have := h c.1 c.2; omega)
theorem up_ps {R C : Nat} {Z Z' : Nat → Int} (h : Up1 (R * C) Z Z') {v : Int} {a b : Ix (R * C)} (k : IsPs R C Z a b v) : IsPs R C Z' a b (v + 1) :=
  ⟨up_rch h k.1, fun q hq => by have := k.2 _ (down_rch h hq); omega⟩
theorem down_ps {R C : Nat} {Z Z' : Nat → Int} (h : Up1 (R * C) Z Z') {v : Int} {a b : Ix (R * C)} (k : IsPs R C Z' a b v) : IsPs R C Z a b (v - 1) :=
  ⟨down_rch h k.1, fun q hq => by have := k.2 _ (up_rch h hq); omega⟩
theorem up_key {R C : Nat} {Z Z' : Nat → Int} (h : Up1 (R * C) Z Z') (hZ : ∀ x, x < R * C → 0 ≤ Z x ∧ Z x ≤ 99) (hZ' : ∀ x, x < R * C → 0 ≤ Z' x ∧ Z' x ≤ 99) (i : Ix (R * C)) : keyV R C Z' i = keyV R C Z i + 1 := by
  refine (keyV_is hZ' i).eq ?_
  have e : (fun x : Ix (R * C) => hiB Z' x.1 i.1) = fun x => hiB Z x.1 i.1 := funext fun x => up_hiB h x.2 i.2
  show PsTo R C Z' i (fun x => hiB Z' x.1 i.1) (keyV R C Z i + 1)
  rw [e]
  rcases keyV_is hZ i with ⟨x, k1, k2, k3⟩ | ⟨k1, k2, k3⟩
  · exact Or.inl ⟨x, k1, up_ps h k2, fun y q hy hq => by have := k3 y _ hy (down_ps h hq); omega⟩
  · exact Or.inr ⟨k1, fun x => by have := k2 x; have := h x.1 x.2; omega, fun q hq => by
      have := k3 (q - 1) (fun x => by have := hq x; have := h x.1 x.2; omega)
      omega⟩
theorem raise_up (g : G) : Up1 (g.n * g.len 0) g.flat (raiseG g 1).flat := fun x _ => rfl

/-! One cell one more. -/
theorem peak_up {R C : Nat} {Z Z' : Nat → Int} (i : Ix (R * C)) (hi : Z' i.1 = Z i.1 + 1) (hx : ∀ x, x < R * C → x ≠ i.1 → Z' x = Z x) (hp : pkQ R C Z i = true) : pkQ R C Z' i = true := by
  rw [pkQ_iff] at *
  intro x hn
  have h1 := hp x hn
  have h2 := near_ne hn
  have h3 := hx x.1 x.2 (fun e => h2 e.symm)
  rw [hiB_niff] at *
  omega

/-! Contracts at numbers. -/
noncomputable def psN (R C : Nat) (Z : Nat → Int) (i j : Nat) : Int := open Classical in if h : i < R * C then psV R C Z ⟨i, h⟩ j else 0
theorem psN_at {R C : Nat} {Z : Nat → Int} (i : Ix (R * C)) (j : Nat) : psN R C Z i.1 j = psV R C Z i j := by unfold psN; rw [dif_pos i.2]
theorem implPs_n (v : Value) (lo hi : Nat) (g : G) (i j : Nat) (hi' : i < g.n * g.len 0) (hj : j < g.n * g.len 0) (w : World) (hv : RdM lo hi w v g) (hh : hi ≤ w.heap.size) (h : g.Valid) : Calls Try.prog 22 #[v, .int .i64 i, .int .i64 j] w (IntPost (psN g.n (g.len 0) g.flat i j) w) := by
  have e := psN_at (R := g.n) (C := g.len 0) (Z := g.flat) ⟨i, hi'⟩ j
  have e2 := G.psB_yes (a := ⟨i, hi'⟩) (b := ⟨j, hj⟩) h
  simp only at e e2
  rw [e, ← e2]
  exact implPassBetween_any v lo hi g i j w hv hh
theorem specPs_n (v : Value) (lo hi : Nat) (g : G) (i j : Nat) (hi' : i < g.n * g.len 0) (hj : j < g.n * g.len 0) (w : World) (hv : RdM lo hi w v g) (hh : hi ≤ w.heap.size) (h : g.Valid) : Calls Try.prog 23 #[v, .int .i64 i, .int .i64 j] w (IntPost (psN g.n (g.len 0) g.flat i j) w) := by
  have e := psN_at (R := g.n) (C := g.len 0) (Z := g.flat) ⟨i, hi'⟩ j
  have e2 := G.psB_yes (a := ⟨i, hi'⟩) (b := ⟨j, hj⟩) h
  simp only at e e2
  rw [e, ← e2]
  exact specPassBetween_any v lo hi g i j w hv hh
theorem implPs_no (v : Value) (lo hi : Nat) (g : G) (i j : Int) (w : World) (hv : RdM lo hi w v g) (hh : hi ≤ w.heap.size) (h : ¬ (g.PkIn i ∧ g.PkIn j)) : Calls Try.prog 22 #[v, .int .i64 i, .int .i64 j] w (IntPost (-1) w) := by
  rw [← G.psB_no h]; exact implPassBetween_any v lo hi g i j w hv hh
theorem specPs_no (v : Value) (lo hi : Nat) (g : G) (i j : Int) (w : World) (hv : RdM lo hi w v g) (hh : hi ≤ w.heap.size) (h : ¬ (g.PkIn i ∧ g.PkIn j)) : Calls Try.prog 23 #[v, .int .i64 i, .int .i64 j] w (IntPost (-1) w) := by
  rw [← G.psB_no h]; exact specPassBetween_any v lo hi g i j w hv hh
theorem implKey_no (v : Value) (lo hi : Nat) (g : G) (i : Int) (w : World) (hv : RdM lo hi w v g) (hh : hi ≤ w.heap.size) (h : g.pkB i = false) : Calls Try.prog 26 #[v, .int .i64 i] w (IntPost (-1) w) := by
  rw [← G.kyV_no h]; exact implPeakKey_any v lo hi g i w hv hh
theorem specKey_no (v : Value) (lo hi : Nat) (g : G) (i : Int) (w : World) (hv : RdM lo hi w v g) (hh : hi ≤ w.heap.size) (h : g.pkB i = false) : Calls Try.prog 27 #[v, .int .i64 i] w (IntPost (-1) w) := by
  rw [← G.kyV_no h]; exact specPeakKey_any v lo hi g i w hv hh
theorem specKey_n (v : Value) (lo hi : Nat) (g : G) (j : Nat) (hj : j < g.n * g.len 0) (w : World) (hv : RdM lo hi w v g) (hh : hi ≤ w.heap.size) (h : g.Valid) (hp : pkQ g.n (g.len 0) g.flat ⟨j, hj⟩ = true) : Calls Try.prog 27 #[v, .int .i64 j] w (IntPost (keyN g.n (g.len 0) g.flat j) w) := by
  have e := keyN_at (R := g.n) (C := g.len 0) (Z := g.flat) ⟨j, hj⟩
  simp only at e
  rw [e, ← G.kyV_yes h (by rw [G.pkB_yes h, hp])]
  exact specPeakKey_any v lo hi g j w hv hh
theorem prV_no {g : G} {i : Int} (h : g.pkB i = false) : g.prV i = -1 := by unfold G.prV; rw [if_neg (by rw [h]; simp)]
theorem implPr_no (v : Value) (lo hi : Nat) (g : G) (i : Int) (w : World) (hv : RdM lo hi w v g) (hh : hi ≤ w.heap.size) (h : g.pkB i = false) : Calls Try.prog 30 #[v, .int .i64 i] w (IntPost (-1) w) := by
  rw [← prV_no h]; exact implPeakProminence_any v lo hi g i w hv hh
theorem specPr_no (v : Value) (lo hi : Nat) (g : G) (i : Int) (w : World) (hv : RdM lo hi w v g) (hh : hi ≤ w.heap.size) (h : g.pkB i = false) : Calls Try.prog 31 #[v, .int .i64 i] w (IntPost (-1) w) := by
  rw [← prV_no h]; exact specPeakProminence_any v lo hi g i w hv hh
theorem prV_n {g : G} (h : g.Valid) {j : Nat} (hj : j < g.n * g.len 0) (hp : pkQ g.n (g.len 0) g.flat ⟨j, hj⟩ = true) : g.prV (j : Int) = g.flat j - keyN g.n (g.len 0) g.flat j := by
  have e := keyN_at (R := g.n) (C := g.len 0) (Z := g.flat) ⟨j, hj⟩
  simp only at e
  rw [e]
  exact prV_at h hp
theorem implPr_n (v : Value) (lo hi : Nat) (g : G) (j : Nat) (hj : j < g.n * g.len 0) (w : World) (hv : RdM lo hi w v g) (hh : hi ≤ w.heap.size) (h : g.Valid) (hp : pkQ g.n (g.len 0) g.flat ⟨j, hj⟩ = true) : Calls Try.prog 30 #[v, .int .i64 j] w (IntPost (g.flat j - keyN g.n (g.len 0) g.flat j) w) := by
  rw [← prV_n h hj hp]; exact implPeakProminence_any v lo hi g j w hv hh
theorem specPr_n (v : Value) (lo hi : Nat) (g : G) (j : Nat) (hj : j < g.n * g.len 0) (w : World) (hv : RdM lo hi w v g) (hh : hi ≤ w.heap.size) (h : g.Valid) (hp : pkQ g.n (g.len 0) g.flat ⟨j, hj⟩ = true) : Calls Try.prog 31 #[v, .int .i64 j] w (IntPost (g.flat j - keyN g.n (g.len 0) g.flat j) w) := by
  rw [← prV_n h hj hp]; exact specPeakProminence_any v lo hi g j w hv hh
theorem implArea_yes (v : Value) (lo hi : Nat) (g : G) (lv s : Int) (m : Nat) (em : cntZ (numZ g.n (g.len 0) g.flat lv) s (g.n * g.len 0) = m) (w : World) (hv : RdM lo hi w v g) (hh : hi ≤ w.heap.size) (h : g.IlOk lv s) : Calls Try.prog 41 #[v, .int .i64 lv, .int .i64 s] w (IntPost m w) := by
  rw [← em, ← G.arV_yes h.1 h.2.1 h.2.2]; exact implLevelArea_any v lo hi g lv s w hv hh
/-- a peak that a number names -/
theorem pkB_yes' {g : G} {i : Int} (h : g.pkB i = true) : g.Valid ∧ ∃ (j : Nat) (hj : j < g.n * g.len 0), i = j ∧ pkQ g.n (g.len 0) g.flat ⟨j, hj⟩ = true := by
  have h1 := pkB_inS h
  refine ⟨h1.1, i.toNat, by have := h1.2; omega, by have := h1.2; omega, ?_⟩
  unfold G.pkB at h
  rw [dif_pos h1] at h
  exact h
/-- the key of the first peak is the least height, and it is the greatest one -/
theorem key_first {g : G} {n : Nat} {x : Nat → Nat} (hx : PkFn g n x) (h : g.Valid) : keyN g.n (g.len 0) g.flat (x 0) = mn g.flat (g.n * g.len 0) ∧ g.flat (x 0) = mx g.flat (g.n * g.len 0) := by
  have hpos : 0 < g.n * g.len 0 := Nat.mul_pos h.1.1 h.2.1.1
  obtain ⟨hl, hm⟩ := rk_first (R := g.n) (C := g.len 0) (Z := g.flat) hpos
  obtain ⟨h1, h2, h3⟩ := hx.at' 0 hx.pos
  have e : ((rkL g.n (g.len 0) g.flat (g.n * g.len 0))[0]).1 = x 0 := by
    have := List.getElem?_eq_getElem hl
    rw [h3] at this
    simp only [Option.some.injEq] at this
    rw [← this]
  rw [e] at hm
  have hZ : ∀ y, y < g.n * g.len 0 → 0 ≤ g.flat y ∧ g.flat y ≤ 99 := fun y hy => flat_okW h hy
  refine ⟨?_, (mx_top h1 (fun y hy => hiB_le (hm y hy))).symm⟩
  rw [show x 0 = (⟨x 0, h1⟩ : Ix (g.n * g.len 0)).1 from rfl, keyN_at]
  rcases keyV_is hZ ⟨x 0, h1⟩ with ⟨y, k1, k2, k3⟩ | ⟨k1, k2, k3⟩
  · have := hm y.1 y.2
    simp only at k1
    rw [this] at k1; cases k1
  · have h4 := k3 _ (fun y => mn_leK g.flat y.2)
    obtain ⟨y, hy, ey⟩ := mn_isK g.flat hpos
    have h5 := k2 ⟨y, hy⟩
    simp only at h5
    omega
/-- the best pass to a higher cell below k -/
noncomputable def kyF (R C : Nat) (Z : Nat → Int) (i k : Nat) : Int := open Classical in if h : i < R * C then kyN R C Z ⟨i, h⟩ k else 0
theorem kyF_facts {R C : Nat} {Z : Nat → Int} (hZ : ∀ x, x < R * C → 0 ≤ Z x ∧ Z x ≤ 99) {i : Nat} (hi : i < R * C) :
    kyF R C Z i 0 = -1 ∧ (∀ k, hiB Z k i = true → kyF R C Z i (k + 1) = max (kyF R C Z i k) (psN R C Z i k)) ∧ (∀ k, hiB Z k i = false → kyF R C Z i (k + 1) = kyF R C Z i k) ∧
    (∀ k, k ≤ R * C → -1 ≤ kyF R C Z i k ∧ kyF R C Z i k ≤ 99) ∧ (∀ k, k < R * C → 0 ≤ psN R C Z i k ∧ psN R C Z i k ≤ 99) ∧
    keyN R C Z i = (if kyF R C Z i (R * C) < 0 then mn Z (R * C) else kyF R C Z i (R * C)) ∧ keyN R C Z i ≤ Z i := by
  have e1 : ∀ k, kyF R C Z i k = kyN R C Z ⟨i, hi⟩ k := fun k => by unfold kyF; rw [dif_pos hi]
  have e2 : ∀ k, psN R C Z i k = psV R C Z ⟨i, hi⟩ k := fun k => psN_at ⟨i, hi⟩ k
  have e3 : keyN R C Z i = keyV R C Z ⟨i, hi⟩ := keyN_at ⟨i, hi⟩
  refine ⟨by rw [e1]; rfl, fun k hk => by rw [e1, e1, e2]; exact kyN_yes hk, fun k hk => by rw [e1, e1]; exact kyN_no hk, fun k hk => ?_, fun k hk => by rw [e2]; exact psV_ge hZ _ ⟨k, hk⟩, by rw [e3, e1]; rfl, by rw [e3]; exact keyV_top hZ ⟨i, hi⟩⟩
  rw [e1]
  rcases kyN_spec hZ ⟨i, hi⟩ k hk with ⟨h1, _⟩ | ⟨y, _, _, h3, _⟩
  · omega
  · have := psV_ge hZ ⟨i, hi⟩ y
    omega
/-- peaks of a region, region by region -/
structure IlSum (g : G) (lv : Int) (N : Nat) (p S : Nat → Nat) : Prop where
  num : rgN g.n (g.len 0) g.flat lv (g.n * g.len 0) = N
  le : N ≤ 49
  zero : S 0 = 0
  step : ∀ k, k < N → S (k + 1) = S k + p k
  top : ∀ k, S k ≤ 49
  pos : ∀ k, k < N → 1 ≤ p k ∧ p k ≤ 49
  isl : ∀ k : Nat, pcN g.n (g.len 0) g.flat lv (k : Int) (g.n * g.len 0) = p k
  all : S N = (rkL g.n (g.len 0) g.flat (g.n * g.len 0)).countP (fun x => decide (lv ≤ g.flat x.1))
theorem ilSum_ex {g : G} (h : g.Valid) (lv : Int) : ∃ N p S, IlSum g lv N p S := by
  have h49 := mul_le_49 h.1.2 h.2.1.2
  have h1 := rgN_le g.n (g.len 0) g.flat lv (g.n * g.len 0)
  exact ⟨_, _, ilS g.n (g.len 0) g.flat lv, rfl, by omega, rfl, fun k _ => rfl, fun k => by have := ilS_le g.n (g.len 0) g.flat lv k; omega, fun k hk => ⟨pcN_one hk, by have := pcN_le g.n (g.len 0) g.flat lv (k : Int) (g.n * g.len 0); omega⟩, fun k => rfl, ilS_all _ _ _ _⟩
end Go.Proofs.Ytcfeckpbjdipeaa
