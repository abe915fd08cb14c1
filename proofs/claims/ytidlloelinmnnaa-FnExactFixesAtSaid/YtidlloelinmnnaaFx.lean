/- Corrections: what they are, what they do to heights. No program is named here. -/
import Derived.Test.YtidlloelinmnnaaM2
namespace Go.Proofs.Ytidlloelinmnnaa
open Go.RowKit
set_option linter.unusedVariables false

/-- a correction -/
structure Fx where
  r : Int
  c : Int
  o : Int
  n : Int
theorem Fx.ext4 {a b : Fx} (h1 : a.r = b.r) (h2 : a.c = b.c) (h3 : a.o = b.o) (h4 : a.n = b.n) : a = b := by cases a; cases b; simp_all
/-- the correction at index i of a list in memory -/
def fxAt (Z : Nat → Int) (i : Nat) : Fx := ⟨Z (i * 4), Z (i * 4 + 1), Z (i * 4 + 2), Z (i * 4 + 3)⟩
/-- k corrections from index i on -/
def fxF (Z : Nat → Int) : Nat → Nat → List Fx
  | _, 0 => []
  | i, k + 1 => fxAt Z i :: fxF Z (i + 1) k
theorem fxF_len (Z : Nat → Int) : ∀ k i, (fxF Z i k).length = k
  | 0, _ => rfl
  | k + 1, i => by simp [fxF, fxF_len Z k]
theorem fxF_snoc (Z : Nat → Int) : ∀ k i, fxF Z i (k + 1) = fxF Z i k ++ [fxAt Z (i + k)]
  | 0, _ => rfl
  | k + 1, i => by
    show fxAt Z i :: fxF Z (i + 1) (k + 1) = (fxAt Z i :: fxF Z (i + 1) k) ++ [fxAt Z (i + (k + 1))]
    rw [fxF_snoc Z k (i + 1), show i + 1 + k = i + (k + 1) by omega]
    rfl
theorem fxF_app (Z : Nat → Int) : ∀ k m i, fxF Z i (k + m) = fxF Z i k ++ fxF Z (i + k) m
  | 0, m, i => by rw [Nat.zero_add]; rfl
  | k + 1, m, i => by
    rw [show k + 1 + m = (k + m) + 1 by omega]
    show fxAt Z i :: fxF Z (i + 1) (k + m) = (fxAt Z i :: fxF Z (i + 1) k) ++ _
    rw [fxF_app Z k m (i + 1), show i + 1 + k = i + (k + 1) by omega]
    rfl
theorem fxF_at (Z : Nat → Int) : ∀ k i j, j < k → (fxF Z i k)[j]? = some (fxAt Z (i + j))
  | 0, _, _, h => by omega
  | k + 1, i, 0, _ => rfl
  | k + 1, i, j + 1, h => by
    show (fxF Z (i + 1) k)[j]? = _
    rw [fxF_at Z k (i + 1) j (by omega), show i + 1 + j = i + (j + 1) by omega]
theorem fxF_congr {Z Z' : Nat → Int} : ∀ k i, (∀ j, i * 4 ≤ j → j < (i + k) * 4 → Z j = Z' j) → fxF Z i k = fxF Z' i k
  | 0, _, _ => rfl
  | k + 1, i, h => by
    show fxAt Z i :: _ = fxAt Z' i :: _
    rw [fxF_congr k (i + 1) (fun j h1 h2 => h j (by omega) (by omega))]
    congr 1
    unfold fxAt
    rw [h (i * 4) (by omega) (by omega), h (i * 4 + 1) (by omega) (by omega), h (i * 4 + 2) (by omega) (by omega), h (i * 4 + 3) (by omega) (by omega)]

/-- a correction can be done -/
def Can (R C : Nat) (h : Nat → Int) (f : Fx) : Prop := ((0 ≤ f.r ∧ f.r < R) ∧ 0 ≤ f.c ∧ f.c < C) ∧ h (f.r.toNat * C + f.c.toNat) = f.o ∧ (0 ≤ f.n ∧ f.n ≤ 99) ∧ f.n ≠ f.o
instance (R C : Nat) (h : Nat → Int) (f : Fx) : Decidable (Can R C h f) := by unfold Can; exact inferInstance
noncomputable def canB (R C : Nat) (h : Nat → Int) (f : Fx) : Bool := @decide (Can R C h f) (Classical.propDecidable _)
theorem canB_yes {R C : Nat} {h : Nat → Int} {f : Fx} (k : Can R C h f) : canB R C h f = true := by simp [canB, k]
theorem canB_no {R C : Nat} {h : Nat → Int} {f : Fx} (k : ¬ Can R C h f) : canB R C h f = false := by simp [canB, k]
def put (C : Nat) (h : Nat → Int) (f : Fx) (i : Nat) : Int := if i = f.r.toNat * C + f.c.toNat then f.n else h i
/-- all can be done one after the other -/
def DoOk (R C : Nat) : (Nat → Int) → List Fx → Prop
  | _, [] => True
  | h, f :: l => Can R C h f ∧ DoOk R C (put C h f) l
/-- the heights behind all of them -/
def doH (C : Nat) : (Nat → Int) → List Fx → (Nat → Int)
  | h, [] => h
  | h, f :: l => doH C (put C h f) l
theorem doH_app (C : Nat) : ∀ (l m : List Fx) (h : Nat → Int), doH C h (l ++ m) = doH C (doH C h l) m
  | [], _, _ => rfl
  | f :: l, m, h => doH_app C l m (put C h f)
theorem DoOk_app (R C : Nat) : ∀ (l m : List Fx) (h : Nat → Int), DoOk R C h (l ++ m) ↔ DoOk R C h l ∧ DoOk R C (doH C h l) m
  | [], m, h => by simp [DoOk, doH]
  | f :: l, m, h => by
    show (Can R C h f ∧ DoOk R C (put C h f) (l ++ m)) ↔ (Can R C h f ∧ DoOk R C (put C h f) l) ∧ _
    rw [DoOk_app R C l m (put C h f)]
    exact and_assoc.symm
theorem cell_eq {C a b c d : Nat} (hb : b < C) (hd : d < C) (h : a * C + b = c * C + d) : a = c ∧ b = d := by
  have h1 := div_at a b C hb
  have h2 := div_at c d C hd
  rw [h] at h1
  omega
theorem Can.lt {R C : Nat} {h : Nat → Int} {f : Fx} (k : Can R C h f) : f.r.toNat * C + f.c.toNat < R * C := by
  obtain ⟨⟨⟨a1, a2⟩, b1, b2⟩, _⟩ := k
  exact cell_lt (R := R) (C := C) rfl (by omega) (by omega)
theorem put_range {R C : Nat} {h : Nat → Int} {f : Fx} (k : Can R C h f) (hh : ∀ i, i < R * C → 0 ≤ h i ∧ h i ≤ 99) : ∀ i, i < R * C → 0 ≤ put C h f i ∧ put C h f i ≤ 99 := fun i hi => by
  unfold put
  split
  · exact k.2.2.1
  · exact hh i hi
theorem doH_range {R C : Nat} : ∀ (l : List Fx) {h : Nat → Int}, DoOk R C h l → (∀ i, i < R * C → 0 ≤ h i ∧ h i ≤ 99) → ∀ i, i < R * C → 0 ≤ doH C h l i ∧ doH C h l i ≤ 99
  | [], _, _, hh => hh
  | _ :: l, _, k, hh => doH_range l k.2 (put_range k.1 hh)
theorem put_congr {C N : Nat} {h h' : Nat → Int} (f : Fx) (e : ∀ i, i < N → h i = h' i) : ∀ i, i < N → put C h f i = put C h' f i := fun i hi => by
  unfold put
  split
  · rfl
  · exact e i hi
theorem doH_congr {C N : Nat} : ∀ (l : List Fx) {h h' : Nat → Int}, (∀ i, i < N → h i = h' i) → ∀ i, i < N → doH C h l i = doH C h' l i
  | [], _, _, e => e
  | f :: l, _, _, e => doH_congr l (put_congr f e)
theorem Can.congr {R C : Nat} {h h' : Nat → Int} {f : Fx} (k : Can R C h f) (e : ∀ i, i < R * C → h i = h' i) : Can R C h' f := ⟨k.1, by rw [← e _ k.lt]; exact k.2.1, k.2.2⟩
theorem DoOk.congr {R C : Nat} : ∀ (l : List Fx) {h h' : Nat → Int}, DoOk R C h l → (∀ i, i < R * C → h i = h' i) → DoOk R C h' l
  | [], _, _, _, _ => trivial
  | f :: l, _, _, k, e => ⟨k.1.congr e, DoOk.congr l k.2 (put_congr f e)⟩

/-- corrections of a grid -/
def FxOk (g : G) (n : Nat) (Z : Nat → Int) : Prop := g.Valid ∧ n ≤ 60 ∧ DoOk g.n (g.len 0) g.flat (fxF Z 0 n)
noncomputable def fxB (g : G) (n : Nat) (Z : Nat → Int) : Bool := @decide (FxOk g n Z) (Classical.propDecidable _)
theorem fxB_yes {g : G} {n : Nat} {Z : Nat → Int} (h : FxOk g n Z) : fxB g n Z = true := by simp [fxB, h]
theorem fxB_no {g : G} {n : Nat} {Z : Nat → Int} (h : ¬ FxOk g n Z) : fxB g n Z = false := by simp [fxB, h]
/-- the edition behind corrections -/
def edH (g : G) (n : Nat) (Z : Nat → Int) : Nat → Int := doH (g.len 0) g.flat (fxF Z 0 n)
def edK (g : G) (h : Nat → Int) : G := { n := g.n, len := g.len, z := fun r c => h (r * g.len 0 + c) }
noncomputable def exG (g : G) (n : Nat) (Z : Nat → Int) : G := if fxB g n Z = true then edK g (edH g n Z) else G0
theorem exG_yes {g : G} {n : Nat} {Z : Nat → Int} (h : FxOk g n Z) : exG g n Z = edK g (edH g n Z) := by rw [exG, if_pos (fxB_yes h)]
theorem exG_no {g : G} {n : Nat} {Z : Nat → Int} (h : ¬ FxOk g n Z) : exG g n Z = G0 := by rw [exG, if_neg (by rw [fxB_no h]; simp)]
theorem flat_range {g : G} (h : g.Valid) : ∀ i, i < g.n * g.len 0 → 0 ≤ g.flat i ∧ g.flat i ≤ 99 := (rel_ok h rfl).2.2
theorem edK_flat {g : G} (hv : g.Valid) (h : Nat → Int) : ∀ i, i < g.n * g.len 0 → (edK g h).flat i = h i := fun i hi => by
  have h0 : 0 < g.len 0 := hv.2.1.1
  show h (i / g.len 0 * g.len 0 + i % g.len 0) = h i
  rw [Nat.mul_comm, Nat.div_add_mod]
theorem edK_valid {g : G} (hv : g.Valid) {h : Nat → Int} (hh : ∀ i, i < g.n * g.len 0 → 0 ≤ h i ∧ h i ≤ 99) : (edK g h).Valid :=
  ⟨hv.1, hv.2.1, fun r hr => ⟨(hv.2.2 r hr).1, fun c hc => hh _ (cell_lt (R := g.n) (C := g.len 0) rfl hr (by have := (hv.2.2 r hr).1; have hc' : c < g.len r := hc; omega))⟩⟩
theorem edK_id {g : G} (hv : g.Valid) : G.Eqv (edK g g.flat) g := ⟨rfl, fun r hr => ⟨rfl, fun c hc => by
  have := (hv.2.2 r hr).1
  have hc' : c < g.len r := hc
  exact g.flat_at r c (by omega)⟩⟩
theorem edK_upd {g : G} (hv : g.Valid) (h : Nat → Int) {f : Fx} (k : Can g.n (g.len 0) h f) : ∀ r, r < g.n → ∀ c, c < g.len r → ((edK g h).upd f.r.toNat f.c.toNat f.n).z r c = (edK g (put (g.len 0) h f)).z r c := fun r hr c hc => by
  have hl := (hv.2.2 r hr).1
  obtain ⟨⟨⟨a1, a2⟩, b1, b2⟩, _⟩ := k
  show (if r = f.r.toNat ∧ c = f.c.toNat then f.n else h (r * g.len 0 + c)) = put (g.len 0) h f (r * g.len 0 + c)
  unfold put
  by_cases e : r = f.r.toNat ∧ c = f.c.toNat
  · rw [if_pos e, if_pos (by rw [e.1, e.2])]
  · rw [if_neg e, if_neg (fun e' => e (cell_eq (by omega) (by omega) e'))]
theorem edH_range {g : G} {n : Nat} {Z : Nat → Int} (h : FxOk g n Z) : ∀ i, i < g.n * g.len 0 → 0 ≤ edH g n Z i ∧ edH g n Z i ≤ 99 := doH_range _ h.2.2 (flat_range h.1)
theorem Gr.congrF {w wr : World} {v : Value} {k B : Nat} {RV : Nat → Value} {g g' : G} (h : Gr w wr v k B RV g) (e : ∀ r, r < k → g'.len r = g.len r ∧ ∀ c, c < g.len r → g'.z r c = g.z r c) : Gr w wr v k B RV g' := by
  obtain ⟨a1, a2, a3, a4, a5, a6, a7⟩ := h
  refine ⟨a1, a2, a3, a4, a5, fun r hr => ?_, a7⟩
  obtain ⟨ys, c1, c2, c3⟩ := a6 r hr
  obtain ⟨e1, e2⟩ := e r hr
  exact ⟨ys, by rw [e1]; exact c1, c2, fun c hc => by rw [e2 c (by omega)]; exact c3 c (by omega)⟩
theorem Gr.drewG {w wr : World} {v : Value} {k B : Nat} {RV : Nat → Value} {g : G} (h : Gr w wr v k B RV g) : Gr w wr.drew v k B RV g := h.keep ⟨rfl, rfl, rfl, Nat.le_refl _, fun _ _ => rfl⟩

end Go.Proofs.Ytidlloelinmnnaa
