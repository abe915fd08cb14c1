/- Lists of corrections of grids: their parts, short ones, taken back; the facts that the promises ask for. -/
import Derived.Test.YtidlloelinmnnaaFtM
namespace Go.Proofs.Ytidlloelinmnnaa
open Go.RowKit
set_option linter.unusedVariables false
set_option linter.unusedSimpArgs false

theorem G.z_of_flat {a b : G} (ha : a.Valid) (hb : b.Valid) (e1 : a.n = b.n) (e2 : a.len 0 = b.len 0) (h : ∀ i, i < a.n * a.len 0 → a.flat i = b.flat i) : G.Eqv a b := ⟨e1, fun r hr => by
  have h1 := (ha.2.2 r hr).1
  have h2 := (hb.2.2 r (by omega)).1
  refine ⟨by omega, fun c hc => ?_⟩
  have := h (r * a.len 0 + c) (cell_lt (R := a.n) (C := a.len 0) rfl hr (by omega))
  rw [a.flat_at r c (by omega), e2, b.flat_at r c (by omega)] at this
  exact this⟩
theorem edK_val {g : G} {n : Nat} {Z : Nat → Int} (h : FxOk g n Z) : (edK g (edH g n Z)).Valid := edK_valid h.1 (edH_range h)
theorem edK_eqv {g : G} {h h' : Nat → Int} (hv : g.Valid) (e : ∀ i, i < g.n * g.len 0 → h i = h' i) : G.Eqv (edK g h) (edK g h') := ⟨rfl, fun r hr => ⟨rfl, fun c hc => by
  have := (hv.2.2 r hr).1
  have hc' : c < g.len r := hc
  exact e _ (cell_lt (R := g.n) (C := g.len 0) rfl hr (by omega))⟩⟩
theorem exG_val {g : G} {n : Nat} {Z : Nat → Int} (h : FxOk g n Z) : (exG g n Z).Valid := by rw [exG_yes h]; exact edK_val h
/-- corrections given by a list -/
def LxOk (g : G) (L : List Fx) : Prop := g.Valid ∧ L.length ≤ 60 ∧ DoOk g.n (g.len 0) g.flat L
theorem fxOk_list {g : G} {L : List Fx} (h : LxOk g L) : FxOk g L.length (fzZ L) := ⟨h.1, h.2.1, by rw [fzZ_F]; exact h.2.2⟩
theorem edH_list (g : G) (L : List Fx) : edH g L.length (fzZ L) = doH (g.len 0) g.flat L := by unfold edH; rw [fzZ_F]
theorem lxOk_of {g : G} {n : Nat} {Z : Nat → Int} (h : FxOk g n Z) : LxOk g (fxF Z 0 n) := ⟨h.1, by rw [fxF_len]; exact h.2.1, h.2.2⟩

/-- from grid to grid -/
theorem mk_ok {a b : G} (h : AkOk a b) : LxOk a (mkL a b) ∧ (∀ i, i < a.n * a.len 0 → doH (a.len 0) a.flat (mkL a b) i = b.flat i) ∧ ShL (mkL a b) := by
  have hC : 0 < a.len 0 := h.1.2.1.1
  have h2 := mk_do (R := a.n) (Z := a.flat) (Y := b.flat) hC (flat_range2 h) (a.n * a.len 0) 0 a.flat (by omega) (fun _ _ _ => rfl)
  refine ⟨⟨h.1, Nat.le_trans (mkL_len h.1) (by omega), h2.1⟩, fun i hi => ?_, mk_short hC _ _⟩
  rw [show doH (a.len 0) a.flat (mkL a b) i = _ from h2.2 i, if_pos (by omega)]
theorem mk_ex {a b : G} (h : AkOk a b) : G.Eqv (exG a (mkL a b).length (fzZ (mkL a b))) b := by
  obtain ⟨h1, h2, _⟩ := mk_ok h
  rw [exG_yes (fxOk_list h1)]
  refine G.z_of_flat (edK_val (fxOk_list h1)) h.2.1 h.2.2.1 h.2.2.2 (fun i hi => ?_)
  rw [edK_flat h.1 _ i hi, edH_list]
  exact h2 i hi
theorem mk_are {a b : G} (h : AkOk a b) : AreOk a (mkL a b).length (fzZ (mkL a b)) := ⟨fxOk_list (mk_ok h).1, by rw [fzZ_F]; exact (mk_ok h).2.2⟩
theorem AkOk.symm {a b : G} (h : AkOk a b) : AkOk b a := ⟨h.2.1, h.1, h.2.2.1.symm, h.2.2.2.symm⟩
theorem fa_sym (a b : G) : faE a b = faE b a := by
  by_cases h : AkOk a b
  · rw [faE_yes h, faE_yes h.symm]
    unfold mkL
    rw [mkl_sym, h.2.2.1, h.2.2.2]
  · rw [faE_no h, faE_no (fun k => h k.symm)]
theorem fa_zero {a b : G} (h : AkOk a b) : faE a b = 0 ↔ G.Eqv a b := by
  rw [faE_yes h]
  have h1 := mkl_zero (a.len 0) a.flat b.flat (a.n * a.len 0) 0
  constructor
  · intro e
    exact G.z_of_flat h.1 h.2.1 h.2.2.1 h.2.2.2 (fun i hi => h1.1 (by unfold mkL at e; omega) i (Nat.zero_le _) (by omega))
  · intro e
    have : (mkL a b).length = 0 := h1.2 (fun i _ hi => by
      have hC : 0 < a.len 0 := h.1.2.1.1
      have hr : i / a.len 0 < a.n := Nat.div_lt_of_lt_mul (by rw [Nat.mul_comm]; omega)
      have hc := Nat.mod_lt i hC
      have h2 := (e.2 _ hr).2 (i % a.len 0) (by have := (h.1.2.2 _ hr).1; omega)
      show a.z (i / a.len 0) (i % a.len 0) = b.z (i / b.len 0) (i % b.len 0)
      rw [← h.2.2.2]; exact h2)
    omega
theorem fa_tri {a b c : G} (h : AkOk a b) (k : AkOk a c) : faE a b ≤ faE a c + faE c b := by
  have hcb : AkOk c b := ⟨k.2.1, h.2.1, k.2.2.1.symm.trans h.2.2.1, k.2.2.2.symm.trans h.2.2.2⟩
  rw [faE_yes h, faE_yes k, faE_yes hcb]
  have h1 := mkl_tri (a.len 0) a.flat c.flat b.flat (a.n * a.len 0) 0
  have e : mkL c b = mkD (a.len 0) c.flat b.flat 0 (a.n * a.len 0) := by unfold mkL; rw [k.2.2.1, k.2.2.2]
  rw [e]
  unfold mkL
  omega

/-- short ones -/
theorem sh_eq {g : G} {n : Nat} {Z : Nat → Int} (h : FxOk g n Z) : shL g n Z = mkL g (edK g (edH g n Z)) := (mkL_ed h.1).symm
theorem sh_ok {g : G} {n : Nat} {Z : Nat → Int} (h : FxOk g n Z) : LxOk g (shL g n Z) ∧ (∀ i, i < g.n * g.len 0 → doH (g.len 0) g.flat (shL g n Z) i = edH g n Z i) ∧ ShL (shL g n Z) := by
  have hk := ak_ed h.1 (edH_range h)
  rw [sh_eq h]
  obtain ⟨a, b, c⟩ := mk_ok hk
  exact ⟨a, fun i hi => (b i hi).trans (edK_flat h.1 _ i hi), c⟩
theorem sh_fx {g : G} {n : Nat} {Z : Nat → Int} (h : FxOk g n Z) : FxOk g (shL g n Z).length (fzZ (shL g n Z)) := fxOk_list (sh_ok h).1
theorem sh_ex {g : G} {n : Nat} {Z : Nat → Int} (h : FxOk g n Z) : G.Eqv (exG g (shL g n Z).length (fzZ (shL g n Z))) (exG g n Z) := by
  rw [exG_yes (sh_fx h), exG_yes h]
  exact edK_eqv h.1 (fun i hi => by rw [edH_list]; exact (sh_ok h).2.1 i hi)
theorem sh_sh {g : G} {n : Nat} {Z : Nat → Int} (h : FxOk g n Z) : shL g (shL g n Z).length (fzZ (shL g n Z)) = shL g n Z := by
  show mkD _ _ (edH g _ _) _ _ = _
  rw [edH_list]
  exact mkD_congr _ _ (fun j _ hj => ⟨rfl, (sh_ok h).2.1 j (by omega)⟩)
theorem sh_are {g : G} {n : Nat} {Z : Nat → Int} (h : FxOk g n Z) : AreOk g (shL g n Z).length (fzZ (shL g n Z)) := ⟨sh_fx h, by rw [fzZ_F]; exact (sh_ok h).2.2⟩
theorem sh_le {g : G} {n : Nat} {Z : Nat → Int} (h : FxOk g n Z) : (shL g n Z).length ≤ n := by
  have := mkl_le (g.len 0) (fxF Z 0 n) g.flat (g.n * g.len 0)
  rw [fxF_len] at this
  exact this
theorem ri_sh {g : G} {n : Nat} {Z : Nat → Int} (h : FxOk g n Z) : riS (shL g n Z) = riS (fxF Z 0 n) := by
  rw [ri_sum _ h.2.2, ri_sum _ (sh_ok h).1.2.2]
  rw [smF_congr _ (fun i hi => (sh_ok h).2.1 i hi)]
  rfl
theorem ri_shE {g : G} {n : Nat} {Z : Nat → Int} (h : FxOk g n Z) : riE g (shL g n Z).length (fzZ (shL g n Z)) = riE g n Z := by
  rw [riE_yes (sh_fx h), riE_yes h, fzZ_F, ri_sh h]
theorem fa_sh {g : G} {n : Nat} {Z : Nat → Int} (h : FxOk g n Z) : faE g (exG g n Z) = ((shL g n Z).length : Int) := by
  rw [exG_yes h, faE_yes (ak_ed h.1 (edH_range h)), sh_eq h]
theorem are_mk {g : G} {n : Nat} {Z : Nat → Int} (h : AreOk g n Z) : mkL g (exG g n Z) = fxF Z 0 n := by
  rw [exG_yes h.1, ← sh_eq h.1]
  exact short_mk h.1.1.2.1.1 _ 0 _ _ h.1.2.2 h.2 (by omega) (fun _ _ => Nat.zero_le _)

/-- taken back -/
theorem bk_ok {g : G} {n : Nat} {Z : Nat → Int} (h : FxOk g n Z) : LxOk (exG g n Z) (bkL (fxF Z 0 n)) ∧ ∀ i, i < g.n * g.len 0 → doH (g.len 0) (exG g n Z).flat (bkL (fxF Z 0 n)) i = g.flat i := by
  obtain ⟨a, b⟩ := bk_do _ h.2.2 (flat_range h.1)
  rw [exG_yes h]
  refine ⟨⟨edK_val h, by rw [bkL_len, fxF_len]; exact h.2.1, a.congr _ (fun i hi => (edK_flat h.1 _ i hi).symm)⟩, fun i hi => ?_⟩
  rw [← b i]
  exact doH_congr (N := g.n * g.len 0) _ (fun j hj => edK_flat h.1 _ j hj) i hi
theorem bk_fx {g : G} {n : Nat} {Z : Nat → Int} (h : FxOk g n Z) : FxOk (exG g n Z) (bkL (fxF Z 0 n)).length (fzZ (bkL (fxF Z 0 n))) := fxOk_list (bk_ok h).1
theorem ex_n {g : G} {n : Nat} {Z : Nat → Int} (h : FxOk g n Z) : (exG g n Z).n = g.n ∧ (exG g n Z).len 0 = g.len 0 := by rw [exG_yes h]; exact ⟨rfl, rfl⟩
theorem bk_ex {g : G} {n : Nat} {Z : Nat → Int} (h : FxOk g n Z) : G.Eqv (exG (exG g n Z) (bkL (fxF Z 0 n)).length (fzZ (bkL (fxF Z 0 n)))) g := by
  rw [exG_yes (bk_fx h)]
  obtain ⟨e1, e2⟩ := ex_n h
  refine G.z_of_flat (edK_val (bk_fx h)) h.1 e1 e2 (fun i hi => ?_)
  have hi' : i < (exG g n Z).n * (exG g n Z).len 0 := hi
  rw [edK_flat (exG_val h) _ i hi', edH_list, e2]
  rw [e1, e2] at hi'
  exact (bk_ok h).2 i hi'
theorem bk_bkE {g : G} {n : Nat} {Z : Nat → Int} (h : FxOk g n Z) : bkE (exG g n Z) (bkL (fxF Z 0 n)).length (fzZ (bkL (fxF Z 0 n))) = fxF Z 0 n := by
  rw [bkE_yes (bk_fx h), fzZ_F, bk_bk]
theorem bk_ri {g : G} {n : Nat} {Z : Nat → Int} (h : FxOk g n Z) : riE (exG g n Z) (bkL (fxF Z 0 n)).length (fzZ (bkL (fxF Z 0 n))) = 0 - riE g n Z := by
  rw [riE_yes (bk_fx h), riE_yes h, fzZ_F, ri_bk]

/-- first ones and the others -/
def dpZ (Z : Nat → Int) (k : Nat) (j : Nat) : Int := Z (k * 4 + j)
theorem dpZ_F (Z : Nat → Int) (k : Nat) : ∀ m i, fxF (dpZ Z k) i m = fxF Z (k + i) m
  | 0, _ => rfl
  | m + 1, i => by
    show fxAt (dpZ Z k) i :: fxF (dpZ Z k) (i + 1) m = fxAt Z (k + i) :: fxF Z (k + i + 1) m
    rw [dpZ_F Z k m (i + 1)]
    congr 1
    unfold fxAt dpZ
    have e : ∀ x, k * 4 + (i * 4 + x) = (k + i) * 4 + x := fun x => by omega
    have e0 : k * 4 + i * 4 = (k + i) * 4 := by omega
    rw [e0, show k * 4 + (i * 4 + 1) = (k + i) * 4 + 1 from e 1, show k * 4 + (i * 4 + 2) = (k + i) * 4 + 2 from e 2, show k * 4 + (i * 4 + 3) = (k + i) * 4 + 3 from e 3]
theorem pt_ok {g : G} {n k : Nat} {Z : Nat → Int} (h : FxOk g n Z) (hk : k ≤ n) : FxOk g k Z := ⟨h.1, by have := h.2.1; omega, doOk_le hk h.2.2⟩
theorem pt_all {g : G} {n k : Nat} {Z : Nat → Int} (hk : k ≤ n) : fxF Z 0 n = fxF Z 0 k ++ fxF Z k (n - k) := by
  have := fxF_app Z k (n - k) 0
  rw [show k + (n - k) = n by omega, Nat.zero_add] at this
  exact this
theorem pt_rest {g : G} {n k : Nat} {Z : Nat → Int} (h : FxOk g n Z) (hk : k ≤ n) : FxOk (exG g k Z) (n - k) (dpZ Z k) := by
  have hp := pt_ok h hk
  have h2 := h.2.2
  rw [pt_all (g := g) hk, DoOk_app] at h2
  have e := dpZ_F Z k (n - k) 0
  rw [Nat.add_zero] at e
  rw [exG_yes hp]
  refine ⟨edK_val hp, by have := h.2.1; omega, ?_⟩
  rw [e]
  exact h2.2.congr _ (fun i hi => (edK_flat h.1 _ i hi).symm)
theorem pt_ex {g : G} {n k : Nat} {Z : Nat → Int} (h : FxOk g n Z) (hk : k ≤ n) : G.Eqv (exG (exG g k Z) (n - k) (dpZ Z k)) (exG g n Z) := by
  have hp := pt_ok h hk
  have hr := pt_rest h hk
  obtain ⟨e1, e2⟩ := ex_n hp
  obtain ⟨e3, e4⟩ := ex_n h
  obtain ⟨e5, e6⟩ := ex_n hr
  refine G.z_of_flat (exG_val hr) (exG_val h) (by omega) (by omega) (fun i hi => ?_)
  rw [e5, e6, e1, e2] at hi
  have hi1 : i < (exG g k Z).n * (exG g k Z).len 0 := by rw [e1, e2]; exact hi
  have f1 : (exG (exG g k Z) (n - k) (dpZ Z k)).flat i = edH (exG g k Z) (n - k) (dpZ Z k) i := by rw [exG_yes hr]; exact edK_flat (exG_val hp) _ i hi1
  have f2 : (exG g n Z).flat i = edH g n Z i := by rw [exG_yes h]; exact edK_flat h.1 _ i hi
  rw [f1, f2]
  have e := dpZ_F Z k (n - k) 0
  rw [Nat.add_zero] at e
  show doH ((exG g k Z).len 0) (exG g k Z).flat (fxF (dpZ Z k) 0 (n - k)) i = doH (g.len 0) g.flat (fxF Z 0 n) i
  rw [e, e2, pt_all (g := g) hk, doH_app]
  refine doH_congr (N := g.n * g.len 0) _ (fun j hj => ?_) i hi
  rw [exG_yes hp]
  exact edK_flat h.1 _ j hj
theorem pt_ri {g : G} {n k : Nat} {Z : Nat → Int} (h : FxOk g n Z) (hk : k ≤ n) : riE g k Z + riE (exG g k Z) (n - k) (dpZ Z k) = riE g n Z := by
  have e := dpZ_F Z k (n - k) 0
  rw [Nat.add_zero] at e
  rw [riE_yes (pt_ok h hk), riE_yes (pt_rest h hk), riE_yes h, e, pt_all (g := g) hk, riS_app]

/-- from grid to grid and back -/
theorem mk_back {a b : G} (h : AkOk a b) : FxOk b (bkL (mkL a b)).length (fzZ (bkL (mkL a b))) ∧ shL b (bkL (mkL a b)).length (fzZ (bkL (mkL a b))) = mkL b a := by
  obtain ⟨h1, h2, _⟩ := mk_ok h
  obtain ⟨k1, k2⟩ := bk_do _ h1.2.2 (flat_range h.1)
  have h3 : DoOk b.n (b.len 0) b.flat (bkL (mkL a b)) := by
    have := k1.congr _ h2
    rw [h.2.2.1, h.2.2.2] at this
    exact this
  have h4 : ∀ i, i < a.n * a.len 0 → doH (b.len 0) b.flat (bkL (mkL a b)) i = a.flat i := fun i hi => by
    rw [← k2 i, ← h.2.2.2]
    exact (doH_congr (N := a.n * a.len 0) _ (fun j hj => (h2 j hj)) i hi).symm
  have h5 : LxOk b (bkL (mkL a b)) := ⟨h.2.1, by rw [bkL_len]; exact h1.2.1, h3⟩
  refine ⟨fxOk_list h5, ?_⟩
  show mkD _ _ (edH b _ _) _ _ = _
  rw [edH_list]
  exact mkD_congr _ _ (fun j _ hj => ⟨rfl, h4 j (by rw [h.2.2.1, h.2.2.2]; omega)⟩)
theorem ri_rng {g : G} {n : Nat} {Z : Nat → Int} (h : FxOk g n Z) : -99 * (n : Int) ≤ riE g n Z ∧ riE g n Z ≤ 99 * (n : Int) := by
  have := riS_range _ (fxOk_in h)
  rw [fxF_len] at this
  rw [riE_yes h]; exact this

end Go.Proofs.Ytidlloelinmnnaa
