/- Lists of corrections: what corrections from relief to relief do, taken back, short ones; how many differ. No program is named here. -/
import Derived.Test.YtidlloelinmnnaaEm
import Derived.Test.YtidlloelinmnnaaEi
import Derived.Test.YtidlloelinmnnaaEo
namespace Go.Proofs.Ytidlloelinmnnaa
open Go.RowKit
set_option linter.unusedVariables false
set_option linter.unusedSimpArgs false

theorem ix_at {C i : Nat} (hC : 0 < C) : ((i / C : Nat) : Int).toNat * C + ((i % C : Nat) : Int).toNat = i := by
  rw [Int.toNat_natCast, Int.toNat_natCast, Nat.mul_comm, Nat.div_add_mod]
theorem can_mk {R C : Nat} {h : Nat → Int} {i : Nat} {x y : Int} (hC : 0 < C) (hi : i < R * C) (hx : h i = x) (hy : 0 ≤ y ∧ y ≤ 99) (hn : y ≠ x) : Can R C h ⟨(i / C : Nat), (i % C : Nat), x, y⟩ := by
  have h1 : i / C < R := Nat.div_lt_of_lt_mul (by rw [Nat.mul_comm]; exact hi)
  have h2 : i % C < C := Nat.mod_lt _ hC
  refine ⟨⟨⟨Int.natCast_nonneg _, by simp only; omega⟩, Int.natCast_nonneg _, by simp only; omega⟩, ?_, hy, hn⟩
  show h _ = x
  rw [ix_at hC]; exact hx
/-- the corrections from Z to Y lead from Z to Y -/
theorem mk_do {R C : Nat} {Z Y : Nat → Int} (hC : 0 < C) (hY : ∀ i, i < R * C → 0 ≤ Y i ∧ Y i ≤ 99) : ∀ k i (h : Nat → Int), i + k ≤ R * C → (∀ j, i ≤ j → j < i + k → h j = Z j) →
    DoOk R C h (mkD C Z Y i k) ∧ ∀ j, doH C h (mkD C Z Y i k) j = if i ≤ j ∧ j < i + k then Y j else h j
  | 0, i, h, _, _ => ⟨trivial, fun j => by rw [if_neg (by omega)]; rfl⟩
  | k + 1, i, h, hk, hh => by
    have h0 := hh i (Nat.le_refl _) (by omega)
    show DoOk R C h (mk1 C Z Y i ++ mkD C Z Y (i + 1) k) ∧ ∀ j, doH C h (mk1 C Z Y i ++ mkD C Z Y (i + 1) k) j = _
    by_cases e : Z i = Y i
    · have e1 : mk1 C Z Y i = [] := if_pos e
      rw [e1, List.nil_append]
      obtain ⟨a, b⟩ := mk_do (Z := Z) (Y := Y) hC hY k (i + 1) h (by omega) (fun j h1 h2 => hh j (by omega) (by omega))
      refine ⟨a, fun j => ?_⟩
      rw [b j]
      by_cases h1 : j = i
      · subst h1; rw [if_neg (by omega), if_pos (by omega), h0, e]
      · by_cases h2 : i + 1 ≤ j ∧ j < i + 1 + k
        · rw [if_pos h2, if_pos (by omega)]
        · rw [if_neg h2, if_neg (by omega)]
    · have e1 : mk1 C Z Y i = [⟨(i / C : Nat), (i % C : Nat), Z i, Y i⟩] := if_neg e
      rw [e1]
      have hc : Can R C h ⟨(i / C : Nat), (i % C : Nat), Z i, Y i⟩ := can_mk hC (by omega) h0 (hY i (by omega)) (fun x => e x.symm)
      have hp : ∀ j, put C h ⟨(i / C : Nat), (i % C : Nat), Z i, Y i⟩ j = if j = i then Y i else h j := fun j => by
        unfold put; rw [ix_at hC]
      obtain ⟨a, b⟩ := mk_do (Z := Z) (Y := Y) hC hY k (i + 1) (put C h ⟨(i / C : Nat), (i % C : Nat), Z i, Y i⟩) (by omega) (fun j h1 h2 => by rw [hp, if_neg (by omega)]; exact hh j (by omega) (by omega))
      refine ⟨⟨hc, a⟩, fun j => ?_⟩
      show doH C (put C h ⟨(i / C : Nat), (i % C : Nat), Z i, Y i⟩) (mkD C Z Y (i + 1) k) j = _
      rw [b j]
      by_cases h1 : j = i
      · subst h1; rw [if_neg (by omega), if_pos (by omega), hp, if_pos rfl]
      · by_cases h2 : i + 1 ≤ j ∧ j < i + 1 + k
        · rw [if_pos h2, if_pos (by omega)]
        · rw [if_neg h2, if_neg (by omega), hp, if_neg h1]
theorem ShL.cons {f : Fx} : ∀ {L : List Fx}, (∀ g ∈ L, Lx f g) → ShL L → ShL (f :: L)
  | [], _, _ => trivial
  | g :: l, h, k => ⟨h g (by simp), k⟩
theorem lx_mk {C i j : Nat} (hC : 0 < C) (h : i < j) (a b c d : Int) : Lx ⟨(i / C : Nat), (i % C : Nat), a, b⟩ ⟨(j / C : Nat), (j % C : Nat), c, d⟩ := by
  have h1 : i / C ≤ j / C := Nat.div_le_div_right (by omega)
  have h2 := Nat.div_add_mod i C
  have h3 := Nat.div_add_mod j C
  unfold Lx
  simp only
  rcases Nat.lt_or_ge (i / C) (j / C) with h4 | h4
  · exact Or.inl (by omega)
  · have e : i / C = j / C := by omega
    rw [e] at h2
    exact Or.inr ⟨by omega, by omega⟩
theorem mk_short {C : Nat} {Z Y : Nat → Int} (hC : 0 < C) : ∀ k i, ShL (mkD C Z Y i k)
  | 0, _ => trivial
  | k + 1, i => by
    show ShL (mk1 C Z Y i ++ mkD C Z Y (i + 1) k)
    have ih := mk_short (Z := Z) (Y := Y) hC k (i + 1)
    by_cases e : Z i = Y i
    · rw [show mk1 C Z Y i = [] from if_pos e, List.nil_append]; exact ih
    · rw [show mk1 C Z Y i = [⟨(i / C : Nat), (i % C : Nat), Z i, Y i⟩] from if_neg e]
      refine ShL.cons (fun g hg => ?_) ih
      obtain ⟨j, h1, _, rfl, _⟩ := mkD_mem k (i + 1) g hg
      exact lx_mk hC (by omega) _ _ _ _

/-- how many numbers differ -/
theorem mkl_sym (C : Nat) (Z Y : Nat → Int) : ∀ k i, (mkD C Z Y i k).length = (mkD C Y Z i k).length
  | 0, _ => rfl
  | k + 1, i => by
    simp only [mkD, List.length_append]
    rw [mkl_sym C Z Y k (i + 1)]
    congr 1
    unfold mk1
    by_cases e : Z i = Y i
    · rw [if_pos e, if_pos e.symm]
    · rw [if_neg e, if_neg (fun x => e x.symm)]; rfl
theorem mkl_zero (C : Nat) (Z Y : Nat → Int) : ∀ k i, (mkD C Z Y i k).length = 0 ↔ ∀ j, i ≤ j → j < i + k → Z j = Y j
  | 0, i => ⟨fun _ j h1 h2 => by omega, fun _ => rfl⟩
  | k + 1, i => by
    simp only [mkD, List.length_append]
    have ih := mkl_zero C Z Y k (i + 1)
    constructor
    · intro h j h1 h2
      by_cases e : j = i
      · subst e
        by_cases e2 : Z j = Y j
        · exact e2
        · have : (mk1 C Z Y j).length = 1 := by unfold mk1; rw [if_neg e2]; rfl
          omega
      · exact ih.1 (by omega) j (by omega) (by omega)
    · intro h
      have h1 : (mk1 C Z Y i).length = 0 := by unfold mk1; rw [if_pos (h i (Nat.le_refl _) (by omega))]; rfl
      rw [h1, ih.2 (fun j h1 h2 => h j (by omega) (by omega))]
theorem mkl_tri (C : Nat) (Z X Y : Nat → Int) : ∀ k i, (mkD C Z Y i k).length ≤ (mkD C Z X i k).length + (mkD C X Y i k).length
  | 0, _ => Nat.le_refl _
  | k + 1, i => by
    simp only [mkD, List.length_append]
    have ih := mkl_tri C Z X Y k (i + 1)
    have h : (mk1 C Z Y i).length ≤ (mk1 C Z X i).length + (mk1 C X Y i).length := by
      unfold mk1
      by_cases e : Z i = Y i
      · rw [if_pos e]; exact Nat.zero_le _
      · rw [if_neg e]
        by_cases e1 : Z i = X i
        · rw [if_pos e1, if_neg (fun x => e (e1.trans x))]; simp
        · rw [if_neg e1]; simp
    omega
theorem mkl_one (C : Nat) (Z Y : Nat → Int) (x : Nat) (h : ∀ j, j ≠ x → Z j = Y j) : ∀ k i, (mkD C Z Y i k).length ≤ if i ≤ x ∧ x < i + k then 1 else 0
  | 0, i => by rw [if_neg (by omega)]; exact Nat.le_refl _
  | k + 1, i => by
    simp only [mkD, List.length_append]
    have ih := mkl_one C Z Y x h k (i + 1)
    by_cases e : i = x
    · subst e
      rw [if_neg (by omega)] at ih
      rw [if_pos (by omega)]
      have := mk1_len C Z Y i
      omega
    · have h0 : (mk1 C Z Y i).length = 0 := by unfold mk1; rw [if_pos (h i e)]; rfl
      rw [h0]
      by_cases h2 : i + 1 ≤ x ∧ x < i + 1 + k
      · rw [if_pos h2] at ih; rw [if_pos (by omega)]; omega
      · rw [if_neg h2] at ih; omega
theorem mkl_le (C : Nat) : ∀ (L : List Fx) (h : Nat → Int) (k : Nat), (mkD C h (doH C h L) 0 k).length ≤ L.length
  | [], h, k => by rw [show (mkD C h (doH C h []) 0 k).length = 0 from (mkl_zero C h h k 0).2 (fun _ _ _ => rfl)]; exact Nat.zero_le _
  | f :: l, h, k => by
    have h1 := mkl_tri C h (put C h f) (doH C (put C h f) l) k 0
    have h2 := mkl_one C h (put C h f) (f.r.toNat * C + f.c.toNat) (fun j hj => by unfold put; rw [if_neg hj]) k 0
    have h3 := mkl_le C l (put C h f) k
    show (mkD C h (doH C (put C h f) l) 0 k).length ≤ l.length + 1
    have : (if 0 ≤ f.r.toNat * C + f.c.toNat ∧ f.r.toNat * C + f.c.toNat < 0 + k then 1 else 0) ≤ 1 := by split <;> omega
    omega

/-- corrections are taken back -/
theorem bk_do {R C : Nat} : ∀ (L : List Fx) {h : Nat → Int}, DoOk R C h L → (∀ i, i < R * C → 0 ≤ h i ∧ h i ≤ 99) →
    DoOk R C (doH C h L) (bkL L) ∧ ∀ j, doH C (doH C h L) (bkL L) j = h j
  | [], h, _, _ => ⟨trivial, fun _ => rfl⟩
  | f :: l, h, k, hh => by
    obtain ⟨a, b⟩ := bk_do l k.2 (put_range k.1 hh)
    rw [bkL_cons, DoOk_app]
    have hx : h (f.r.toNat * C + f.c.toNat) = f.o := k.1.2.1
    have hr := hh _ k.1.lt
    have hp : put C h f (f.r.toNat * C + f.c.toNat) = f.n := by unfold put; rw [if_pos rfl]
    have hc : Can R C (put C h f) (sw f) := ⟨k.1.1, hp, by show 0 ≤ f.o ∧ f.o ≤ 99; omega, by have := k.1.2.2.2; exact fun e => this e.symm⟩
    refine ⟨⟨a, hc.congr (fun i _ => (b i).symm), trivial⟩, fun j => ?_⟩
    rw [doH_app]
    show put C (doH C (doH C (put C h f) l) (bkL l)) (sw f) j = h j
    unfold put
    show (if j = f.r.toNat * C + f.c.toNat then f.o else _) = _
    by_cases e : j = f.r.toNat * C + f.c.toNat
    · rw [if_pos e, e, hx]
    · rw [if_neg e]
      have := b j
      unfold put at this
      rw [this, if_neg e]
theorem sw_sw (f : Fx) : sw (sw f) = f := rfl
theorem bk_bk (L : List Fx) : bkL (bkL L) = L := by
  unfold bkL
  rw [List.map_reverse, List.reverse_reverse, List.map_map]
  exact (List.map_congr_left (fun f _ => sw_sw f)).trans (List.map_id L)
theorem ri_bk : ∀ (L : List Fx), riS (bkL L) = 0 - riS L
  | [] => rfl
  | f :: l => by
    rw [bkL_cons, riS_snoc, ri_bk l]
    simp only [riS, sw]
    omega

/-- a sum of numbers -/
def smF (h : Nat → Int) : Nat → Int
  | 0 => 0
  | k + 1 => smF h k + h k
theorem smF_congr {h h' : Nat → Int} : ∀ k, (∀ j, j < k → h j = h' j) → smF h k = smF h' k
  | 0, _ => rfl
  | k + 1, e => by simp only [smF]; rw [smF_congr k (fun j hj => e j (by omega)), e k (by omega)]
theorem smF_put (C : Nat) (h : Nat → Int) (f : Fx) : ∀ k, smF (put C h f) k = smF h k + (if f.r.toNat * C + f.c.toNat < k then f.n - h (f.r.toNat * C + f.c.toNat) else 0)
  | 0 => by simp [smF]
  | k + 1 => by
    simp only [smF]
    rw [smF_put C h f k]
    unfold put
    by_cases e : k = f.r.toNat * C + f.c.toNat
    · subst e
      rw [if_pos rfl, if_neg (by omega), if_pos (by omega)]; omega
    · rw [if_neg e]
      by_cases h2 : f.r.toNat * C + f.c.toNat < k
      · rw [if_pos h2, if_pos (by omega)]; omega
      · rw [if_neg h2, if_neg (by omega)]; omega
theorem ri_sum {R C : Nat} : ∀ (L : List Fx) {h : Nat → Int}, DoOk R C h L → riS L = smF (doH C h L) (R * C) - smF h (R * C)
  | [], h, _ => by show (0 : Int) = _; unfold doH; omega
  | f :: l, h, k => by
    have ih := ri_sum l k.2
    have h1 := smF_put C h f (R * C)
    rw [if_pos k.1.lt, k.1.2.1] at h1
    show riS l + (f.n - f.o) = smF (doH C (put C h f) l) (R * C) - _
    omega

/-- short corrections are those from the relief to their edition -/
theorem ShL.tail {f : Fx} {l : List Fx} (h : ShL (f :: l)) : ShL l := by cases l with | nil => trivial | cons g l => exact h.2
theorem Lx.trans {a b c : Fx} (h : Lx a b) (k : Lx b c) : Lx a c := by unfold Lx at *; omega
theorem ShL.all {f : Fx} : ∀ {l : List Fx}, ShL (f :: l) → ∀ g ∈ l, Lx f g
  | [], _ => fun g hg => by cases hg
  | g :: l, h => fun x hx => by
    rcases List.mem_cons.1 hx with rfl | hx
    · exact h.1
    · exact h.1.trans (ShL.all h.2 x hx)
theorem lx_ix {R C : Nat} {f g : Fx} (hf : (0 ≤ f.r ∧ f.r < R) ∧ 0 ≤ f.c ∧ f.c < C) (hg : (0 ≤ g.r ∧ g.r < R) ∧ 0 ≤ g.c ∧ g.c < C) (h : Lx f g) : f.r.toNat * C + f.c.toNat < g.r.toNat * C + g.c.toNat := by
  unfold Lx at h
  rcases h with h | ⟨h1, h2⟩
  · have h3 : f.r.toNat + 1 ≤ g.r.toNat := by omega
    have h4 : (f.r.toNat + 1) * C ≤ g.r.toNat * C := Nat.mul_le_mul_right _ h3
    rw [Nat.add_mul, Nat.one_mul] at h4
    omega
  · rw [h1]; omega
theorem doH_far {C : Nat} : ∀ (L : List Fx) (h : Nat → Int) (i : Nat), (∀ f ∈ L, f.r.toNat * C + f.c.toNat ≠ i) → doH C h L i = h i
  | [], _, _, _ => rfl
  | f :: l, h, i, k => by
    show doH C (put C h f) l i = h i
    rw [doH_far l _ i (fun g hg => k g (List.mem_cons_of_mem _ hg))]
    unfold put
    rw [if_neg (fun e => k f (by simp) e.symm)]
theorem short_mk {R C : Nat} (hC : 0 < C) : ∀ k i (L : List Fx) (h : Nat → Int), DoOk R C h L → ShL L → i + k = R * C → (∀ f ∈ L, i ≤ f.r.toNat * C + f.c.toNat) → mkD C h (doH C h L) i k = L
  | 0, i, [], _, _, _, _, _ => rfl
  | 0, i, f :: l, h, hd, _, hk, hi => by
    have h1 := hd.1.lt
    have h2 := hi f (by simp)
    omega
  | k + 1, i, [], h, hd, hs, hk, hi => by
    show mk1 C h h i ++ mkD C h h (i + 1) k = []
    rw [show mk1 C h h i = [] from if_pos rfl, List.nil_append]
    exact short_mk (R := R) hC k (i + 1) [] h trivial trivial (by omega) (fun f hf => by cases hf)
  | k + 1, i, f :: l, h, hd, hs, hk, hi => by
    show mk1 C h (doH C (put C h f) l) i ++ mkD C h (doH C (put C h f) l) (i + 1) k = f :: l
    have hcl := doOk_cells (f :: l) hd
    have hgt : ∀ g ∈ l, f.r.toNat * C + f.c.toNat < g.r.toNat * C + g.c.toNat := fun g hg => lx_ix (hcl f (by simp)) (hcl g (List.mem_cons_of_mem _ hg)) (ShL.all hs g hg)
    have hfi := hi f (by simp)
    by_cases e : i = f.r.toNat * C + f.c.toNat
    · have hv : doH C (put C h f) l i = f.n := by
        rw [doH_far l _ i (fun g hg => by have := hgt g hg; omega)]
        unfold put; rw [if_pos e]
      have ho : h i = f.o := by rw [e]; exact hd.1.2.1
      have hne : ¬ h i = doH C (put C h f) l i := by rw [hv, ho]; exact fun x => hd.1.2.2.2 x.symm
      have hdm := div_at f.r.toNat f.c.toNat C (by have := (hcl f (by simp)).2; omega)
      have hm1 : mk1 C h (doH C (put C h f) l) i = [f] := by
        unfold mk1
        rw [if_neg hne, hv, ho, e, hdm.1, hdm.2]
        congr 1
        have := hcl f (by simp)
        exact Fx.ext4 (by simp only; omega) (by simp only; omega) rfl rfl
      rw [hm1]
      have ih := short_mk hC k (i + 1) l (put C h f) hd.2 hs.tail (by omega) (fun g hg => by have := hgt g hg; omega)
      show f :: mkD C h (doH C (put C h f) l) (i + 1) k = f :: l
      rw [mkD_congr (Z := h) (Z' := put C h f) (Y := doH C (put C h f) l) (Y' := doH C (put C h f) l) k (i + 1) (fun j h1 h2 => ⟨by unfold put; rw [if_neg (by omega)], rfl⟩), ih]
    · have hv : doH C (put C h f) l i = h i := doH_far (f :: l) h i (fun g hg => by
        rcases List.mem_cons.1 hg with rfl | hg
        · exact fun x => e x.symm
        · have := hgt g hg; omega)
      rw [show mk1 C h (doH C (put C h f) l) i = [] from if_pos hv.symm, List.nil_append]
      exact short_mk hC k (i + 1) (f :: l) h hd hs (by omega) (fun g hg => by
        rcases List.mem_cons.1 hg with rfl | hg
        · omega
        · have := hgt g hg; omega)

end Go.Proofs.Ytidlloelinmnnaa
