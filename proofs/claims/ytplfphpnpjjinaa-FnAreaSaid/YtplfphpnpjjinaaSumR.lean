/- Regions of turned and mirrored grids; areas add up: what is reckoned. -/
import Derived.Test.YtplfphpnpjjinaaSumM
import Derived.Test.YtplfphpnpjjinaaRgM3
namespace Go.Proofs.Ytplfphpnpjjinaa
set_option linter.unusedVariables false

/-- cells side by side, by row and column -/
def Nbr (r c r' c' : Nat) : Prop := (r' = r ∧ (c' = c + 1 ∨ c = c' + 1)) ∨ (c' = c ∧ (r' = r + 1 ∨ r = r' + 1))

theorem rc_uniq {C r c r' c' : Nat} (hc : c < C) (hc' : c' < C) (e : r * C + c = r' * C + c') : r = r' ∧ c = c' := by
  have m := rc_mod (r := r) hc
  have m' := rc_mod (r := r') hc'
  have h1 : c = c' := by rw [← m, e, m']
  subst h1
  have h2 : r * C = r' * C := by omega
  exact ⟨Nat.eq_of_mul_eq_mul_right (by omega) h2, rfl⟩
theorem rc_of {R C k : Nat} (h : k < R * C) : k / C < R ∧ k % C < C ∧ k / C * C + k % C = k := by
  have hC : 0 < C := by
    rcases Nat.eq_zero_or_pos C with e | e
    · subst e; simp at h
    · exact e
  exact ⟨(Nat.div_lt_iff_lt_mul hC).2 h, Nat.mod_lt _ hC, by have := Nat.div_add_mod k C; rw [Nat.mul_comm] at this; exact this⟩

theorem near_rc {R C r c r' c' : Nat} (hr : r < R) (hc : c < C) (hr' : r' < R) (hc' : c' < C) (hk : r * C + c < R * C) (hk' : r' * C + c' < R * C) : (⟨r' * C + c', hk'⟩ : Ix (R * C)) ∈ near R C ⟨r * C + c, hk⟩ 4 ↔ Nbr r c r' c' := by
  have key : ∀ (k : Nat) (x : Ix (R * C)), k < 4 → nb R C ⟨r * C + c, hk⟩ k = some x → x.1 = r' * C + c' → (⟨r' * C + c', hk'⟩ : Ix (R * C)) ∈ near R C ⟨r * C + c, hk⟩ 4 := by
    intro k x h4 hx e
    have : x = ⟨r' * C + c', hk'⟩ := Subtype.ext e
    rw [this] at hx
    exact near_nb h4 hx
  have back : ∀ (k : Nat) (x : Ix (R * C)), nb R C ⟨r * C + c, hk⟩ k = some x → nb R C ⟨r * C + c, hk⟩ k = some ⟨r' * C + c', hk'⟩ → x.1 = r' * C + c' := by
    intro k x h1 h2
    rw [h1] at h2
    exact congrArg (·.1) (Option.some.inj h2)
  constructor
  · intro h
    rw [near_four] at h
    simp only [List.mem_append, Option.mem_toList] at h
    rcases h with ((h | h) | h) | h
    · by_cases h1 : 1 ≤ r
      · obtain ⟨x, hx, hx1⟩ := nb0_yes hk hc h1
        obtain ⟨e1, e2⟩ := rc_uniq hc hc' (hx1.symm.trans (back _ x hx h))
        exact Or.inr ⟨e2.symm, Or.inr (by omega)⟩
      · rw [nb0_no hk hc h1] at h; cases h
    · by_cases h1 : c + 1 < C
      · obtain ⟨x, hx, hx1⟩ := nb1_yes hk hc h1
        obtain ⟨e1, e2⟩ := rc_uniq h1 hc' (hx1.symm.trans (back _ x hx h))
        exact Or.inl ⟨e1.symm, Or.inl e2.symm⟩
      · rw [nb1_no hk hc h1] at h; cases h
    · by_cases h1 : r + 1 < R
      · obtain ⟨x, hx, hx1⟩ := nb2_yes hk hr hc h1
        obtain ⟨e1, e2⟩ := rc_uniq hc hc' (hx1.symm.trans (back _ x hx h))
        exact Or.inr ⟨e2.symm, Or.inl e1.symm⟩
      · rw [nb2_no hk hr hc h1] at h; cases h
    · by_cases h1 : 1 ≤ c
      · obtain ⟨x, hx, hx1⟩ := nb3_yes hk hc h1
        obtain ⟨e1, e2⟩ := rc_uniq (by omega) hc' (hx1.symm.trans (back _ x hx h))
        exact Or.inl ⟨e1.symm, Or.inr (by omega)⟩
      · rw [nb3_no hk hc h1] at h; cases h
  · rintro (⟨e1, e2 | e2⟩ | ⟨e1, e2 | e2⟩)
    · obtain ⟨x, hx, hx1⟩ := nb1_yes hk hc (by omega)
      exact key 1 x (by omega) hx (by rw [hx1, e1, e2])
    · obtain ⟨x, hx, hx1⟩ := nb3_yes hk hc (by omega)
      exact key 3 x (by omega) hx (by rw [hx1, e1, e2]; rfl)
    · obtain ⟨x, hx, hx1⟩ := nb2_yes hk hr hc (by omega)
      exact key 2 x (by omega) hx (by rw [hx1, e1, e2])
    · obtain ⟨x, hx, hx1⟩ := nb0_yes hk hc (by omega)
      exact key 0 x (by omega) hx (by rw [hx1, e1, e2]; rfl)

theorem inj_le {n m : Nat} (rel : Nat → Nat → Prop) (h : ∀ s, s < n → ∃ t, t < m ∧ rel s t) (hi : ∀ s s' t, rel s t → rel s' t → s = s') : n ≤ m := by
  classical
  let t : Nat → Nat := fun s => if hs : s < n then (h s hs).choose else 0
  have ht : ∀ s, s < n → t s < m ∧ rel s (t s) := by
    intro s hs
    have := (h s hs).choose_spec
    simp only [t, dif_pos hs]
    exact this
  have hl : ((List.range n).map t).length ≤ m := by
    refine nodup_le _ _ ?_ ?_
    · rw [List.Nodup, List.pairwise_map]
      refine List.nodup_range.imp_of_mem ?_
      intro a b ha hb hne e
      have h1 := (ht a (List.mem_range.1 ha)).2
      have h2 := (ht b (List.mem_range.1 hb)).2
      rw [e] at h1
      exact hne (hi _ _ _ h1 h2)
    · intro x hx
      obtain ⟨s, hs, rfl⟩ := List.mem_map.1 hx
      exact (ht s (List.mem_range.1 hs)).1
  simpa using hl

/-- a map that keeps neighbors and heights keeps regions together -/
theorem cm_via {R C R' C' : Nat} {Z Y : Nat → Int} {lv : Int} (f : Nat → Nat) (hadj : ∀ x y : Ix (R * C), y ∈ near R C x 4 → ∃ a b : Ix (R' * C'), a.1 = f x.1 ∧ b.1 = f y.1 ∧ b ∈ near R' C' a 4) (hz : ∀ x, x < R * C → Y (f x) = Z x) {x y : Nat} (e : cmZ R C Z lv x = cmZ R C Z lv y) : cmZ R' C' Y lv (f x) = cmZ R' C' Y lv (f y) :=
  cm_closed (fun z => cmZ R' C' Y lv (f x) = cmZ R' C' Y lv (f z)) (fun a b hab h => h.trans (by
    obtain ⟨p, q, hp, hq, hpq⟩ := hadj a b hab.1
    have := cm_adj (show Adj R' C' Y lv p q from ⟨hpq, by rw [hp, hz _ a.2]; exact hab.2.1, by rw [hq, hz _ b.2]; exact hab.2.2⟩)
    rw [hp, hq] at this
    exact this)) e rfl

theorem rgN_via {R C R' C' : Nat} {Z Y : Nat → Int} {lv : Int} (f : Nat → Nat) (hcm : ∀ x y, cmZ R C Z lv x = cmZ R C Z lv y → cmZ R' C' Y lv (f x) = cmZ R' C' Y lv (f y)) (hsur : ∀ k, k < R' * C' → ∃ x, x < R * C ∧ f x = k ∧ Z x = Y k) : rgN R' C' Y lv (R' * C') ≤ rgN R C Z lv (R * C) := by
  refine inj_le (fun s t => ∃ x, x < R * C ∧ lv ≤ Z x ∧ rgN R' C' Y lv (cmZ R' C' Y lv (f x)) = s ∧ rgN R C Z lv (cmZ R C Z lv x) = t) ?_ ?_
  · intro s hs
    obtain ⟨k, h1, h2, h3, h4⟩ := rgN_hit hs
    obtain ⟨x, x1, x2, x3⟩ := hsur k h1
    have hx : lv ≤ Z x := by rw [x3]; exact h2
    have hlt := numZ_lt (R := R) (C := C) hx (Nat.lt_of_le_of_lt (cmZ_le R C Z lv x) x1)
    rw [numZ_yes hx] at hlt
    exact ⟨rgN R C Z lv (cmZ R C Z lv x), by omega, x, x1, hx, by rw [x2, h3]; exact h4, rfl⟩
  · rintro s s' t ⟨x, x1, x2, x3, x4⟩ ⟨y, y1, y2, y3, y4⟩
    have e := rgN_inj ⟨cm_land x2, cmZ_idem R C Z lv x⟩ ⟨cm_land y2, cmZ_idem R C Z lv y⟩ (x4.trans y4.symm)
    rw [← x3, ← y3, hcm x y e]

theorem rgN_rc {R C R' C' : Nat} {Z Y : Nat → Int} (lv : Int) (p q : Nat → Nat → Nat) (hpq : ∀ r c, r < R → c < C → p r c < R' ∧ q r c < C' ∧ Y (p r c * C' + q r c) = Z (r * C + c))
    (hadj : ∀ r c r' c', r < R → c < C → r' < R → c' < C → Nbr r c r' c' → Nbr (p r c) (q r c) (p r' c') (q r' c'))
    (hsur : ∀ r c, r < R' → c < C' → ∃ r0 c0, r0 < R ∧ c0 < C ∧ p r0 c0 = r ∧ q r0 c0 = c) : rgN R' C' Y lv (R' * C') ≤ rgN R C Z lv (R * C) := by
  refine rgN_via (fun x => p (x / C) (x % C) * C' + q (x / C) (x % C)) (fun x y e => cm_via (fun x => p (x / C) (x % C) * C' + q (x / C) (x % C)) ?_ ?_ e) ?_
  · rintro ⟨x, hx⟩ ⟨y, hy⟩ h
    obtain ⟨rx1, rx2, rx3⟩ := rc_of hx
    obtain ⟨ry1, ry2, ry3⟩ := rc_of hy
    have hn := near_rc rx1 rx2 ry1 ry2 (by rw [rx3]; exact hx) (by rw [ry3]; exact hy)
    simp only [rx3, ry3] at hn
    obtain ⟨p1, p2, _⟩ := hpq _ _ rx1 rx2
    obtain ⟨q1, q2, _⟩ := hpq _ _ ry1 ry2
    exact ⟨⟨_, rc_lt p1 p2⟩, ⟨_, rc_lt q1 q2⟩, rfl, rfl, (near_rc p1 p2 q1 q2 _ _).2 (hadj _ _ _ _ rx1 rx2 ry1 ry2 (hn.1 h))⟩
  · intro x hx
    obtain ⟨rx1, rx2, rx3⟩ := rc_of hx
    show Y (p (x / C) (x % C) * C' + q (x / C) (x % C)) = Z x
    rw [(hpq _ _ rx1 rx2).2.2, rx3]
  · intro k hk
    obtain ⟨k1, k2, k3⟩ := rc_of hk
    obtain ⟨r, c, hr, hc, e1, e2⟩ := hsur _ _ k1 k2
    have m := rc_mod (r := r) hc
    have d : (r * C + c) / C = r := by
      have := rc_of (rc_lt hr hc)
      exact (rc_uniq this.2.1 hc this.2.2).1
    have hf : p ((r * C + c) / C) ((r * C + c) % C) * C' + q ((r * C + c) / C) ((r * C + c) % C) = k := by rw [d, m, e1, e2]; exact k3
    refine ⟨r * C + c, rc_lt hr hc, hf, ?_⟩
    rw [← (hpq r c hr hc).2.2, e1, e2, k3]

theorem rgN_turn {R C : Nat} {Z Y : Nat → Int} (lv : Int) (h : ∀ r c, r < C → c < R → Y (r * R + c) = Z ((R - 1 - c) * C + r)) : rgN C R Y lv (C * R) = rgN R C Z lv (R * C) := by
  refine Nat.le_antisymm ?_ ?_
  · refine rgN_rc lv (fun r c => c) (fun r c => R - 1 - r) ?_ ?_ ?_
    · intro r c hr hc
      refine ⟨hc, by omega, ?_⟩
      have := h c (R - 1 - r) hc (by omega)
      rw [show R - 1 - (R - 1 - r) = r by omega] at this
      exact this
    · intro r c r' c' hr hc hr' hc' hn
      unfold Nbr at hn ⊢
      omega
    · intro r c hr hc
      exact ⟨R - 1 - c, r, by omega, hr, rfl, by omega⟩
  · refine rgN_rc lv (fun r c => R - 1 - c) (fun r c => r) ?_ ?_ ?_
    · intro r c hr hc
      exact ⟨by omega, hr, (h r c hr hc).symm⟩
    · intro r c r' c' hr hc hr' hc' hn
      unfold Nbr at hn ⊢
      omega
    · intro r c hr hc
      exact ⟨c, R - 1 - r, hc, by omega, by omega, rfl⟩

theorem rgN_mirror {R C : Nat} {Z Y : Nat → Int} (lv : Int) (h : ∀ r c, r < R → c < C → Y (r * C + c) = Z (r * C + (C - 1 - c))) : rgN R C Y lv (R * C) = rgN R C Z lv (R * C) := by
  have hm : ∀ r c r' c', r < R → c < C → r' < R → c' < C → Nbr r c r' c' → Nbr r (C - 1 - c) r' (C - 1 - c') := by
    intro r c r' c' hr hc hr' hc' hn
    unfold Nbr at hn ⊢
    omega
  have hs : ∀ r c, r < R → c < C → ∃ r0 c0, r0 < R ∧ c0 < C ∧ r0 = r ∧ C - 1 - c0 = c := fun r c hr hc => ⟨r, C - 1 - c, hr, by omega, rfl, by omega⟩
  refine Nat.le_antisymm ?_ ?_
  · refine rgN_rc lv (fun r c => r) (fun r c => C - 1 - c) ?_ hm hs
    intro r c hr hc
    refine ⟨hr, by omega, ?_⟩
    have := h r (C - 1 - c) hr (by omega)
    rw [show C - 1 - (C - 1 - c) = c by omega] at this
    exact this
  · refine rgN_rc lv (fun r c => r) (fun r c => C - 1 - c) ?_ hm hs
    intro r c hr hc
    exact ⟨hr, by omega, (h r c hr hc).symm⟩

theorem rgN_le_land (R C : Nat) (Z : Nat → Int) (lv : Int) : ∀ k, rgN R C Z lv k ≤ landN Z lv k
  | 0 => Nat.le_refl _
  | k + 1 => by
    have ih := rgN_le_land R C Z lv k
    by_cases h : lv ≤ Z k
    · rw [landN_yes h]
      by_cases e : cmZ R C Z lv k = k
      · rw [rgN_yes h e]; omega
      · rw [rgN_no (fun h => e h.2)]; omega
    · rw [landN_no h, rgN_no (fun e => h e.1)]; exact ih
theorem landN_ex {Z : Nat → Int} {lv : Int} : ∀ {n : Nat}, 0 < landN Z lv n → ∃ i, i < n ∧ lv ≤ Z i
  | 0, h => by simp [landN] at h
  | n + 1, h => by
    by_cases e : lv ≤ Z n
    · exact ⟨n, by omega, e⟩
    · rw [landN_no e] at h
      obtain ⟨i, h1, h2⟩ := landN_ex h
      exact ⟨i, by omega, h2⟩
theorem rgN_zero (R C : Nat) (Z : Nat → Int) (lv : Int) (N : Nat) : rgN R C Z lv N = 0 ↔ landN Z lv N = 0 := by
  constructor
  · intro h
    apply Classical.byContradiction
    intro e
    obtain ⟨i, h1, h2⟩ := landN_ex (Nat.pos_of_ne_zero e)
    have := numZ_lt (R := R) (C := C) h2 (Nat.lt_of_le_of_lt (cmZ_le R C Z lv i) h1)
    rw [numZ_yes h2] at this
    omega
  · intro h
    have := rgN_le_land R C Z lv N
    omega

theorem Sm_pick (v : Int) : ∀ n : Nat, Sm n (fun s => if v = (s : Int) then 1 else 0) = if 0 ≤ v ∧ v < n then 1 else 0
  | 0 => by rw [if_neg (by omega)]; rfl
  | n + 1 => by
    show Sm n (fun s => if v = (s : Int) then 1 else 0) + (if v = (n : Int) then 1 else 0) = _
    rw [Sm_pick v n]
    split <;> split <;> split <;> omega
/-- the areas of all regions are all land -/
theorem area_sum (R C : Nat) (Z : Nat → Int) (lv : Int) (n : Nat) : ∀ N, (∀ j, j < N → lv ≤ Z j → numZ R C Z lv j < n) → Sm n (fun s => cntZ (numZ R C Z lv) s N) = landN Z lv N
  | 0, _ => by
    show Sm n (fun _ => 0) = 0
    exact Sm_zero n
  | N + 1, h => by
    have ih := area_sum R C Z lv n N (fun j hj => h j (by omega))
    have e : ∀ s, s < n → cntZ (numZ R C Z lv) s (N + 1) = cntZ (numZ R C Z lv) s N + (if numZ R C Z lv N = (s : Int) then 1 else 0) := by
      intro s _
      by_cases hs : numZ R C Z lv N = (s : Int)
      · rw [cntZ_yes hs, if_pos hs]
      · rw [cntZ_no hs, if_neg hs]; rfl
    rw [Sm_congr e, Sm_add, ih, Sm_pick]
    by_cases hl : lv ≤ Z N
    · rw [landN_yes hl, if_pos ⟨numZ_nonneg hl, h N (by omega) hl⟩]
    · rw [landN_no hl, if_neg (by rw [numZ_no hl]; omega)]; rfl

end Go.Proofs.Ytplfphpnpjjinaa
