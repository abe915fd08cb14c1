/- SettingBest: the program and the model. -/
import Derived.Test.YthelaffjpmcdbaaStY
namespace Go.Proofs.Ythelaffjpmcdbaa
open Go.RowKit
set_option linter.unusedVariables false

theorem ct_pos (Z : Nat → Int) : ∀ f k M, 1 ≤ ct Z f k M := by
  intro f
  induction f with
  | zero => intro k M; simp [ct]
  | succ f ih => intro k M; have := ih (k + 1) M; simp only [ct]; omega
/-- the sides of the best setting -/
noncomputable def bsG (n : Nat) (Z : Nat → Int) : Nat → Int := gd Z true n 0 (fun _ => -1) (mpK Z n)
noncomputable def lsN (n : Nat) (Z : Nat → Int) : Nat := if lsB n Z = true then n else 0
theorem wtK_out (Z : Nat → Int) : ∀ i, wtK Z (fun _ => -1) i = 0 := by
  intro i
  induction i with
  | zero => rfl
  | succ i ih => show (if _ then _ else _) = _; rw [if_pos rfl]; exact ih
theorem wtK_up (Z sd : Nat → Int) (k s : Nat) (h : sd k = -1) : ∀ i, wtK Z (upS sd k s) i = if k < i then wtK Z sd i + Z (k * 4 + 3) else wtK Z sd i := by
  intro i
  induction i with
  | zero => rfl
  | succ i ih =>
    simp only [wtK, ih]
    by_cases e : i = k
    · subst e
      have e2 : upS sd i s i = s := if_pos rfl
      rw [e2, if_neg (by omega), if_neg (by omega), if_pos (by omega), if_pos h]
    · have e2 : upS sd k s i = sd i := if_neg e
      rw [e2]
      by_cases e3 : k < i
      · rw [if_pos e3, if_pos (show k < i + 1 by omega)]
        by_cases e4 : sd i = -1
        · rw [if_pos e4, if_pos e4]
        · rw [if_neg e4, if_neg e4]; omega
      · rw [if_neg e3, if_neg (show ¬ k < i + 1 by omega)]
theorem best_is {n : Nat} {Z : Nat → Int} (hok : LsOk n Z) : (fbF (fun sd => wtK Z sd n) (-1, fun _ => -1) (en Z n 0 (fun _ => -1) (mpK Z n))).2 = bsG n Z := by
  have h := fb_en (Z := Z) (b := true) (n := n) (F := fun sd => wtK Z sd n) (fun sd k s hk hs => by show wtK Z _ n = wtK Z sd n + Z (k * 4 + 3); rw [wtK_up Z sd k s hs n, if_pos hk]) n 0 (fun _ => -1) (mpK Z n) (-1, fun _ => -1) (by omega) (fun _ _ _ => rfl)
  rw [h, if_pos]
  · rfl
  · have := (bst_range (b := true) hok n 0 (mpK Z n) (by omega)).1
    show -1 < wtK Z (fun _ => -1) n + _
    rw [wtK_out]
    omega

set_option maxRecDepth 20000 in
set_option maxHeartbeats 8000000 in
theorem implSettingBest_any (v : Value) (hi n : Nat) (Z : Nat → Int) (w : World) (hv : RdT 0 hi w v n Z) (hh : hi ≤ w.heap.size) (hn : n ≤ 1048576) :
    Calls Try.prog 24 #[v] w (LgPost (lsB n Z) (lsN n Z) (bsG n Z) w) := by
  unfold lsN
  by_cases hok : LsOk n Z
  case neg =>
    have HN := Lib.hid (newSetting_no v 0 hi n Z w hv hh (by omega) hok)
    rw [lsB_no hok]
    clear hok hv
    go_enter Try.func24, Try.ntmps24
    go_wp2_with fail
    refine HN.out.mono ?_
    rintro e w1 ⟨rfl, hb1⟩
    have HB1 := Lib.hid hb1
    clear hb1
    go_wp2
    go_ret2
    have hl := Nums.owI (ownsRow_base (nums_lit w1) HB1.out.size) (fun x hx => by cases hx)
    exact ⟨_, rfl, ⟨_, _, _, rfl⟩, owI_congr hl (fun i hi => by simp at hi), HB1.out.alloc HB1.out.size _⟩
  have HN := Lib.hid (newSetting_yes v hi n Z w hv hh hok)
  rw [lsB_yes hok, if_pos rfl]
  have HOK := Lib.hid hok
  have hn6 := hok.1
  have HBS := Lib.hid (best_is hok)
  clear hok hv
  go_enter Try.func24, Try.ntmps24
  go_wp2_with fail
  refine HN.out.mono ?_
  rintro e w1 ⟨B, S, sv, rfl, hst, hB, hS, hb1, hSq⟩
  have hbA := ((Below.refl w1.heap.size w1).alloc (Nat.le_refl _) (.cells #[.slice none 0 0] 26)).alloc (by simp) (.cells #[.int .i64 (-1)] 3)
  have HST := Lib.hid (hst.below hbA)
  have hBl := hst.lt
  have hs1 := hb1.size
  have HB1 := Lib.hid (hb1.trans (hbA.mono hs1))
  have hD0 := heap_alloc2_old w1 (.cells #[.slice none 0 0] 26) (.cells #[.int .i64 (-1)] 3)
  have hC0 := heap_alloc2_new w1 (.cells #[.slice none 0 0] 26) (.cells #[.int .i64 (-1)] 3)
  have hszA := heap_size_alloc2 w1 (.cells #[.slice none 0 0] 26) (.cells #[.int .i64 (-1)] 3)
  have hsv : n = 0 → sv = .slice none 0 0 := fun h => by
    rcases hSq with ⟨_, h'⟩ | ⟨_, h', _⟩
    · omega
    · exact h'
  have HE := Lib.hid (each_any B S n hi Z v sv HOK.out 58 #[.pointer (some ⟨w1.heap.size + 1, 0, none⟩), .pointer (some ⟨w1.heap.size, 0, none⟩)] (Cb (w1.heap.size + 1) w1.heap.size (w1.heap.size + 2) n Z w B S) 15625 (fun done W W' h ho => h.oth ho) callFunc_best
    (fun done sd M W hT hst' hj => best1_any (w1.heap.size + 1) w1.heap.size (w1.heap.size + 2) B S n hi Z v sv w HOK.out done sd M W hst' hsv hh hj)
    n 0 (fun _ => -1) (mpK Z n) [] _ (by omega) HST.out (mpK_ok Z n) (fun _ _ _ => rfl)
    ⟨⟨_, hC0, hD0, ⟨_, _, _, rfl⟩, by
      by_cases h0 : n = 0
      · exact Or.inl ⟨h0, rfl⟩
      · exact Or.inr ⟨by omega, fun h => absurd rfl h⟩⟩, ⟨by omega, by omega, by omega, by omega, by omega⟩, HB1.out, ⟨hB, hS, by omega, hs1⟩, ⟨by omega, by omega, by omega, fun _ => by omega⟩, by omega⟩
    (by rw [en_len]; have := ct_small Z n 0 (mpK Z n) hn6; simp only [List.length_nil]; omega))
  rw [List.nil_append] at HE
  clear hb1 hst hbA hD0 hC0 hSq
  go_wp2_with fail
  refine HE.out.mono ?_
  rintro e w2 ⟨rfl, hst2, ⟨vb, hc1, hc2, ⟨ba, bl, bc, rfl⟩, hc4⟩, _, hb2, _, _, hlo⟩
  have d0 : w2.cell? ⟨w1.heap.size, 0, none⟩ = some (.slice ba bl bc) := by simp [World.cell?, hc2]
  have HB2 := Lib.hid hb2
  have H4 := Lib.hid hc4
  clear hst2 hc1 hc2 hc4 hb2
  go_wp2
  go_ret2
  refine ⟨_, rfl, ⟨_, _, _, rfl⟩, ?_, HB2.out⟩
  rcases H4.out with ⟨h0, hvn⟩ | ⟨h0, hvo⟩
  · exact Or.inl ⟨hvn, h0⟩
  · have hne : en Z n 0 (fun _ => -1) (mpK Z n) ≠ [] := fun h => by
      have h1 := en_len Z n 0 (fun _ => -1) (mpK Z n)
      have h2 := ct_pos Z n 0 (mpK Z n)
      rw [h] at h1
      simp at h1
      omega
    have := hvo hne
    rw [HBS.out] at this
    exact owI_mono this (by omega) (Nat.le_refl _)

/- the model -/
theorem ch1_stay {Z : Nat → Int} {k : Nat} {M : Nat → Int} {o best : Int} {r : (Nat → Int) → Int} {s : Nat} (h : 0 ≤ ch1 Z k M o best r s) : ∀ t, s ≤ t → ch1 Z k M o best r t = ch1 Z k M o best r s := by
  intro t
  induction t with
  | zero => intro e; obtain rfl : s = 0 := by omega
            rfl
  | succ t ih =>
    intro e
    by_cases e2 : s = t + 1
    · subst e2; rfl
    · have := ih (by omega)
      rw [ch1_keep (by omega), this]
/-- the model's steps: sides and map behind the first i labels -/
noncomputable def csV (Z : Nat → Int) (n i : Nat) (M : Nat → Int) : Int := ch1 Z i M (ow Z true i) (bst Z true (n - i) i M) (bst Z true (n - i - 1) (i + 1)) 4
noncomputable def gk (Z : Nat → Int) (n : Nat) : Nat → (Nat → Int) × (Nat → Int)
  | 0 => (fun _ => -1, mpK Z n)
  | i + 1 => if csV Z n i (gk Z n i).2 < 0 then gk Z n i else (upS (gk Z n i).1 i (csV Z n i (gk Z n i).2), stp Z (gk Z n i).2 i (csV Z n i (gk Z n i).2))
noncomputable def cs (Z : Nat → Int) (n i : Nat) : Int := csV Z n i (gk Z n i).2
theorem gk_gd (Z : Nat → Int) (n : Nat) : ∀ i, i ≤ n → gd Z true (n - i) i (gk Z n i).1 (gk Z n i).2 = bsG n Z := by
  intro i
  induction i with
  | zero => intro _; rfl
  | succ i ih =>
    intro hi
    have h := ih (by omega)
    obtain ⟨f, hf⟩ : ∃ f, n - i = f + 1 := ⟨n - i - 1, by omega⟩
    have e1 : n - (i + 1) = f := by omega
    rw [hf] at h
    rw [e1, ← h]
    have ec : csV Z n i (gk Z n i).2 = ch1 Z i (gk Z n i).2 (ow Z true i) (bst Z true (f + 1) i (gk Z n i).2) (bst Z true f (i + 1)) 4 := by
      unfold csV; rw [hf]; rfl
    show _ = if _ then _ else _
    rw [← ec]
    simp only [gk]
    by_cases hc : csV Z n i (gk Z n i).2 < 0
    · rw [if_pos hc, if_pos hc]
    · rw [if_neg hc, if_neg hc]
theorem gk_out (Z : Nat → Int) (n : Nat) : ∀ i j, i ≤ j → (gk Z n i).1 j = -1 := by
  intro i
  induction i with
  | zero => intro j _; rfl
  | succ i ih =>
    intro j hj
    simp only [gk]
    split
    · exact ih j (by omega)
    · show upS _ i _ j = -1
      unfold upS
      rw [if_neg (by omega)]
      exact ih j (by omega)
theorem gk_at (Z : Nat → Int) (n : Nat) : ∀ i j, j < i → (gk Z n i).1 j = cs Z n j := by
  intro i
  induction i with
  | zero => intro j hj; omega
  | succ i ih =>
    intro j hj
    simp only [gk]
    by_cases e : j = i
    · subst e
      by_cases hc : csV Z n j (gk Z n j).2 < 0
      · rw [if_pos hc, gk_out Z n j j (Nat.le_refl _)]
        have := ch1_ge (Z := Z) (k := j) (M := (gk Z n j).2) (o := ow Z true j) (best := bst Z true (n - j) j (gk Z n j).2) (r := bst Z true (n - j - 1) (j + 1)) 4
        unfold cs
        unfold csV at hc ⊢
        omega
      · rw [if_neg hc]
        exact if_pos rfl
    · split
      · exact ih j (by omega)
      · show upS _ i _ j = _
        unfold upS
        rw [if_neg e]
        exact ih j (by omega)
theorem bsG_at (Z : Nat → Int) (n j : Nat) (h : j < n) : bsG n Z j = cs Z n j := by
  have h1 := gk_gd Z n n (Nat.le_refl _)
  rw [Nat.sub_self] at h1
  have h2 : (gk Z n n).1 = bsG n Z := h1
  rw [← h2]
  exact gk_at Z n n j h

end Go.Proofs.Ythelaffjpmcdbaa
