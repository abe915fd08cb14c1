/- Lists of numbers that are copied, changed and searched. -/
import Derived.Test.YthelaffjpmcdbaaPrM
import Derived.Test.YthelaffjpmcdbaaPrQ
namespace Go.Proofs.Ythelaffjpmcdbaa
open Go.RowKit
set_option linter.unusedVariables false

theorem OwI.congr {lo hi : Nat} {w : World} {v : Value} {n : Nat} {Z Z' : Nat → Int} (h : OwI lo hi w v n Z) (e : ∀ i, i < n → Z i = Z' i) : OwI lo hi w v n Z' := by
  rcases h with ⟨rfl, rfl⟩ | ⟨b, N, cap, F, rfl, h1, h2, h3, h4, h5, h6, h7, h8⟩
  · exact Or.inl ⟨rfl, rfl⟩
  · exact Or.inr ⟨b, N, cap, F, rfl, h1, h2, h3, h4, h5, h6, fun i hi => by rw [← e i hi]; exact h7 i hi, fun i hi => by rw [← e i hi]; exact h8 i hi⟩

theorem nums_all {B n : Nat} {w : World} {v : Value} {Z : Nat → Int} (h : w.ownsRow B 3 1 v (0 + n) ([] ++ nsV (fnL Z n))) : Nums B w v (fnL Z n) := by
  unfold Nums
  rw [fnL_len]
  rw [Nat.zero_add, List.nil_append] at h
  exact h

theorem owI_block {lo hi : Nat} {w : World} {v : Value} {n : Nat} {Z : Nat → Int} (h : OwI lo hi w v n Z) (h0 : 0 < n) : ∃ b cap, v = .slice (some ⟨b, 0, none⟩) n cap ∧ lo ≤ b ∧ b < hi ∧ n ≤ cap := by
  rcases h with ⟨rfl, h1⟩ | ⟨b, N, cap, F, rfl, h1, h2, h3, h4, h5, h6, h7, h8⟩
  · omega
  · exact ⟨b, cap, rfl, h1, h2, h5⟩
theorem owI_cellAt {lo hi : Nat} {w : World} {b n cap : Nat} {Z : Nat → Int} (h : OwI lo hi w (.slice (some ⟨b, 0, none⟩) n cap) n Z) {j : Nat} (hj : j < n) : w.cell? ⟨b, j, none⟩ = some (.int .i64 (Z j)) ∧ w.frozen? ⟨b, j, none⟩ = false := by
  rcases h with ⟨e, h1⟩ | ⟨b', N, cap', F, e, h1, h2, h3, h4, h5, h6, h7, h8⟩
  · omega
  · simp only [Value.slice.injEq, Option.some.injEq, Addr.mk.injEq, true_and] at e
    obtain ⟨⟨rfl, _⟩, rfl⟩ := e
    exact ⟨by rw [h3.cell (by omega), h7 j hj], h3.frozen j⟩
theorem owI_put {lo hi : Nat} {w : World} {b n cap : Nat} {Z : Nat → Int} (h : OwI lo hi w (.slice (some ⟨b, 0, none⟩) n cap) n Z) {j : Nat} (hj : j < n) (x : Int) (hx : -9223372036854775808 ≤ x ∧ x ≤ 9223372036854775807) :
    OwI lo hi (w.setCell ⟨b, j, none⟩ (.int .i64 x)) (.slice (some ⟨b, 0, none⟩) n cap) n (setZ Z j x) := by
  rcases h with ⟨e, h1⟩ | ⟨b', N, cap', F, e, h1, h2, h3, h4, h5, h6, h7, h8⟩
  · omega
  · simp only [Value.slice.injEq, Option.some.injEq, Addr.mk.injEq, true_and] at e
    obtain ⟨⟨rfl, _⟩, rfl⟩ := e
    refine Or.inr ⟨b, N, cap, _, rfl, h1, h2, h3.set j (.int .i64 x), h4, h5, h6, fun i hi => ?_, fun i hi => ?_⟩
    · by_cases e : i = j
      · subst e; simp [setZ_at]
      · simp only [e, if_false]; rw [setZ_far _ _ _ _ e]; exact h7 i hi
    · by_cases e : i = j
      · subst e; rw [setZ_at]; exact hx
      · rw [setZ_far _ _ _ _ e]; exact h8 i hi

theorem cp_own {B n : Nat} {w : World} {v : Value} {Z : Nat → Int} (h : w.ownsRow B 3 1 v (0 + n) ([] ++ nsV (fnL Z n))) (hz : ∀ i, i < n → -9223372036854775808 ≤ Z i ∧ Z i ≤ 9223372036854775807) : OwI B w.heap.size w v n Z := by
  have h1 := Nums.owI (nums_all h) (fnL_ok hz)
  rw [fnL_len] at h1
  exact h1.congr (fun i hi => fnL_z Z n i hi)
theorem cp_news {W : World} {b off n : Nat} {Z : Nat → Int} (hc : ∀ j, j < n → W.cell? ⟨b, off + j, none⟩ = some (.int .i64 (Z j))) : ∀ j u, (nsV (fnL Z n))[j]? = some u → W.cell? ((⟨b, off, none⟩ : Addr).add j) = some u := fun j u hu => by
  have hj : j < n := by
    have := (List.getElem?_eq_some_iff.1 hu).1
    simpa [nsV, fnL_len] using this
  have e2 : (nsV (fnL Z n))[j]? = some (.int .i64 (Z j)) := by rw [nsV_at _ _ (by rw [fnL_len]; exact hj), fnL_z Z n j hj]
  rw [e2] at hu
  obtain rfl := Option.some.inj hu
  rw [add_none]
  exact hc j hj
theorem cp_one (Z : Nat → Int) (n : Nat) : ∀ u ∈ nsV (fnL Z n), u.oneCell' = true := fun u hu => by
  unfold nsV at hu
  obtain ⟨y, _, rfl⟩ := List.mem_map.1 hu
  rfl
theorem cp_len (Z : Nat → Int) (n : Nat) : (nsV (fnL Z n)).length = n * 1 := by simp [nsV, fnL_len]

set_option maxHeartbeats 2000000 in
set_option maxRecDepth 20000 in
theorem hasN_any (v : Value) (lo hi : Nat) (l : List Int) (k : Int) (w : World) (h : RdI lo hi w v l.length (nsZ l)) (hl : l.length ≤ 100) :
    Calls Try.prog 21 #[v, .int .i64 k] w (BlPost (decide (k ∈ l)) w) := by
  obtain ⟨ao, cap, b, off, rfl, a2, a3, a4, a5, a6⟩ := h
  have H5 := Lib.hid a5
  have H6 := Lib.hid a6
  have HY := Lib.hid (show ∀ i, i < l.length → nsZ l i = k → decide (k ∈ l) = true from fun i hi e => by
    rw [decide_eq_true_iff, ← e, nsZ, List.getD_eq_getElem?_getD, List.getElem?_eq_getElem hi]
    exact List.getElem_mem _)
  have HN := Lib.hid (show (∀ i, i < l.length → nsZ l i ≠ k) → decide (k ∈ l) = false from fun h => by
    rw [decide_eq_false_iff_not]
    intro hk
    obtain ⟨i, hi, e⟩ := List.getElem_of_mem hk
    refine h i hi ?_
    rw [nsZ, List.getD_eq_getElem?_getD, List.getElem?_eq_getElem hi]
    exact e)
  clear a4 a5 a6
  go_enter Try.func21, Try.ntmps21
  go_wp2
  go_loop [5] (fun i => ∃ j : Nat, j ≤ l.length ∧ i = .int .i64 j ∧ ∀ x, x < j → nsZ l x ≠ k) (fun i => l.length - (intOf i).toNat)
  case atStart => exact ⟨0, Nat.zero_le _, rfl, fun x hx => by omega⟩
  case round =>
    obtain ⟨j, hj, rfl, hd⟩ := hrel
    have HD := Lib.hid hd
    clear hd
    by_cases hlt : j < l.length
    · obtain ⟨rfl, _, _⟩ := H5.out (by omega)
      have q1 := H6.out j hlt
      have hlt' : (j : Int) < l.length := by omega
      obtain ⟨y, ey⟩ : ∃ y, nsZ l j = y := ⟨_, rfl⟩
      rw [ey] at q1
      by_cases e : y = k
      · have HF := Lib.hid (HY.out j hlt (ey.trans e))
        have hb : (y == k) = true := by rw [beq_iff_eq]; exact e
        clear e ey
        go_wp2
        go_ret
        exact bl_post HF.out (Below.refl _ _)
      · have HE := Lib.hid (show nsZ l j ≠ k from fun g => e (ey.symm.trans g))
        have hb : (y == k) = false := by rw [beq_eq_false_iff_ne]; exact e
        clear e ey
        go_wp2
        go_round
        case rel => exact ⟨j + 1, by omega, by go_num, fun x hx => by
          by_cases ex : x = j
          · subst ex; exact HE.out
          · exact HD.out x (by omega)⟩
        case measure => simp [intOf]; omega
    · have HF := Lib.hid (HN.out (fun x hx => HD.out x (by omega)))
      have hlt' : ¬ (j : Int) < l.length := by omega
      go_wp2
      go_ret
      exact bl_post HF.out (Below.refl _ _)

end Go.Proofs.Ythelaffjpmcdbaa
