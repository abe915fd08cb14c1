/- Lists copied, changed at one place, asked for a number. -/
import Derived.Test.YtjepmnngphlgoaaPrC
namespace Go.Proofs.Ytjepmnngphlgoaa
open Go.RowKit
set_option linter.unusedVariables false

theorem owI_block {lo hi : Nat} {w : World} {v : Value} {n : Nat} {Z : Nat → Int} (h : OwI lo hi w v n Z) (h0 : 0 < n) : ∃ b cap, v = .slice (some ⟨b, 0, none⟩) n cap ∧ lo ≤ b ∧ b < hi ∧ n ≤ cap := by
  rcases h with ⟨rfl, h1⟩ | ⟨b, N, cap, F, rfl, h1, h2, h3, h4, h5, h6, h7, h8⟩
  · omega
  · exact ⟨b, cap, rfl, h1, h2, h5⟩
theorem owI_cellAt {lo hi : Nat} {w : World} {b n cap : Nat} {Z : Nat → Int} (h : OwI lo hi w (.slice (some ⟨b, 0, none⟩) n cap) n Z) {j : Nat} (hj : j < n) : w.cell? ⟨b, j, none⟩ = some (.int .i64 (Z j)) ∧ w.frozen? ⟨b, j, none⟩ = false := by
  rcases h with ⟨e, h1⟩ | ⟨b', N, cap', F, e, h1, h2, h3, h4, h5, h6, h7, h8⟩
  · omega
  · simp only [Value.slice.injEq, Option.some.injEq, Addr.mk.injEq, true_and] at e
    obtain ⟨⟨rfl, _⟩, rfl⟩ := e
    exact ⟨by rw [h3.cell (by omega), h7 j hj], h3.frozen j⟩
theorem owI_put {lo hi : Nat} {w : World} {b n cap : Nat} {Z : Nat → Int} (h : OwI lo hi w (.slice (some ⟨b, 0, none⟩) n cap) n Z) {j : Nat} (hj : j < n) (x : Int) (hx : -9223372036854775808 ≤ x ∧ x ≤ 9223372036854775807) :
    OwI lo hi (w.setCell ⟨b, j, none⟩ (.int .i64 x)) (.slice (some ⟨b, 0, none⟩) n cap) n (setZ Z j x) := by
  rcases h with ⟨e, h1⟩ | ⟨b', N, cap', F, e, h1, h2, h3, h4, h5, h6, h7, h8⟩
  · omega
  · simp only [Value.slice.injEq, Option.some.injEq, Addr.mk.injEq, true_and] at e
    obtain ⟨⟨rfl, _⟩, rfl⟩ := e
    refine Or.inr ⟨b, N, cap, _, rfl, h1, h2, h3.set j (.int .i64 x), h4, h5, h6, fun i hi => ?_, fun i hi => ?_⟩
    · by_cases e : i = j
      · subst e; simp [setZ_at]
      · simp only [e, if_false]; rw [setZ_far _ _ _ _ e]; exact h7 i hi
    · by_cases e : i = j
      · subst e; rw [setZ_at]; exact hx
      · rw [setZ_far _ _ _ _ e]; exact h8 i hi

theorem cp_own {B n : Nat} {w : World} {v : Value} {Z : Nat → Int} (h : w.ownsRow B 3 1 v (0 + n) ([] ++ nsV (fnL Z n))) (hz : ∀ i, i < n → -9223372036854775808 ≤ Z i ∧ Z i ≤ 9223372036854775807) : OwI B w.heap.size w v n Z := by
  have h1 := Nums.owI (nums_all h) (fnL_ok hz)
  rw [fnL_len] at h1
  exact h1.congr (fun i hi => fnL_z Z n i hi)
theorem cp_news {W : World} {b off n : Nat} {Z : Nat → Int} (hc : ∀ j, j < n → W.cell? ⟨b, off + j, none⟩ = some (.int .i64 (Z j))) : ∀ j u, (nsV (fnL Z n))[j]? = some u → W.cell? ((⟨b, off, none⟩ : Addr).add j) = some u := fun j u hu => by
  have hj : j < n := by
    have := (List.getElem?_eq_some_iff.1 hu).1
    simpa [nsV, fnL_len] using this
  have e2 : (nsV (fnL Z n))[j]? = some (.int .i64 (Z j)) := by rw [nsV_at _ _ (by rw [fnL_len]; exact hj), fnL_z Z n j hj]
  rw [e2] at hu
  obtain rfl := Option.some.inj hu
  rw [add_none]
  exact hc j hj
theorem cp_one (Z : Nat → Int) (n : Nat) : ∀ u ∈ nsV (fnL Z n), u.oneCell' = true := fun u hu => by
  unfold nsV at hu
  obtain ⟨y, _, rfl⟩ := List.mem_map.1 hu
  rfl
theorem cp_len (Z : Nat → Int) (n : Nat) : (nsV (fnL Z n)).length = n * 1 := by simp [nsV, fnL_len]

theorem has_sn {z : Nat → Int} {i k n : Nat} (hk : k < n) : decide ((k : Int) ∈ snL z i n) = seB z i k 0 := by
  by_cases h : Sees z i k 0
  · rw [seB_yes h, decide_eq_true_iff]
    exact (snL_mem z i n k).2 ⟨k, hk, rfl, h⟩
  · rw [seB_no h, decide_eq_false_iff_not]
    intro g
    obtain ⟨j, _, e, hs⟩ := (snL_mem z i n k).1 g
    have : j = k := by omega
    subst this
    exact h hs
theorem til_back (z : Nat → Int) (t : Int) (i : Nat) : tilZ (tilZ z t) (-t) i = z i := by
  unfold tilZ
  rw [Int.mul_neg]; omega
theorem tl_back {n : Nat} {z : Nat → Int} {t : Int} (h : TlOk n z t) : TlOk n (tilZ z t) (-t) :=
  ⟨h.2.2, by have := h.2.1; omega, h.1.1, fun i hi => by rw [til_back]; exact h.1.2 i hi⟩
theorem huL_tilt (n : Nat) (z : Nat → Int) (t : Int) : huL n (tilZ z t) n = huL n z n := huL_congr n (fun j _ => hul_tilt n z t j)
theorem prN_tilt (n : Nat) (z : Nat → Int) (t : Int) : prN (tilZ z t) n = prN z n := prN_congr n (fun a b _ _ => sees_tilt z t a b)

end Go.Proofs.Ytjepmnngphlgoaa
