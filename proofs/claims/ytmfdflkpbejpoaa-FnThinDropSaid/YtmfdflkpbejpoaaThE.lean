/- A point of a thinned line dropped, in the model. -/
import Derived.Test.YtmfdflkpbejpoaaThU
import Derived.Test.YtmfdflkpbejpoaaThN
import Derived.Test.YtmfdflkpbejpoaaThW
namespace Go.Proofs.Ytmfdflkpbejpoaa
open Go.RowKit
set_option linter.unusedVariables false

theorem fz_news {W : World} {b off n : Nat} {F : Nat → Int} (hc : ∀ j, j < n → W.cell? ⟨b, off + j, none⟩ = some (.int .i64 (F j))) : ∀ j u, (nsV (fnL F n))[j]? = some u → W.cell? ((⟨b, off, none⟩ : Addr).add j) = some u := fun j u hu => by
  have hj : j < n := by
    have := (List.getElem?_eq_some_iff.1 hu).1
    simpa [nsV, fnL_len] using this
  have e2 : (nsV (fnL F n))[j]? = some (.int .i64 (F j)) := by rw [nsV_at _ _ (by rw [fnL_len]; exact hj), fnL_z F n j hj]
  rw [e2] at hu
  obtain rfl := Option.some.inj hu
  rw [add_none]
  exact hc j hj
theorem fz_one (F : Nat → Int) (n : Nat) : ∀ u ∈ nsV (fnL F n), u.oneCell' = true := fun u hu => by
  unfold nsV at hu
  obtain ⟨y, _, rfl⟩ := List.mem_map.1 hu
  rfl
theorem fz_len (F : Nat → Int) (n : Nat) : (nsV (fnL F n)).length = n * 1 := by simp [nsV, fnL_len]
theorem fz_cat (F G : Nat → Int) (a b : Nat) : nsV (fnL F a) ++ nsV (fnL G b) = nsV (fnL F a ++ fnL G b) := by simp [nsV]
theorem fz_drop (Y : Nat → Int) (m k : Nat) (hk : k + 1 ≤ m) : fnL Y k ++ fnL (fun i => Y (k + 1 + i)) (m - (k + 1)) = fnL (dpF Y k) (m - 1) := by
  apply List.ext_getElem?
  intro i
  by_cases h : i < k
  · rw [List.getElem?_append_left (by rw [fnL_len]; exact h), fnL_at _ _ i h, fnL_at _ _ i (by omega)]
    unfold dpF
    rw [if_pos h]
  · rw [List.getElem?_append_right (by rw [fnL_len]; omega), fnL_len]
    by_cases h2 : i < m - 1
    · rw [fnL_at _ _ i h2, fnL_at _ _ _ (by omega)]
      unfold dpF
      rw [if_neg h]
      congr 2; omega
    · rw [List.getElem?_eq_none (by rw [fnL_len]; omega), List.getElem?_eq_none (by rw [fnL_len]; omega)]

theorem fz_fin {B k r N : Nat} {w : World} {v : Value} {F G H : Nat → Int} (h : w.ownsRow B 3 1 v (0 + k + r) (([] ++ nsV (fnL F k)) ++ nsV (fnL G r))) (e : fnL F k ++ fnL G r = fnL H N) (hN : k + r = N) : Nums B w v (fnL H N) := by
  unfold Nums
  rw [fnL_len, ← e, ← fz_cat]
  have h2 : 0 + k + r = N := by omega
  rw [h2] at h
  simpa using h

set_option maxHeartbeats 4000000 in
set_option maxRecDepth 20000 in
theorem specThinDrop_yes (v u : Value) (lo hi lo2 hi2 n m : Nat) (Z Y : Nat → Int) (k : Nat) (w : World) (hv : RdI lo hi w v n Z) (hu : RdI lo2 hi2 w u m Y) (hh : hi ≤ w.heap.size) (hh2 : hi2 ≤ w.heap.size) (h : DrOk n Z m Y k) :
    Calls Try.prog 46 #[v, u, .int .i64 k] w (NbPost true (fnL (dpF Y k) (m - 1)) w) := by
  have hmn := h.1.len
  have hn20 := h.1.1.1.2
  have hk1 := h.2.1
  have hk2 := h.2.2
  have HV := Lib.hid (specThinValid_any v u lo hi lo2 hi2 n m Z Y w hv hu (by omega) (by omega))
  have HTB := Lib.hid (thB_yes h.1)
  obtain ⟨i0, hi0, hz0, hz1, hz2⟩ := info_parts Try.infoI
  obtain ⟨va, vc, rfl⟩ := hv.shape
  obtain ⟨b, off, cap, rfl, hcap, _, hbh, hc⟩ := hu.open (by omega)
  have hbw : b < w.heap.size := by omega
  have HC := Lib.hid (fun (W : World) (hb : Below w.heap.size w W) (x : Nat) (hx : x < m) => (hb.cell (p := ⟨b, off + x, none⟩) hbw).trans (hc x hx))
  have hb0 := (below_drewN (Below.refl w.heap.size w) 1).alloc (Nat.le_refl _) (.cells #[] 3)
  have HB0 := Lib.hid hb0
  have HL0 := Lib.hid (World.ownsRow_lit (base := w.heap.size) (e := 3) (size := 1) (w.drewN 1) #[] 0 (Nat.le_refl _) (Nat.zero_le _) (by simp))
  have HFZ := Lib.hid (fz_drop Y m k (by omega))
  have hkm : (k : Int) ≤ m := by omega
  have hkm1 : (k : Int) + 1 ≤ m := by omega
  have hkc : (k : Int) ≤ cap := by omega
  have hk0 : (0 : Int) ≤ k := by omega
  have hk01 : (0 : Int) ≤ (k : Int) + 1 := by omega
  have hmc : (m : Int) ≤ cap := by omega
  have hck : ¬ cap = k + 1 := by omega
  have hwk : IntKind.i64.wrap ((k : Int) + 1) = (k : Int) + 1 := IntWalk.i64_in _ (by omega)
  have hkn : ((k : Int) + 1).toNat = k + 1 := by omega
  have hw2 : IntKind.i64.wrap ((m : Int) - 2) = (m : Int) - 2 := IntWalk.i64_in _ (by omega)
  clear hv hu h hc hb0
  go_enter Try.func46, Try.ntmps46
  go_wp2_with fail
  refine HV.out.mono ?_
  rintro e w1 ⟨rfl, rfl⟩
  rw [HTB.out]
  go_wp2_with fail
  refine (l6In_yes _ _ _ _ hk1 hk2).mono ?_
  rintro e w1 ⟨rfl, rfl⟩
  go_wp2_with fail
  have s00 : w.heap.size ≤ w.drew.heap.size := Nat.le_refl _
  go_region_held3 (fun w' => w.heap.size ≤ w'.heap.size) (first | go_keep | exact s00 | exact s01 | exact s02 | (simp; omega))
    (first
      | (refine step_append_lies _ (by rfl) _ _ _ (by rfl) w.heap.size 3 i0 _ 1 8 Try.underlying23 hi0 hz0 hz1 hz2 rfl (by omega) (.slice (some ⟨g', 0, none⟩) (0 + k) cap') (0 + k) ([] ++ nsV (fnL Y k)) (by rfl) HOW1.out ⟨b, off + (k + 1), none⟩ (m - (k + 1)) _ (nsV (fnL (fun i => Y (k + 1 + i)) (m - (k + 1)))) (by rfl) (fz_len _ _) (fz_news (fun j hj => (by have := HC.out _ HBW1.out (k + 1 + j) (by omega); rw [show off + (k + 1) + j = off + (k + 1 + j) by omega]; exact this))) (fz_one _ _) (by omega) (by unfold maxLen; omega) (by omega) HBW1.out.size _ rfl ?_; intro g2 cap2 w4 hown2 hgrow2 hat2 hlt2; have HOW2 := Lib.hid hown2; have HBW2 := Lib.hid (HBW1.out.grown hgrow2 HBW1.out.size (fun k hk => (HOW1.out.lt k hk).1)); have s02 := HBW2.out.size; clear hown2 hgrow2 hat2 hlt2)
      | (refine step_append_lies _ (by rfl) _ _ _ (by rfl) w.heap.size 3 i0 _ 1 8 Try.underlying23 hi0 hz0 hz1 hz2 rfl (by omega) (.slice (some ⟨w.heap.size, 0, none⟩) 0 0) 0 [] (by rfl) HL0.out ⟨b, off, none⟩ k _ (nsV (fnL Y k)) (by rfl) (fz_len _ _) (fz_news (fun j hj => HC.out _ HB0.out j (by omega))) (fz_one _ _) (by omega) (by unfold maxLen; omega) (by omega) HB0.out.size _ rfl ?_; intro g' cap' w3 hown1 hgrow1 hat1 hlt1; have HOW1 := Lib.hid hown1; have HBW1 := Lib.hid (HB0.out.grown hgrow1 HB0.out.size (fun k hk => (HL0.out.lt k hk).1)); have s01 := HBW1.out.size; clear hown1 hgrow1 hat1 hlt1))
  all_goals go_wp2
  all_goals go_ret2
  all_goals exact NbPost.mk' rfl rfl (by have h9 := fz_fin HOW2.out HFZ.out (by omega); simp only [Nat.zero_add] at h9; exact h9) HBW2.out

set_option maxHeartbeats 4000000 in
set_option maxRecDepth 20000 in
theorem specThinDrop_any (v u : Value) (lo hi lo2 hi2 n m : Nat) (Z Y : Nat → Int) (k : Int) (w : World) (hv : RdI lo hi w v n Z) (hu : RdI lo2 hi2 w u m Y) (hh : hi ≤ w.heap.size) (hh2 : hi2 ≤ w.heap.size) (hn : n ≤ 1048576) (hm : m ≤ 1048576) :
    Calls Try.prog 46 #[v, u, .int .i64 k] w (NbPost (drB n Z m Y k) (dpV n Z m Y k) w) := by
  by_cases h : DrOk n Z m Y k
  · obtain ⟨k', rfl⟩ : ∃ k' : Nat, k = k' := ⟨k.toNat, by have := h.2.1; omega⟩
    rw [drB_yes h, dpV_yes h]
    exact specThinDrop_yes v u lo hi lo2 hi2 n m Z Y k' w hv hu hh hh2 h
  · have HV := Lib.hid (specThinValid_any v u lo hi lo2 hi2 n m Z Y w hv hu hn hm)
    have HL1 := Lib.hid (nums_lit w)
    have HB1 := Lib.hid ((Below.refl w.heap.size w).alloc (Nat.le_refl _) (.cells #[] 3))
    have hw2 : IntKind.i64.wrap ((m : Int) - 2) = (m : Int) - 2 := IntWalk.i64_in _ (by omega)
    rw [drB_no h, dpV_no h]
    obtain ⟨va, vc, rfl⟩ := hv.shape
    obtain ⟨ua, uc, rfl⟩ := hu.shape
    clear hv hu
    by_cases ht : ThOk n Z m Y
    · have HTB := Lib.hid (thB_yes ht)
      have hk : ¬ (1 ≤ k ∧ k ≤ (m : Int) - 2) := fun g => h ⟨ht, g⟩
      clear h ht
      go_enter Try.func46, Try.ntmps46
      go_wp2_with fail
      refine HV.out.mono ?_
      rintro e w1 ⟨rfl, rfl⟩
      rw [HTB.out]
      go_wp2_with fail
      refine (l6In_no _ _ _ _ (by omega)).mono ?_
      rintro e w1 ⟨rfl, rfl⟩
      go_wp2
      go_ret2
      exact NbPost.mk' rfl rfl HL1.out HB1.out
    · have HTB := Lib.hid (thB_no ht)
      clear h ht
      go_enter Try.func46, Try.ntmps46
      go_wp2_with fail
      refine HV.out.mono ?_
      rintro e w1 ⟨rfl, rfl⟩
      rw [HTB.out]
      go_wp2
      go_ret2
      exact NbPost.mk' rfl rfl HL1.out HB1.out

end Go.Proofs.Ytmfdflkpbejpoaa
