/- LabelsDrop: slices.Concat of labels; the program and the model. -/
import Derived.Test.YthelaffjpmcdbaaLf
import Derived.Lib.AppendZeros
import Derived.RegionTactic
import Derived.Deep.AppendLies
namespace Go.Proofs.Ythelaffjpmcdbaa
open Go.RowKit
set_option linter.unusedVariables false

theorem ld_news {W : World} {b off n : Nat} {F : Nat → Int} (hc : ∀ j, j < n → W.cell? ⟨b, off + j, none⟩ = some (.int .i64 (F j))) : ∀ j u, (nsV (fnL F n))[j]? = some u → W.cell? ((⟨b, off, none⟩ : Addr).add j) = some u := fun j u hu => by
  have hj : j < n := by
    have := (List.getElem?_eq_some_iff.1 hu).1
    simpa [nsV, fnL_len] using this
  have e2 : (nsV (fnL F n))[j]? = some (.int .i64 (F j)) := by rw [nsV_at _ _ (by rw [fnL_len]; exact hj), fnL_z F n j hj]
  rw [e2] at hu
  obtain rfl := Option.some.inj hu
  rw [add_none]
  exact hc j hj
theorem ld_one (n : Nat) (F : Nat → Int) : ∀ u ∈ nsV (fnL F n), u.oneCell' = true := fun u hu => by
  unfold nsV at hu
  obtain ⟨x, _, rfl⟩ := List.mem_map.1 hu
  rfl

set_option maxHeartbeats 1000000 in
theorem growL_zero (w : World) : Calls Try.prog 78 #[.slice none 0 0, .int .i64 0] w fun e w' => e = .returned (.slice none 0 0) ∧ w = w' := by
  go_enter Try.func78, Try.ntmps78
  go_wp2
  go_ret
  exact ⟨rfl, rfl⟩
set_option maxHeartbeats 2000000 in
theorem growL_any (n : Nat) (w : World) (h0 : 0 < n) (hn : n ≤ 1000) :
    Calls Try.prog 78 #[.slice none 0 0, .int .i64 n] w fun e w' => ∃ cap, e = .returned (.slice (some ⟨w.heap.size, 0, none⟩) 0 cap) ∧ w'.ownsRow w.heap.size 28 4 (.slice (some ⟨w.heap.size, 0, none⟩) 0 cap) 0 [] ∧ Below w.heap.size w w' := by
  obtain ⟨i0, hi0, hz0, hz1, hz2⟩ := info_parts Try.infoLb
  have hr := fun ty => Lib.run_append_nil_zeros w 23 3 ty 28 i0 (.agg #[.int .i64 0, .int .i64 0, .int .i64 0, .int .i64 0]) .i64 .i64 Try.underlying23 Try.underlying3 hi0 hz0 n h0 (by rw [hz1]; omega) (by omega) (by rw [hz2]; omega)
  have hCn : n ≤ grownCap w n 0 28 := grownCap_ge _ _ _ _
  have hCm : grownCap w n 0 28 ≤ maxLen := grownCap_le_maxLen _ _ _ _ (by unfold maxLen; omega)
  generalize grownCap w n 0 28 = C at hr hCn hCm
  have hC63 : C ≤ 9223372036854775807 := by unfold maxLen at hCm; omega
  have h1 : ¬ ((n : Int) < 0) := by omega
  have h2 : (0 : Int) < n := by omega
  have hsz : ∀ m, (Builtin.zeroCells #[.int .i64 0, .int .i64 0, .int .i64 0, .int .i64 0] m).size = m * 4 := fun m => by rw [size_zeroCells]; rfl
  go_enter Try.func78, Try.ntmps78
  go_wp2_with (at_builtin; refine Lib.wpList_append_run _ rfl _ _ _ _ rfl _ _ rfl rfl _ _ (hr _) ?_)
  all_goals go_ret
  all_goals exact ⟨C, rfl, ⟨rfl, .inr ⟨w.heap.size, C, _, rfl, Nat.le_refl _, heap_alloc_new w.drew _, Nat.zero_le _, hCm, by rw [Array.size_append, hsz, hsz]; omega, by simp⟩⟩, ((Below.refl _ _).drew).alloc (Nat.le_refl _) _⟩

def cnM (l1 l2 : Nat) : Nat → Nat
  | 0 => 0
  | 1 => l1
  | _ => l1 + l2
def cnV (l1 l2 : Nat) (Z1 Z2 : Nat → Int) : Nat → List Value
  | 0 => []
  | 1 => nsV (fnL Z1 (l1 * 4))
  | _ => nsV (fnL Z1 (l1 * 4)) ++ nsV (fnL Z2 (l2 * 4))
def CcPost (l1 l2 : Nat) (Z1 Z2 : Nat → Int) (w : World) (e : Ending) (w' : World) : Prop :=
  ∃ v, e = .returned v ∧ w'.ownsRow w.heap.size 28 4 v (l1 + l2) (cnV l1 l2 Z1 Z2 2) ∧ Below w.heap.size w w'

set_option maxRecDepth 20000 in
set_option maxHeartbeats 8000000 in
theorem concatL_any (b g1 o1 g2 o2 c1 c2 l1 l2 : Nat) (Z1 Z2 : Nat → Int) (w : World) (h1 : w.cell? ⟨b, 0, none⟩ = some (.slice (some ⟨g1, o1, none⟩) l1 c1)) (h2 : w.cell? ⟨b, 1, none⟩ = some (.slice (some ⟨g2, o2, none⟩) l2 c2))
    (z1 : ∀ i, i < l1 * 4 → w.cell? ⟨g1, o1 + i, none⟩ = some (.int .i64 (Z1 i))) (z2 : ∀ i, i < l2 * 4 → w.cell? ⟨g2, o2 + i, none⟩ = some (.int .i64 (Z2 i)))
    (hb : b < w.heap.size) (hg1 : g1 < w.heap.size) (hg2 : g2 < w.heap.size) (m1 : l1 ≤ 49) (m2 : l2 ≤ 49) :
    Calls Try.prog 64 #[.slice (some ⟨b, 0, none⟩) 2 2] w (CcPost l1 l2 Z1 Z2 w) := by
  obtain ⟨i0, hi0, hz0, hz1, hz2⟩ := info_parts Try.infoLb
  have HR := Lib.hid (show Calls Try.prog 78 #[.slice none 0 0, .int .i64 ((l1 : Int) + l2)] w fun e w' => ∃ v, e = .returned v ∧ w'.ownsRow w.heap.size 28 4 v 0 [] ∧ Below w.heap.size w w' from by
    by_cases h0 : l1 + l2 = 0
    · rw [show (l1 : Int) + l2 = 0 by omega]
      refine (growL_zero w).mono ?_
      rintro e w' ⟨rfl, rfl⟩
      exact ⟨_, rfl, ⟨rfl, Or.inl ⟨rfl, rfl⟩⟩, Below.refl _ _⟩
    · rw [show (l1 : Int) + l2 = ((l1 + l2 : Nat) : Int) by omega]
      refine (growL_any (l1 + l2) w (by omega) (by omega)).mono ?_
      rintro e w' ⟨cap, rfl, h, hb⟩
      exact ⟨_, rfl, h, hb⟩)
  have Z1' := Lib.hid z1
  have Z2' := Lib.hid z2
  clear z1 z2
  go_enter Try.func64, Try.ntmps64
  go_wp2
  go_loop [3, 11] (fun s i => ∃ k : Nat, k ≤ 2 ∧ i = .int .i64 k ∧ s = .int .i64 (cnM l1 l2 k : Nat)) (fun _ i => 2 - (intOf i).toNat)
  case atStart => exact ⟨0, by omega, rfl, rfl⟩
  case round =>
    obtain ⟨k, hk, rfl, rfl⟩ := hrel
    rcases (by omega : k = 0 ∨ k = 1 ∨ k = 2) with rfl | rfl | rfl
    · simp only [cnM]
      have hl0 : ¬ ((l1 : Int) < 0) := by omega
      go_wp2
      go_round
      case rel => exact ⟨1, by omega, by go_num, by simp⟩
      case measure => simp [intOf]
    · simp only [cnM]
      have hl0 : ¬ ((l1 : Int) + l2 < 0) := by omega
      go_wp2
      go_round
      case rel => exact ⟨2, by omega, by go_num, by simp⟩
      case measure => simp [intOf]
    · simp only [cnM]
      go_wp2_with fail
      refine HR.out.mono ?_
      rintro e w1 ⟨v0, rfl, hown, hb1⟩
      have HO := Lib.hid hown
      have HB := Lib.hid hb1
      have hs1 := hb1.size
      clear hown hb1
      go_wp2
      go_loopw [6, 27] (fun o i wr => ∃ (k : Nat) (v : Value), k ≤ 2 ∧ i = .int .i64 k ∧ v = o ∧ wr.ownsRow w.heap.size 28 4 v (cnM l1 l2 k) (cnV l1 l2 Z1 Z2 k) ∧ Below w.heap.size w wr) (fun _ i _ => 2 - (intOf i).toNat)
      case atStart => exact ⟨0, _, by omega, rfl, rfl, HO.out, HB.out⟩
      case round =>
        obtain ⟨k, v, hk, rfl, rfl, hown, hbel⟩ := hrel
        have p1 := (hbel.cell (p := ⟨b, 0, none⟩) hb).trans h1
        have p2 := (hbel.cell (p := ⟨b, 1, none⟩) hb).trans h2
        have hsz := hbel.size
        have HBL := Lib.hid hbel
        have HN1 := Lib.hid (ld_news (W := wr) (b := g1) (off := o1) (n := l1 * 4) (F := Z1) (fun j hj => (hbel.cell (p := ⟨g1, o1 + j, none⟩) hg1).trans (Z1'.out j hj)))
        have HN2 := Lib.hid (ld_news (W := wr) (b := g2) (off := o2) (n := l2 * 4) (F := Z2) (fun j hj => (hbel.cell (p := ⟨g2, o2 + j, none⟩) hg2).trans (Z2'.out j hj)))
        clear h1 h2 hbel
        rcases (by omega : k = 0 ∨ k = 1 ∨ k = 2) with rfl | rfl | rfl
        · simp only [cnM, cnV] at hown
          have HW := Lib.hid hown
          clear hown p2
          go_wp2_with (at_builtin; refine wpList_append_own _ rfl _ _ 23 rfl w.heap.size 28 i0 _ 4 32 Try.underlying23 hi0 hz0 hz1 hz2 rfl (by decide) v 0 [] rfl HW.out ⟨g1, o1, none⟩ l1 c1 (nsV (fnL Z1 (l1 * 4))) rfl (labs_len _ _) HN1.out (ld_one _ _) (by unfold maxLen; omega) (by omega) hsz ?_; intro v' w2 hown2 hg2 _)
          have HX := Lib.hid (show w2.ownsRow w.heap.size 28 4 v' (cnM l1 l2 1) (cnV l1 l2 Z1 Z2 1) from by simpa [cnM, cnV] using hown2)
          have HB2 := Lib.hid (HBL.out.trans ((Below.refl w.heap.size wr).grown hg2 hsz (fun j hj => (HW.out.lt j hj).1)))
          clear hown2 hg2
          go_wp2
          go_roundw
          case rel => exact ⟨1, v', by omega, by go_num, rfl, HX.out, HB2.out⟩
          case measure => simp [intOf]
        · simp only [cnM, cnV] at hown
          have HW := Lib.hid hown
          clear hown p1
          go_wp2_with (at_builtin; refine wpList_append_own _ rfl _ _ 23 rfl w.heap.size 28 i0 _ 4 32 Try.underlying23 hi0 hz0 hz1 hz2 rfl (by decide) v l1 (nsV (fnL Z1 (l1 * 4))) rfl HW.out ⟨g2, o2, none⟩ l2 c2 (nsV (fnL Z2 (l2 * 4))) rfl (labs_len _ _) HN2.out (ld_one _ _) (by unfold maxLen; omega) (by omega) hsz ?_; intro v' w2 hown2 hg2 _)
          have HX := Lib.hid (show w2.ownsRow w.heap.size 28 4 v' (cnM l1 l2 2) (cnV l1 l2 Z1 Z2 2) from hown2)
          have HB2 := Lib.hid (HBL.out.trans ((Below.refl w.heap.size wr).grown hg2 hsz (fun j hj => (HW.out.lt j hj).1)))
          clear hown2 hg2
          go_wp2
          go_roundw
          case rel => exact ⟨2, v', by omega, by go_num, rfl, HX.out, HB2.out⟩
          case measure => simp [intOf]
        · have HW := Lib.hid (show wr.ownsRow w.heap.size 28 4 v (l1 + l2) (cnV l1 l2 Z1 Z2 2) from hown)
          clear hown
          go_wp2
          go_ret
          exact ⟨v, rfl, HW.out, HBL.out⟩

/-- the labels without one -/
def dzF (Z : Nat → Int) (k : Nat) (j : Nat) : Int := if j < k * 4 then Z j else Z (j + 4)
theorem dz_cat (Z : Nat → Int) (n k : Nat) (hk : k < n) : nsV (fnL Z (k * 4)) ++ nsV (fnL (fun j => Z ((k + 1) * 4 + j)) ((n - (k + 1)) * 4)) = nsV (fnL (dzF Z k) ((n - 1) * 4)) := by
  apply List.ext_getElem?
  intro j
  by_cases h1 : j < k * 4
  · rw [List.getElem?_append_left (by rw [labs_len]; exact h1), nsV_at _ _ (by rw [fnL_len]; exact h1), nsV_at _ _ (by rw [fnL_len]; omega), fnL_z _ _ _ h1, fnL_z _ _ _ (by omega)]
    unfold dzF
    rw [if_pos h1]
  · rw [List.getElem?_append_right (by rw [labs_len]; omega), labs_len]
    by_cases h2 : j < (n - 1) * 4
    · rw [nsV_at _ _ (by rw [fnL_len]; omega), nsV_at _ _ (by rw [fnL_len]; omega), fnL_z _ _ _ (by omega), fnL_z _ _ _ (by omega)]
      unfold dzF
      rw [if_neg h1, show (k + 1) * 4 + (j - k * 4) = j + 4 by omega]
    · rw [List.getElem?_eq_none (by rw [labs_len]; omega), List.getElem?_eq_none (by rw [labs_len]; omega)]
theorem dz_range {n : Nat} {Z : Nat → Int} (h : LsOk n Z) (k : Nat) : ∀ j, j < (n - 1) * 4 → -9223372036854775808 ≤ dzF Z k j ∧ dzF Z k j ≤ 9223372036854775807 := fun j hj => by
  unfold dzF
  split
  · have := ls_range h j (by omega); omega
  · have := ls_range h (j + 4) (by omega); omega
/-- whether a label can be left out -/
def DpLs (n : Nat) (Z : Nat → Int) (k : Int) : Prop := LsOk n Z ∧ 0 ≤ k ∧ k < n
noncomputable def dlB (n : Nat) (Z : Nat → Int) (k : Int) : Bool := @decide (DpLs n Z k) (Classical.propDecidable _)
theorem dlB_yes {n : Nat} {Z : Nat → Int} {k : Int} (h : DpLs n Z k) : dlB n Z k = true := by simp [dlB, h]
theorem dlB_no {n : Nat} {Z : Nat → Int} {k : Int} (h : ¬ DpLs n Z k) : dlB n Z k = false := by simp [dlB, h]
noncomputable def dlN (n : Nat) (Z : Nat → Int) (k : Int) : Nat := if dlB n Z k = true then n - 1 else 0

end Go.Proofs.Ythelaffjpmcdbaa
