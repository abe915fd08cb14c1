/- slices.Concat of two lists of numbers. -/
import Derived.Test.YtdiehjigfmjjiaaImplJ
import Derived.Lib.AppendZeros
namespace Go.Proofs.Ytdiehjigfmjjiaa
open Go.RowKit
set_option linter.unusedVariables false

set_option maxHeartbeats 1000000 in
theorem slicesGrow_any (n : Nat) (w : World) (h0 : 0 < n) (hn : n ≤ 1000) :
    Calls Try.prog 50 #[.slice none 0 0, .int .i64 n] w fun e w' => ∃ cap, e = .returned (.slice (some ⟨w.heap.size, 0, none⟩) 0 cap) ∧ w'.ownsRow w.heap.size 3 1 (.slice (some ⟨w.heap.size, 0, none⟩) 0 cap) 0 [] ∧ Below w.heap.size w w' := by
  obtain ⟨i0, hi0, hz0, hz1, hz2⟩ := info_parts Try.infoI
  have hr := fun ty => Lib.run_append_nil_zeros w 29 3 ty 3 i0 (.int .i64 0) .i64 .i64 Try.underlying29 Try.underlying3 hi0 hz0 n h0 (by rw [hz1]; omega) (by omega) (by rw [hz2]; omega)
  have hCn : n ≤ grownCap w n 0 3 := grownCap_ge _ _ _ _
  have hCm : grownCap w n 0 3 ≤ maxLen := grownCap_le_maxLen _ _ _ _ (by unfold maxLen; omega)
  generalize grownCap w n 0 3 = C at hr hCn hCm
  have hC63 : C ≤ 9223372036854775807 := by unfold maxLen at hCm; omega
  have h1 : ¬ ((n : Int) < 0) := by omega
  have h2 : (0 : Int) < n := by omega
  go_enter Try.func50, Try.ntmps50
  go_wp2_with (at_builtin; refine Lib.wpList_append_run _ rfl _ _ _ _ rfl _ _ rfl rfl _ _ (hr _) ?_)
  all_goals go_ret
  all_goals exact ⟨C, rfl, ⟨rfl, .inr ⟨w.heap.size, C, _, rfl, Nat.le_refl _, heap_alloc_new w.drew _, Nat.zero_le _, hCm, by simp [size_zeroCells]; omega, by simp⟩⟩, ((Below.refl _ _).drew).alloc (Nat.le_refl _) _⟩

/-- the numbers of both lists -/
def catZ (l1 : Nat) (Z1 Z2 : Nat → Int) (i : Nat) : Int := if i < l1 then Z1 i else Z2 (i - l1)
def ints (l : Nat) (Z : Nat → Int) : List Value := (List.range l).map fun c => Value.int .i64 (Z c)
def catN (l1 l2 : Nat) : Nat → Nat
  | 0 => 0
  | 1 => l1
  | _ => l1 + l2
def catL (l1 l2 : Nat) (Z1 Z2 : Nat → Int) : Nat → List Value
  | 0 => []
  | 1 => ints l1 Z1
  | _ => ints l1 Z1 ++ ints l2 Z2

theorem catL_at {l1 l2 : Nat} {Z1 Z2 : Nat → Int} : ∀ i, i < l1 + l2 → (catL l1 l2 Z1 Z2 2)[i]? = some (.int .i64 (catZ l1 Z1 Z2 i)) := by
  intro i hi
  simp only [catL, catZ, ints]
  by_cases h1 : i < l1
  · rw [List.getElem?_append_left (by simpa using h1), if_pos h1]; simp [h1]
  · rw [List.getElem?_append_right (by simpa using Nat.le_of_not_lt h1), if_neg h1]
    have h3 : i - l1 < l2 := by omega
    simp [h3]

set_option maxHeartbeats 2000000 in
theorem slicesConcat_any (b g1 g2 c1 c2 l1 l2 : Nat) (Z1 Z2 : Nat → Int) (w : World) (h1 : w.cell? ⟨b, 0, none⟩ = some (.slice (some ⟨g1, 0, none⟩) l1 c1)) (h2 : w.cell? ⟨b, 1, none⟩ = some (.slice (some ⟨g2, 0, none⟩) l2 c2))
    (z1 : ∀ i, i < l1 → w.cell? ⟨g1, i, none⟩ = some (.int .i64 (Z1 i))) (z2 : ∀ i, i < l2 → w.cell? ⟨g2, i, none⟩ = some (.int .i64 (Z2 i)))
    (hb : b < w.heap.size) (hg1 : g1 < w.heap.size) (hg2 : g2 < w.heap.size) (n1 : 0 < l1) (n2 : 0 < l2) (m1 : l1 ≤ 49) (m2 : l2 ≤ 49) :
    Calls Try.prog 45 #[.slice (some ⟨b, 0, none⟩) 2 2] w fun e w' => ∃ gg cap, e = .returned (.slice (some ⟨gg, 0, none⟩) (l1 + l2) cap) ∧ w'.ownsRow w.heap.size 3 1 (.slice (some ⟨gg, 0, none⟩) (l1 + l2) cap) (l1 + l2) (catL l1 l2 Z1 Z2 2) ∧ Below w.heap.size w w' := by
  obtain ⟨i0, hi0, hz0, hz1, hz2⟩ := info_parts Try.infoI
  have HR := Lib.hid (slicesGrow_any (l1 + l2) w (by omega) (by omega))
  have Z1' := Lib.hid z1
  have Z2' := Lib.hid z2
  clear z1 z2
  go_enter Try.func45, Try.ntmps45
  go_wp2
  go_loop [3, 11] (fun s i => ∃ k : Nat, k ≤ 2 ∧ i = .int .i64 k ∧ s = .int .i64 (catN l1 l2 k : Nat)) (fun _ i => 2 - (intOf i).toNat)
  case atStart => exact ⟨0, by omega, rfl, rfl⟩
  case round =>
    obtain ⟨k, hk, rfl, rfl⟩ := hrel
    rcases (by omega : k = 0 ∨ k = 1 ∨ k = 2) with rfl | rfl | rfl
    · simp only [catN]
      have hl0 : ¬ ((l1 : Int) < 0) := by omega
      go_wp2
      go_round
      case rel => exact ⟨1, by omega, by go_num, by simp⟩
      case measure => simp [intOf]
    · simp only [catN]
      have hl0 : ¬ ((l1 : Int) + l2 < 0) := by omega
      go_wp2
      go_round
      case rel => exact ⟨2, by omega, by go_num, by simp⟩
      case measure => simp [intOf]
    · simp only [catN]
      go_wp2_with fail
      refine HR.out.mono ?_
      rintro e w1 ⟨cap, rfl, hown, hb1⟩
      have HO := Lib.hid hown
      have HB := Lib.hid hb1
      have hs1 := hb1.size
      clear hown hb1
      go_wp2
      go_loopw [6, 27] (fun o i wr => ∃ (k : Nat) (v : Value), k ≤ 2 ∧ i = .int .i64 k ∧ v = o ∧ wr.ownsRow w.heap.size 3 1 v (catN l1 l2 k) (catL l1 l2 Z1 Z2 k) ∧ Below w.heap.size w wr) (fun _ i _ => 2 - (intOf i).toNat)
      case atStart => exact ⟨0, _, by omega, rfl, rfl, HO.out, HB.out⟩
      case round =>
        obtain ⟨k, v, hk, rfl, rfl, hown, hbel⟩ := hrel
        have p1 := (hbel.cell (p := ⟨b, 0, none⟩) hb).trans h1
        have p2 := (hbel.cell (p := ⟨b, 1, none⟩) hb).trans h2
        have hsz := hbel.size
        have HBL := Lib.hid hbel
        have q1 : ∀ j, j < l1 → wr.cell? ⟨g1, 0 + j, none⟩ = some (.int .i64 (Z1 j)) := fun j hj => by rw [Nat.zero_add]; exact (hbel.cell (p := ⟨g1, j, none⟩) hg1).trans (Z1'.out j hj)
        have q2 : ∀ j, j < l2 → wr.cell? ⟨g2, 0 + j, none⟩ = some (.int .i64 (Z2 j)) := fun j hj => by rw [Nat.zero_add]; exact (hbel.cell (p := ⟨g2, j, none⟩) hg2).trans (Z2'.out j hj)
        have HN1 := Lib.hid (news_of q1)
        have HN2 := Lib.hid (news_of q2)
        clear q1 q2 h1 h2 hbel
        rcases (by omega : k = 0 ∨ k = 1 ∨ k = 2) with rfl | rfl | rfl
        · simp only [catN, catL] at hown
          have HW := Lib.hid hown
          clear hown p2
          go_wp2_with (at_builtin; refine wpList_append_own _ rfl _ _ 29 rfl w.heap.size 3 i0 (.int .i64 0) 1 8 Try.underlying29 hi0 hz0 hz1 hz2 rfl (by decide) v 0 [] rfl HW.out ⟨g1, 0, none⟩ l1 c1 (ints l1 Z1) rfl (by simp [ints]) HN1.out (by simp [ints, Value.oneCell']) (by unfold maxLen; omega) (by omega) hsz ?_; intro v' w2 hown2 hg2 _)
          have HX := Lib.hid (show w2.ownsRow w.heap.size 3 1 v' (catN l1 l2 1) (catL l1 l2 Z1 Z2 1) from by simpa [catN, catL] using hown2)
          have HB2 := Lib.hid (HBL.out.trans ((Below.refl w.heap.size wr).grown hg2 hsz (fun j hj => (HW.out.lt j hj).1)))
          clear hown2 hg2
          go_wp2
          go_roundw
          case rel => exact ⟨1, v', by omega, by go_num, rfl, HX.out, HB2.out⟩
          case measure => simp [intOf]
        · simp only [catN, catL] at hown
          have HW := Lib.hid hown
          clear hown p1
          go_wp2_with (at_builtin; refine wpList_append_own _ rfl _ _ 29 rfl w.heap.size 3 i0 (.int .i64 0) 1 8 Try.underlying29 hi0 hz0 hz1 hz2 rfl (by decide) v l1 (ints l1 Z1) rfl HW.out ⟨g2, 0, none⟩ l2 c2 (ints l2 Z2) rfl (by simp [ints]) HN2.out (by simp [ints, Value.oneCell']) (by unfold maxLen; omega) (by omega) hsz ?_; intro v' w2 hown2 hg2 _)
          have HX := Lib.hid (show w2.ownsRow w.heap.size 3 1 v' (catN l1 l2 2) (catL l1 l2 Z1 Z2 2) from hown2)
          have HB2 := Lib.hid (HBL.out.trans ((Below.refl w.heap.size wr).grown hg2 hsz (fun j hj => (HW.out.lt j hj).1)))
          clear hown2 hg2
          go_wp2
          go_roundw
          case rel => exact ⟨2, v', by omega, by go_num, rfl, HX.out, HB2.out⟩
          case measure => simp [intOf]
        · have hw : wr.ownsRow w.heap.size 3 1 v (l1 + l2) (catL l1 l2 Z1 Z2 2) := hown
          obtain ⟨bq, cq, rfl⟩ : ∃ bq cq, v = .slice (some ⟨bq, 0, none⟩) (l1 + l2) cq := by
            obtain ⟨bq, cq, _, _, h3⟩ := own_slice hw
            rcases h3 with h3 | h3
            · exact ⟨bq, cq, h3.1⟩
            · omega
          have HW := Lib.hid hw
          clear hown hw
          go_wp2
          go_ret
          exact ⟨bq, cq, rfl, HW.out, HBL.out⟩

end Go.Proofs.Ytdiehjigfmjjiaa
