/- Whether the sight between two eyes is free, in the program. -/
import Derived.Test.YtgcebhmenffbjabPrI
namespace Go.Proofs.Ytgcebhmenffbjab
open Go.RowKit
set_option linter.unusedVariables false

theorem three_boxes (w : World) (o1 o2 o3 : Obj) : let W := ((w.alloc o1).alloc o2).alloc o3
    W.heap[w.heap.size]? = some o1 ∧ W.heap[w.heap.size + 1]? = some o2 ∧ W.heap[w.heap.size + 2]? = some o3 := by
  intro W
  have s1 : (w.alloc o1).heap.size = w.heap.size + 1 := by simp
  have s2 : ((w.alloc o1).alloc o2).heap.size = w.heap.size + 2 := by simp
  refine ⟨?_, ?_, ?_⟩
  · exact (Below.heap_alloc _ o3 _ (by omega)).trans ((Below.heap_alloc _ o2 _ (by omega)).trans (heap_alloc_new w o1))
  · refine (Below.heap_alloc _ o3 _ (by omega)).trans ?_
    have := heap_alloc_new (w.alloc o1) o2
    rwa [s1] at this
  · have := heap_alloc_new ((w.alloc o1).alloc o2) o3
    rwa [s2] at this

def FreeS (z : Nat → Int) (a : Nat) (ha : Int) (b : Nat) (hb : Int) : Prop := (a ≤ b → Free z a ha b hb) ∧ (b < a → Free z b hb a ha)
noncomputable def fsB (z : Nat → Int) (a : Nat) (ha : Int) (b : Nat) (hb : Int) : Bool := @decide (FreeS z a ha b hb) (Classical.propDecidable _)
theorem fsB_yes {z : Nat → Int} {a b : Nat} {ha hb : Int} (h : FreeS z a ha b hb) : fsB z a ha b hb = true := by simp [fsB, h]
theorem fsB_no {z : Nat → Int} {a b : Nat} {ha hb : Int} (h : ¬ FreeS z a ha b hb) : fsB z a ha b hb = false := by simp [fsB, h]
theorem fsB_se (z : Nat → Int) (i k : Nat) (e : Int) : fsB z i (z i + e) k (z k) = seB z i k e := rfl

set_option maxHeartbeats 4000000 in
set_option maxRecDepth 20000 in
theorem isFree_up (v : Value) (lo hi n : Nat) (Z : Nat → Int) (a b : Nat) (ha hb : Int) (w : World) (hv : RdI lo hi w v n Z) (hok : PrOk n Z) (hh : hi ≤ w.heap.size) (hab : a ≤ b) (hbn : b < n)
    (hha : 0 ≤ ha ∧ ha ≤ 150) (hhb : 0 ≤ hb ∧ hb ≤ 150) :
    Calls Try.prog 70 #[v, .agg #[.int .i64 a, .int .i64 ha], .agg #[.int .i64 b, .int .i64 hb]] w (BlPost (fsB Z a ha b hb) w) := by
  have hn20 := hok.1.2
  obtain ⟨va, vc, rfl⟩ := hv.shape
  have HSY := Lib.hid (fun (h : Free Z a ha b hb) => fsB_yes (z := Z) (a := a) (b := b) (ha := ha) (hb := hb) ⟨fun _ => h, fun h => by omega⟩)
  have HSN := Lib.hid (fun (h : ¬ Free Z a ha b hb) => fsB_no (z := Z) (a := a) (b := b) (ha := ha) (hb := hb) (fun g => h (g.1 hab)))
  have hcf := callFunc_sight
  have hb0 := ((Below.refl w.heap.size w).alloc (Nat.le_refl _) (.cells #[.int .i64 a, .int .i64 ha] 70)).alloc (by simp) (.cells #[.int .i64 b, .int .i64 hb] 70)
  have HB0 := Lib.hid hb0
  have hv := hv.same (SameIn.below hb0 hh)
  have HS0 := Lib.hid (show ((w.alloc (.cells #[.int .i64 a, .int .i64 ha] 70)).alloc (.cells #[.int .i64 b, .int .i64 hb] 70)).heap.size = w.heap.size + 2 by simp)
  obtain ⟨d0, d1, _, _⟩ := cells2e ((Below.heap_alloc (w.alloc (.cells #[.int .i64 a, .int .i64 ha] 70)) (.cells #[.int .i64 b, .int .i64 hb] 70) w.heap.size (by simp)).trans (heap_alloc_new w (.cells #[.int .i64 a, .int .i64 ha] 70)))
  have hq2 := heap_alloc_new (w.alloc (.cells #[.int .i64 a, .int .i64 ha] 70)) (.cells #[.int .i64 b, .int .i64 hb] 70)
  rw [World.size_alloc] at hq2
  obtain ⟨d2, d3, _, _⟩ := cells2e hq2
  have hle : ¬ (b : Int) < a := by omega
  obtain ⟨W0, hW0⟩ : ∃ W0, W0 = (w.alloc (.cells #[.int .i64 a, .int .i64 ha] 70)).alloc (.cells #[.int .i64 b, .int .i64 hb] 70) := ⟨_, rfl⟩
  have D0 := Lib.hid d0
  have D2 := Lib.hid d2
  have HRV := Lib.hid hv
  rw [← hW0] at D0 D2 HRV HB0 HS0
  have HW0 := Lib.hid hW0
  clear hb0 hq2 hv hW0
  go_enter Try.func70, Try.ntmps70
  go_wp2_with fail
  refine (sight_any _ _ _ a b ha hb _).mono ?_
  rintro e w1 ⟨rfl, rfl⟩
  rw [← HW0.out]
  clear d0 d1 d2 d3 HW0
  have hsz := HB0.out.size
  have hs0 := HS0.out
  have hb1 := (((Below.refl W0.heap.size W0).alloc (Nat.le_refl _) (.cells #[.slice va n vc] 58)).alloc (by simp) (.cells #[.int .i64 a, .int .i64 ha] 70)).alloc (by simp; omega) (.cells #[.int .i64 b, .int .i64 hb] 70)
  obtain ⟨q1, q2, q3⟩ := three_boxes W0 (.cells #[.slice va n vc] 58) (.cells #[.int .i64 a, .int .i64 ha] 70) (.cells #[.int .i64 b, .int .i64 hb] 70)
  rw [hs0] at q1 q2 q3
  have kP := cell_of_one q1
  obtain ⟨kA0, kA1, _, _⟩ := cells2e q2
  obtain ⟨kB0, kB1, _, _⟩ := cells2e q3
  have k0 := (hb1.cell (p := ⟨w.heap.size, 0, none⟩) (by show w.heap.size < _; omega)).trans D0.out
  have k1 := (hb1.cell (p := ⟨w.heap.size + 1, 0, none⟩) (by show w.heap.size + 1 < _; omega)).trans D2.out
  have hrv1 := HRV.out.same (SameIn.below hb1 (by omega))
  have HB1 := Lib.hid (HB0.out.trans (hb1.mono (by omega)))
  generalize hW1 : ((W0.alloc (.cells #[.slice va n vc] 58)).alloc (.cells #[.int .i64 a, .int .i64 ha] 70)).alloc (.cells #[.int .i64 b, .int .i64 hb] 70) = W1 at *
  clear hW1 hb1 q1 q2 q3
  have HC := Lib.hid (fun (j m : Nat) (h1 : a ≤ j) (h2 : j ≤ b) => clos_sight (.slice va n vc) lo _ n Z (w.heap.size + 2 + 1) (w.heap.size + 2 + 2) (w.heap.size + 2) a b j ha hb (W1.drewN m) (hrv1.same (fun _ _ _ => rfl)) hok (by omega) h1 h2 (by omega) hha hhb kP kA0 kA1 kB0 kB1)
  clear hrv1 HRV kP kA0 kA1 kB0 kB1
  go_wp2
  go_loopw [8] (fun j wr => ∃ jj m : Nat, a < jj ∧ jj ≤ max (a + 1) b ∧ j = .int .i64 jj ∧ wr = W1.drewN m ∧ ∀ x, a < x → x < jj → Und Z a ha b hb x) (fun j _ => b - (intOf j).toNat)
  case atStart => exact ⟨a + 1, 0, by omega, by omega, by go_num, rfl, fun x h1 h2 => by omega⟩
  case round =>
    obtain ⟨j, m, hj1, hj2, rfl, rfl, hd⟩ := hrel
    have HD := Lib.hid hd
    clear hd
    by_cases hlt : j < b
    · have hlt' : (j : Int) < b := by omega
      by_cases hu : Und Z a ha b hb j
      · have HU := Lib.hid hu
        have HUB := Lib.hid (unB_yes hu)
        clear hu
        go_wp2_with fail
        refine (HC.out j m (by omega) (by omega)).mono ?_
        rintro e w2 ⟨rfl, m2, rfl⟩
        rw [HUB.out]
        go_wp2
        go_roundw
        case rel => exact ⟨j + 1, m + m2, by omega, by omega, by go_num, rfl, fun x h1 h2 => by
          by_cases ex : x = j
          · subst ex; exact HU.out
          · exact HD.out x h1 (by omega)⟩
        case measure => simp [intOf]; omega
      · have HUB := Lib.hid (unB_no hu)
        have HF := Lib.hid (HSN.out (fun g => hu (g j hj1 hlt)))
        clear hu
        go_wp2_with fail
        refine (HC.out j m (by omega) (by omega)).mono ?_
        rintro e w2 ⟨rfl, m2, rfl⟩
        rw [HUB.out]
        go_wp2
        go_ret
        exact bl_post HF.out (below_drewN HB1.out _)
    · have HF := Lib.hid (HSY.out (fun x h1 h2 => HD.out x h1 (by omega)))
      have hlt' : ¬ (j : Int) < b := by omega
      go_wp2
      go_ret
      exact bl_post HF.out (below_drewN HB1.out _)

set_option maxHeartbeats 4000000 in
set_option maxRecDepth 20000 in
theorem isFree_dn (v : Value) (lo hi n : Nat) (Z : Nat → Int) (a b : Nat) (ha hb : Int) (w : World) (hv : RdI lo hi w v n Z) (hok : PrOk n Z) (hh : hi ≤ w.heap.size) (hab : b < a) (hbn : a < n)
    (hha : 0 ≤ ha ∧ ha ≤ 150) (hhb : 0 ≤ hb ∧ hb ≤ 150) :
    Calls Try.prog 70 #[v, .agg #[.int .i64 a, .int .i64 ha], .agg #[.int .i64 b, .int .i64 hb]] w (BlPost (fsB Z a ha b hb) w) := by
  have hn20 := hok.1.2
  obtain ⟨va, vc, rfl⟩ := hv.shape
  have HSY := Lib.hid (fun (h : Free Z b hb a ha) => fsB_yes (z := Z) (a := a) (b := b) (ha := ha) (hb := hb) ⟨fun h => by omega, fun _ => h⟩)
  have HSN := Lib.hid (fun (h : ¬ Free Z b hb a ha) => fsB_no (z := Z) (a := a) (b := b) (ha := ha) (hb := hb) (fun g => h (g.2 hab)))
  have hcf := callFunc_sight
  have hb0 := ((Below.refl w.heap.size w).alloc (Nat.le_refl _) (.cells #[.int .i64 a, .int .i64 ha] 70)).alloc (by simp) (.cells #[.int .i64 b, .int .i64 hb] 70)
  have HB0 := Lib.hid hb0
  have hv0 := hv
  have HS0 := Lib.hid (show ((w.alloc (.cells #[.int .i64 a, .int .i64 ha] 70)).alloc (.cells #[.int .i64 b, .int .i64 hb] 70)).heap.size = w.heap.size + 2 by simp)
  obtain ⟨d0, d1, g0, g1⟩ := cells2e ((Below.heap_alloc (w.alloc (.cells #[.int .i64 a, .int .i64 ha] 70)) (.cells #[.int .i64 b, .int .i64 hb] 70) w.heap.size (by simp)).trans (heap_alloc_new w (.cells #[.int .i64 a, .int .i64 ha] 70)))
  have hq2 := heap_alloc_new (w.alloc (.cells #[.int .i64 a, .int .i64 ha] 70)) (.cells #[.int .i64 b, .int .i64 hb] 70)
  rw [World.size_alloc] at hq2
  obtain ⟨d2, d3, g2, g3⟩ := cells2e hq2
  have hle : (b : Int) < a := by omega
  have hbx := ((Below.refl w.heap.size w).alloc (Nat.le_refl _) (.cells #[.int .i64 b, .int .i64 hb] 70)).alloc (by simp) (.cells #[.int .i64 a, .int .i64 ha] 70)
  obtain ⟨x0, _, _, _⟩ := cells2e ((Below.heap_alloc (w.alloc (.cells #[.int .i64 b, .int .i64 hb] 70)) (.cells #[.int .i64 a, .int .i64 ha] 70) w.heap.size (by simp)).trans (heap_alloc_new w (.cells #[.int .i64 b, .int .i64 hb] 70)))
  have hqx := heap_alloc_new (w.alloc (.cells #[.int .i64 b, .int .i64 hb] 70)) (.cells #[.int .i64 a, .int .i64 ha] 70)
  rw [World.size_alloc] at hqx
  obtain ⟨x2, _, _, _⟩ := cells2e hqx
  have HSX := Lib.hid (show ((w.alloc (.cells #[.int .i64 b, .int .i64 hb] 70)).alloc (.cells #[.int .i64 a, .int .i64 ha] 70)).heap.size = w.heap.size + 2 by simp)
  have HBX := Lib.hid hbx
  have HRV := Lib.hid (hv0.same (SameIn.below hbx hh))
  obtain ⟨W0, hW0⟩ : ∃ W0, W0 = (w.alloc (.cells #[.int .i64 b, .int .i64 hb] 70)).alloc (.cells #[.int .i64 a, .int .i64 ha] 70) := ⟨_, rfl⟩
  have D0 := Lib.hid x0
  have D2 := Lib.hid x2
  rw [← hW0] at D0 D2 HRV HBX HSX
  have HB0 := HBX
  have HS0 := HSX
  have HW0 := Lib.hid hW0
  clear hb0 hq2 hW0 hv0 hbx x0 x2 hqx HBX HSX
  go_enter Try.func70, Try.ntmps70
  go_wp2_with fail
  refine (sight_any _ _ _ b a hb ha _).mono ?_
  rintro e w1 ⟨rfl, rfl⟩
  rw [← HW0.out]
  clear d0 d1 d2 d3 g0 g1 g2 g3 HW0
  have hsz := HB0.out.size
  have hs0 := HS0.out
  have hb1 := (((Below.refl W0.heap.size W0).alloc (Nat.le_refl _) (.cells #[.slice va n vc] 58)).alloc (by simp) (.cells #[.int .i64 b, .int .i64 hb] 70)).alloc (by simp; omega) (.cells #[.int .i64 a, .int .i64 ha] 70)
  obtain ⟨q1, q2, q3⟩ := three_boxes W0 (.cells #[.slice va n vc] 58) (.cells #[.int .i64 b, .int .i64 hb] 70) (.cells #[.int .i64 a, .int .i64 ha] 70)
  rw [hs0] at q1 q2 q3
  have kP := cell_of_one q1
  obtain ⟨kA0, kA1, _, _⟩ := cells2e q2
  obtain ⟨kB0, kB1, _, _⟩ := cells2e q3
  have k0 := (hb1.cell (p := ⟨w.heap.size, 0, none⟩) (by show w.heap.size < _; omega)).trans D0.out
  have k1 := (hb1.cell (p := ⟨w.heap.size + 1, 0, none⟩) (by show w.heap.size + 1 < _; omega)).trans D2.out
  have hrv1 := HRV.out.same (SameIn.below hb1 (by omega))
  have HB1 := Lib.hid (HB0.out.trans (hb1.mono (by omega)))
  generalize hW1 : ((W0.alloc (.cells #[.slice va n vc] 58)).alloc (.cells #[.int .i64 b, .int .i64 hb] 70)).alloc (.cells #[.int .i64 a, .int .i64 ha] 70) = W1 at *
  clear hW1 hb1 q1 q2 q3
  have HC := Lib.hid (fun (j m : Nat) (h1 : b ≤ j) (h2 : j ≤ a) => clos_sight (.slice va n vc) lo _ n Z (w.heap.size + 2 + 1) (w.heap.size + 2 + 2) (w.heap.size + 2) b a j hb ha (W1.drewN m) (hrv1.same (fun _ _ _ => rfl)) hok (by omega) h1 h2 (by omega) hhb hha kP kA0 kA1 kB0 kB1)
  clear hrv1 HRV kP kA0 kA1 kB0 kB1
  go_wp2
  go_loopw [8] (fun j wr => ∃ jj m : Nat, b < jj ∧ jj ≤ max (b + 1) a ∧ j = .int .i64 jj ∧ wr = W1.drewN m ∧ ∀ x, b < x → x < jj → Und Z b hb a ha x) (fun j _ => a - (intOf j).toNat)
  case atStart => exact ⟨b + 1, 0, by omega, by omega, by go_num, rfl, fun x h1 h2 => by omega⟩
  case round =>
    obtain ⟨j, m, hj1, hj2, rfl, rfl, hd⟩ := hrel
    have HD := Lib.hid hd
    clear hd
    by_cases hlt : j < a
    · have hlt' : (j : Int) < a := by omega
      by_cases hu : Und Z b hb a ha j
      · have HU := Lib.hid hu
        have HUB := Lib.hid (unB_yes hu)
        clear hu
        go_wp2_with fail
        refine (HC.out j m (by omega) (by omega)).mono ?_
        rintro e w2 ⟨rfl, m2, rfl⟩
        rw [HUB.out]
        go_wp2
        go_roundw
        case rel => exact ⟨j + 1, m + m2, by omega, by omega, by go_num, rfl, fun x h1 h2 => by
          by_cases ex : x = j
          · subst ex; exact HU.out
          · exact HD.out x h1 (by omega)⟩
        case measure => simp [intOf]; omega
      · have HUB := Lib.hid (unB_no hu)
        have HF := Lib.hid (HSN.out (fun g => hu (g j hj1 hlt)))
        clear hu
        go_wp2_with fail
        refine (HC.out j m (by omega) (by omega)).mono ?_
        rintro e w2 ⟨rfl, m2, rfl⟩
        rw [HUB.out]
        go_wp2
        go_ret
        exact bl_post HF.out (below_drewN HB1.out _)
    · have HF := Lib.hid (HSY.out (fun x h1 h2 => HD.out x h1 (by omega)))
      have hlt' : ¬ (j : Int) < a := by omega
      go_wp2
      go_ret
      exact bl_post HF.out (below_drewN HB1.out _)

end Go.Proofs.Ytgcebhmenffbjab
