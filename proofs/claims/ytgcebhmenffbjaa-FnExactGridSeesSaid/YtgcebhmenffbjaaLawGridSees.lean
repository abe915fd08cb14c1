/- The exact law of GridSees: its walk, out of the two functions' contracts. -/
import Derived.Test.YtgcebhmenffbjaaPrN
namespace Go.Proofs.Ytgcebhmenffbjaa
open Go.RowKit
set_option linter.unusedVariables false

set_option maxHeartbeats 4000000 in
theorem law_FnExactGridSees (v0 : Value) (g0 : G) (w : World) (m : Int) (hv0 : RdM 0 w.heap.size w v0 g0)
    (hspec : ∀ (u0 : Value) (W : World) (lo hi : Nat), RdM lo hi W u0 g0 → hi ≤ W.heap.size → Calls Try.prog 45 #[u0] W (IntPost m W))
    (himpl : ∀ (u0 : Value) (W : World) (lo hi : Nat), RdM lo hi W u0 g0 → hi ≤ W.heap.size → Calls Try.prog 46 #[u0] W (IntPost m W)) :
    Calls Try.prog 14 #[v0] w (LawPost w) := by
  have HSP := Lib.hid hspec
  have HIM := Lib.hid himpl
  have hx0 : (m != m) = false := by simp
  have A0 := Lib.hid hv0
  have BL := Lib.hid (Below.refl w.heap.size w)
  clear hspec himpl hv0
  go_enter Try.func14, Try.ntmps14
  go_wp2_with fail
  refine (szIntSS_any v0 0 w.heap.size g0 _ 1048576 A0.out (by omega) (by omega)).mono ?_
  rintro e w' ⟨rfl | ⟨l0, l00, l01, rfl, n0, hl0⟩, rfl⟩
  · go_wp2
    go_ret
    exact ⟨rfl, Below.refl _ _⟩
  ·
    have HL0 := Lib.hid hl0
    clear hl0
    go_wp2_with fail
    refine (toIntSS_any v0 0 w.heap.size g0 _ A0.out n0 HL0.out (by omega)).mono ?_
    rintro e w1 ⟨rfl, ow1, bw1⟩
    have sw1 : w.heap.size ≤ w1.heap.size := bw1.size
    have L_1 := Lib.hid (A0.out.same (SameIn.below bw1 (by omega)))
    clear A0
    have O_2 := Lib.hid ow1
    have BL_3 := Lib.hid (BL.out.trans (bw1.mono (by omega)))
    clear BL
    clear ow1 bw1
    go_wp2_with fail
    refine (HSP.out _ _ 0 w1.heap.size (O_2.out.rd.mono (Nat.zero_le _) (by omega)) (Nat.le_refl _)).mono ?_
    rintro e w2 ⟨rfl, bw2⟩
    have sw2 : w1.heap.size ≤ w2.heap.size := bw2.size
    have L_4 := Lib.hid (L_1.out.same (SameIn.below bw2 (by omega)))
    clear L_1
    have L_5 := Lib.hid (O_2.out.same (SameIn.below bw2 (by omega)))
    clear O_2
    have BL_6 := Lib.hid (BL_3.out.trans (bw2.mono (by omega)))
    clear BL_3
    clear bw2
    go_wp2_with fail
    refine (toIntSS_any v0 0 w.heap.size g0 _ L_4.out n0 HL0.out (by omega)).mono ?_
    rintro e w3 ⟨rfl, ow3, bw3⟩
    have sw3 : w2.heap.size ≤ w3.heap.size := bw3.size
    have L_7 := Lib.hid (L_4.out.same (SameIn.below bw3 (by omega)))
    clear L_4
    have O_8 := Lib.hid ow3
    have BL_9 := Lib.hid (BL_6.out.trans (bw3.mono (by omega)))
    clear BL_6
    clear ow3 bw3
    go_wp2_with fail
    refine (HIM.out _ _ 0 w3.heap.size (O_8.out.rd.mono (Nat.zero_le _) (by omega)) (Nat.le_refl _)).mono ?_
    rintro e w4 ⟨rfl, bw4⟩
    have sw4 : w3.heap.size ≤ w4.heap.size := bw4.size
    have L_10 := Lib.hid (L_7.out.same (SameIn.below bw4 (by omega)))
    clear L_7
    have L_11 := Lib.hid (O_8.out.same (SameIn.below bw4 (by omega)))
    clear O_8
    have BL_12 := Lib.hid (BL_9.out.trans (bw4.mono (by omega)))
    clear BL_9
    clear bw4
    go_wp2_with fail
    refine (toIntSS_any v0 0 w.heap.size g0 _ L_10.out n0 HL0.out (by omega)).mono ?_
    rintro e w5 ⟨rfl, ow5, bw5⟩
    have sw5 : w4.heap.size ≤ w5.heap.size := bw5.size
    have L_13 := Lib.hid (L_10.out.same (SameIn.below bw5 (by omega)))
    clear L_10
    have L_14 := Lib.hid (L_11.out.same (SameIn.below bw5 (by omega)))
    clear L_11
    have O_15 := Lib.hid ow5
    have BL_16 := Lib.hid (BL_12.out.trans (bw5.mono (by omega)))
    clear BL_12
    clear ow5 bw5
    go_wp2_with fail
    refine (eqIntSS_any _ _ _ _ _ _ g0 _ L_14.out.rd O_15.out.rd).mono ?_
    intro e w6 hq
    obtain ⟨rfl, bw6⟩ := hq.below
    have sw6 : w5.heap.size ≤ w6.heap.size := bw6.size
    have L_17 := Lib.hid (L_13.out.same (SameIn.below bw6 (by omega)))
    clear L_13
    have L_18 := Lib.hid (L_14.out.same (SameIn.below bw6 (by omega)))
    clear L_14
    have L_19 := Lib.hid (O_15.out.same (SameIn.below bw6 (by omega)))
    clear O_15
    have BL_20 := Lib.hid (BL_16.out.trans (bw6.mono (by omega)))
    clear BL_16
    clear hq bw6
    go_wp2
    go_ret
    exact ⟨rfl, BL_20.out⟩

end Go.Proofs.Ytgcebhmenffbjaa
