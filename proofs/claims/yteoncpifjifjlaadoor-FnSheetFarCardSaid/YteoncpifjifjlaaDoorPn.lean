/- The program's search for a place by its full name. -/
import Derived.Test.YteoncpifjifjlaaDoorFm
namespace Go.Proofs.YteoncpifjifjlaaDoor
open Go.RowKit
set_option linter.unusedVariables false

set_option maxHeartbeats 2000000 in
theorem placeFrom_short (s : ByteArray) (w : World) (hs : s.size < 2) : Calls Tryd.prog 87 #[.string s] w (PfPost 0 0 false w) := by
  have h2 : (s.size : Int) - 2 < 0 := by omega
  have HB := Lib.hid (show Below w.heap.size w (w.alloc (.cells #[.int .i64 0, .int .i64 0] 81)) from (Below.refl _ _).alloc (Nat.le_refl _) _)
  have HM := Lib.hid (heap_alloc_new w (.cells #[.int .i64 0, .int .i64 0] 81))
  go_enter Tryd.func87, Tryd.ntmps87
  go_wp2
  exact bodyPost_ret (results_cell_row_tmp rfl _ _ w.heap.size _ #[.int .i64 0, .int .i64 0] _ _ rfl (by first | exact HM.out | exact setP _ _ _ _ _ _ HM.out) Tryd.underlying81 rfl Tryd.sizePl (.bool false) rfl) rfl ⟨rfl, by first | exact HB.out | exact belowP HB.out (Nat.le_refl _) _ _⟩

set_option maxHeartbeats 2000000 in
theorem placeFrom_head (s : ByteArray) (n : Nat) (w : World) (hs : s.size = n + 2) (hz : s.size ≤ 9223372036854775807) (hA : ∀ W : World, Calls Tryd.prog 85 #[.string (s.extract 0 n)] W (PfPost 0 0 false W)) : Calls Tryd.prog 87 #[.string s] w (PfPost 0 0 false w) := by
  have hsub : (s.size : Int) - 2 = n := by omega
  have hn : (n : Int) ≤ 9223372036854775805 := by omega
  have hle : (n : Int) ≤ s.size := by omega
  have hle' : n ≤ s.size := by omega
  have HA := Lib.hid hA
  have HB := Lib.hid (show Below w.heap.size w (w.alloc (.cells #[.int .i64 0, .int .i64 0] 81)) from (Below.refl _ _).alloc (Nat.le_refl _) _)
  have HM := Lib.hid (heap_alloc_new w (.cells #[.int .i64 0, .int .i64 0] 81))
  have HHS := Lib.hid hs
  clear hA hs hz
  go_enter Tryd.func87, Tryd.ntmps87
  go_wp2_with fail
  refine (HA.out _).mono ?_
  rintro e w1 ⟨rfl, hb1⟩
  have hb2 := HB.out.trans (hb1.mono (by simp))
  have HB1 := Lib.hid (hb2.alloc hb2.size (.cells #[.int .i64 0, .int .i64 0] 81))
  have M0 := (hb1.block w.heap.size (by simp)).trans HM.out
  have HM1 := Lib.hid ((Below.heap_alloc w1 (.cells #[.int .i64 0, .int .i64 0] 81) w.heap.size (lt_of_block M0)).trans M0)
  obtain ⟨k0, k1, k2, k3⟩ := cellsP HM1.out
  clear hb1 hb2 M0
  go_wp2
  exact bodyPost_ret (results_cell_row_tmp rfl _ _ w.heap.size _ #[.int .i64 0, .int .i64 0] _ _ rfl (by first | exact HM1.out | exact setP _ _ _ _ _ _ HM1.out) Tryd.underlying81 rfl Tryd.sizePl (.bool false) rfl) rfl ⟨rfl, by first | exact HB1.out | exact belowP HB1.out (Nat.le_refl _) _ _⟩

set_option maxHeartbeats 2000000 in
theorem placeFrom_tail (s : ByteArray) (n : Nat) (x0 y0 x y : Int) (b : Bool) (w : World) (hs : s.size = n + 2) (hz : s.size ≤ 9223372036854775807) (hA : ∀ W : World, Calls Tryd.prog 85 #[.string (s.extract 0 n)] W (PfPost x0 y0 true W))
    (hI : ∀ W : World, Calls Tryd.prog 99 #[.agg #[.int .i64 x0, .int .i64 y0], .string (s.extract n s.size)] W (PfPost x y b W)) : Calls Tryd.prog 87 #[.string s] w (PfPost x y b w) := by
  have hsub : (s.size : Int) - 2 = n := by omega
  have hn : (n : Int) ≤ 9223372036854775805 := by omega
  have hle : (n : Int) ≤ s.size := by omega
  have hle' : n ≤ s.size := by omega
  have HA := Lib.hid hA
  have HI := Lib.hid hI
  have HB := Lib.hid (show Below w.heap.size w (w.alloc (.cells #[.int .i64 0, .int .i64 0] 81)) from (Below.refl _ _).alloc (Nat.le_refl _) _)
  have HM := Lib.hid (heap_alloc_new w (.cells #[.int .i64 0, .int .i64 0] 81))
  have HHS := Lib.hid hs
  clear hA hs hz hI
  go_enter Tryd.func87, Tryd.ntmps87
  go_wp2_with fail
  refine (HA.out _).mono ?_
  rintro e w1 ⟨rfl, hb1⟩
  have hb2 := HB.out.trans (hb1.mono (by simp))
  have hb3 := hb2.alloc hb2.size (.cells #[.int .i64 x0, .int .i64 y0] 81)
  have M0 := (hb1.block w.heap.size (by simp)).trans HM.out
  have M1 := (Below.heap_alloc w1 (.cells #[.int .i64 x0, .int .i64 y0] 81) w.heap.size (lt_of_block M0)).trans M0
  have L1 := heap_alloc_new w1 (.cells #[.int .i64 x0, .int .i64 y0] 81)
  obtain ⟨W1, hW1⟩ : ∃ W1, w1.alloc (.cells #[.int .i64 x0, .int .i64 y0] 81) = W1 := ⟨_, rfl⟩
  rw [hW1] at hb3 M1 L1
  have HW1 := Lib.hid hW1
  have HB1 := Lib.hid hb3
  have HM1 := Lib.hid M1
  obtain ⟨l0, l1, _, _⟩ := cellsP L1
  obtain ⟨k0, k1, k2, k3⟩ := cellsP M1
  have hlt := lt_of_block M1
  clear hb1 hb2 M0 hb3 M1 L1 hW1
  go_wp2_with fail
  rw [HW1.out]
  go_region_with ((go_at_call 99; refine (HI.out _).mono ?_; rintro e w2 ⟨rfl, hb2⟩; have hb4 := (show Below W1.heap.size W1 w2 from hb2.undrew); have HM2 := Lib.hid ((hb4.block w.heap.size hlt).trans HM1.out); have HB2 := Lib.hid (HB1.out.trans (hb4.mono HB1.out.size)); obtain ⟨n0, n1, n2, n3⟩ := cellsP HM2.out; clear hb2 hb4))
  all_goals go_wp2
  all_goals exact bodyPost_ret (results_cell_row_tmp rfl _ _ w.heap.size _ #[.int .i64 x, .int .i64 y] _ _ rfl (setP _ _ _ _ _ _ HM2.out) Tryd.underlying81 rfl Tryd.sizePl (.bool b) rfl) rfl ⟨rfl, belowP HB2.out (Nat.le_refl _) _ _⟩

end Go.Proofs.YteoncpifjifjlaaDoor
