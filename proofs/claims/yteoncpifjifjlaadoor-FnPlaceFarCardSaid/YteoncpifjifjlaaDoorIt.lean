/- strconv.Itoa of small numbers. -/
import Derived.Shelf.Strconv.Itoa1
import Derived.Test.YteoncpifjifjlaaDoorNm
namespace Go.Proofs.YteoncpifjifjlaaDoor
open Go.RowKit
set_option linter.unusedVariables false

def lays283_ren : Go.Shelf.Ren := ⟨fun | 283 => 107 | n => n, fun | 3 => 3 | 4 => 4 | 9 => 9 | n => n, fun n => n⟩
theorem lays283 : Lays.n283 Tryd.prog lays283_ren := {
  mixed := by kernel_rfl,
  f283 := Tryd.func107.trans (congrArg some (by kernel_rfl)),
  t3 := Tryd.underlying3, a3 := Tryd.isAgg3, z3 := Tryd.sizeOf3, v3 := Tryd.zeroValue3,
  t4 := Tryd.underlying4, a4 := Tryd.isAgg4, z4 := Tryd.sizeOf4, v4 := Tryd.zeroValue4,
  t9 := Tryd.underlying9, a9 := Tryd.isAgg9, z9 := Tryd.sizeOf9, v9 := Tryd.zeroValue9 }

theorem decDigits_decL (n : Nat) (h : n < 100) : Lib.decDigits n = decL n := by
  rw [Lib.decDigits]
  unfold decL
  by_cases h10 : n < 10
  · rw [dif_pos h10, if_pos h10]; rfl
  · rw [dif_neg h10, if_neg h10, Lib.decDigits, dif_pos (by omega)]; rfl

theorem small_any (i : Nat) (h : i < 100) (w : World) : Calls Tryd.prog 107 #[.int .i64 i] w fun e w' => e = .returned (.string ⟨(decL i).toArray⟩) ∧ w' = w := by
  have := Any.internal_strconv_small lays283 i h w
  rw [decDigits_decL i h] at this
  exact this

set_option maxHeartbeats 1000000 in
theorem formatInt_small (i : Nat) (h : i < 100) (w : World) : Calls Tryd.prog 102 #[.int .i64 i, .int .i64 10] w fun e w' => e = .returned (.string ⟨(decL i).toArray⟩) ∧ w' = w := by
  have HS := Lib.hid (small_any i h w)
  have h1 : (0 : Int) ≤ i := by omega
  have h2 : (i : Int) < 100 := by omega
  go_enter Tryd.func102, Tryd.ntmps102
  go_wp2_with fail
  refine HS.out.mono ?_
  rintro e w' ⟨rfl, hw⟩
  obtain rfl : w = w' := hw.symm
  go_wp2
  go_ret
  exact ⟨rfl, rfl⟩

theorem itoaI_small (i : Nat) (h : i < 100) (w : World) : Calls Tryd.prog 90 #[.int .i64 i] w fun e w' => e = .returned (.string ⟨(decL i).toArray⟩) ∧ w' = w := by
  have HS := Lib.hid (formatInt_small i h w)
  go_enter Tryd.func90, Tryd.ntmps90
  go_wp2_with fail
  refine HS.out.mono ?_
  rintro e w' ⟨rfl, hw⟩
  obtain rfl : w = w' := hw.symm
  go_wp2
  go_ret
  exact ⟨rfl, rfl⟩

theorem itoa_small (i : Nat) (h : i < 100) (w : World) : Calls Tryd.prog 73 #[.int .i64 i] w fun e w' => e = .returned (.string ⟨(decL i).toArray⟩) ∧ w' = w := by
  have HS := Lib.hid (itoaI_small i h w)
  go_enter Tryd.func73, Tryd.ntmps73
  go_wp2_with fail
  refine HS.out.mono ?_
  rintro e w' ⟨rfl, hw⟩
  obtain rfl : w = w' := hw.symm
  go_wp2
  go_ret
  exact ⟨rfl, rfl⟩

end Go.Proofs.YteoncpifjifjlaaDoor
