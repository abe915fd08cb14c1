/- SheetFar of the model and of the program; its exact law. -/
import Derived.Test.YteoncpifjifjlaaNmH
import Derived.Test.YteoncpifjifjlaaGpJ
namespace Go.Proofs.Yteoncpifjifjlaa
open Go.RowKit
set_option linter.unusedVariables false

/-- the least steps between two stretches of a side -/
def gpV (a b : Nat) : Int := max 0 (4 * absI ((a : Int) - b) - 3)
theorem gpV_ok {a b : Nat} (ha : a < 26) (hb : b < 26) : 0 ≤ gpV a b ∧ gpV a b ≤ 100 := by unfold gpV absI; omega

theorem l7Gap_any (a b : Nat) (w : World) (ha : a < 26) (hb : b < 26) : Calls Try.prog 7 #[.int .i64 a, .int .i64 b] w fun e w' => e = .returned (.int .i64 (gpV a b)) ∧ w = w' := by
  have H1 := Lib.hid (l7Size_any ((a : Int) - b) w (by omega) (by omega))
  have hq : 0 ≤ absI ((a : Int) - b) ∧ absI ((a : Int) - b) ≤ 25 := by unfold absI; omega
  obtain ⟨A, hA⟩ : ∃ A, absI ((a : Int) - b) = A := ⟨_, rfl⟩
  have hg : gpV a b = max 0 (4 * A - 3) := by unfold gpV; rw [hA]
  rw [hA] at H1 hq
  have HG := Lib.hid hg
  clear hA hg
  go_enter Try.func7, Try.ntmps7
  go_wp2_with fail
  refine H1.out.mono ?_
  rintro e w' ⟨rfl, hw⟩
  obtain rfl : w = w' := hw.symm
  go_wp2
  go_ret
  exact ⟨ret_int (by rw [HG.out]; omega), rfl⟩

theorem stepsApart_any (a b : Nat) (w : World) (ha : a < 26) (hb : b < 26) : Calls Try.prog 9 #[.int .i64 a, .int .i64 b] w fun e w' => e = .returned (.int .i64 (gpV a b)) ∧ w' = w := by
  have H1 := Lib.hid (apart_any (a : Int) b w (by omega) (by omega))
  have hq : 0 ≤ absI ((a : Int) - b) ∧ absI ((a : Int) - b) ≤ 25 := by unfold absI; omega
  obtain ⟨A, hA⟩ : ∃ A, absI ((a : Int) - b) = A := ⟨_, rfl⟩
  have hg : gpV a b = max 0 (4 * A - 3) := by unfold gpV; rw [hA]
  rw [hA] at H1 hq
  have HG := Lib.hid hg
  clear hA hg
  go_enter Try.func9, Try.ntmps9
  go_wp2_with fail
  refine H1.out.mono ?_
  rintro e w' ⟨rfl, hw⟩
  obtain rfl : w = w' := hw.symm
  go_wp2
  go_ret
  exact ⟨ret_int (by rw [HG.out]; omega), rfl⟩

set_option maxHeartbeats 1000000 in
theorem specSheetFar_no (s t : ByteArray) (c r c' r' : Nat) (b b' : Bool) (w : World) (hA : ∀ W : World, Calls Try.prog 6 #[.string s] W (FdPost c r b W)) (hB : ∀ W : World, Calls Try.prog 6 #[.string t] W (FdPost c' r' b' W)) (h : (b && b') = false) :
    Calls Try.prog 4 #[.string s, .string t] w (IntPost (-1) w) := by
  have HA := Lib.hid hA
  have HB := Lib.hid hB
  clear hA hB
  cases b
  · clear h
    go_enter Try.func4, Try.ntmps4
    go_wp2_with fail
    refine (HA.out _).mono ?_
    rintro e w1 ⟨rfl, hb1⟩
    have HB1 := Lib.hid hb1
    clear hb1
    go_wp2_with fail
    refine (HB.out _).mono ?_
    rintro e w2 ⟨rfl, hb2⟩
    have HB2 := Lib.hid (HB1.out.trans (hb2.mono HB1.out.size))
    clear hb2
    go_wp2
    go_ret
    exact ⟨rfl, HB2.out⟩
  · cases b'
    · clear h
      go_enter Try.func4, Try.ntmps4
      go_wp2_with fail
      refine (HA.out _).mono ?_
      rintro e w1 ⟨rfl, hb1⟩
      have HB1 := Lib.hid hb1
      clear hb1
      go_wp2_with fail
      refine (HB.out _).mono ?_
      rintro e w2 ⟨rfl, hb2⟩
      have HB2 := Lib.hid (HB1.out.trans (hb2.mono HB1.out.size))
      clear hb2
      go_wp2
      go_ret
      exact ⟨rfl, HB2.out⟩
    · cases h

set_option maxHeartbeats 1000000 in
theorem specSheetFar_yes (s t : ByteArray) (c r c' r' : Nat) (w : World) (h : IsNm s c r) (h' : IsNm t c' r') :
    Calls Try.prog 4 #[.string s, .string t] w (IntPost (gpV c c' + gpV r r') w) := by
  have HA := Lib.hid (l7Find_yes s c r w h)
  have HB := Lib.hid (fun W : World => l7Find_yes t c' r' W h')
  have g1 := gpV_ok h.1 h'.1
  have g2 := gpV_ok h.2.1 h'.2.1
  have H1 := Lib.hid (fun W : World => l7Gap_any c c' W h.1 h'.1)
  have H2 := Lib.hid (fun W : World => l7Gap_any r r' W h.2.1 h'.2.1)
  clear h h'
  go_enter Try.func4, Try.ntmps4
  go_wp2_with fail
  refine HA.out.mono ?_
  rintro e w1 ⟨rfl, hb1⟩
  have HB1 := Lib.hid hb1
  clear hb1
  go_wp2_with fail
  refine (HB.out _).mono ?_
  rintro e w2 ⟨rfl, hb2⟩
  have HB2 := Lib.hid (HB1.out.trans (hb2.mono HB1.out.size))
  clear hb2
  go_wp2_with fail
  refine (H1.out _).mono ?_
  rintro e w' ⟨rfl, rfl⟩
  go_wp2_with fail
  refine (H2.out _).mono ?_
  rintro e w' ⟨rfl, rfl⟩
  go_wp2
  go_ret
  exact ⟨rfl, HB2.out⟩

set_option maxHeartbeats 1000000 in
theorem implSheetFar_no (s t : ByteArray) (c r c' r' : Int) (b b' : Bool) (w : World) (hA : ∀ W : World, Calls Try.prog 8 #[.string s] W (SfPost c r b W)) (hB : ∀ W : World, Calls Try.prog 8 #[.string t] W (SfPost c' r' b' W)) (h : (b && b') = false) :
    Calls Try.prog 5 #[.string s, .string t] w (IntPost (-1) w) := by
  have HA := Lib.hid hA
  have HB := Lib.hid hB
  clear hA hB
  cases b
  · clear h
    go_enter Try.func5, Try.ntmps5
    go_wp2_with fail
    refine (HA.out _).mono ?_
    rintro e w1 ⟨rfl, hb1⟩
    have HB1 := Lib.hid (hb1.alloc hb1.size (.cells #[.int .i64 c, .int .i64 r] 28))
    clear hb1
    go_wp2_with fail
    refine (HB.out _).mono ?_
    rintro e w2 ⟨rfl, hb2⟩
    have hb3 := HB1.out.trans (hb2.mono HB1.out.size)
    have HB2 := Lib.hid (hb3.alloc hb3.size (.cells #[.int .i64 c', .int .i64 r'] 28))
    clear hb2 hb3
    go_wp2
    go_ret
    exact ⟨rfl, HB2.out⟩
  · cases b'
    · clear h
      go_enter Try.func5, Try.ntmps5
      go_wp2_with fail
      refine (HA.out _).mono ?_
      rintro e w1 ⟨rfl, hb1⟩
      have HB1 := Lib.hid (hb1.alloc hb1.size (.cells #[.int .i64 c, .int .i64 r] 28))
      clear hb1
      go_wp2_with fail
      refine (HB.out _).mono ?_
      rintro e w2 ⟨rfl, hb2⟩
      have hb3 := HB1.out.trans (hb2.mono HB1.out.size)
      have HB2 := Lib.hid (hb3.alloc hb3.size (.cells #[.int .i64 c', .int .i64 r'] 28))
      clear hb2 hb3
      go_wp2
      go_ret
      exact ⟨rfl, HB2.out⟩
    · cases h

set_option maxHeartbeats 2000000 in
theorem implSheetFar_yes (s t : ByteArray) (c r c' r' : Nat) (w : World) (h : IsNm s c r) (h' : IsNm t c' r') :
    Calls Try.prog 5 #[.string s, .string t] w (IntPost (gpV c c' + gpV r r') w) := by
  have HA := Lib.hid (sheetFrom_yes s c r w h)
  have HB := Lib.hid (fun W : World => sheetFrom_yes t c' r' W h')
  have g1 := gpV_ok h.1 h'.1
  have g2 := gpV_ok h.2.1 h'.2.1
  have H1 := Lib.hid (fun W : World => stepsApart_any c c' W h.1 h'.1)
  have H2 := Lib.hid (fun W : World => stepsApart_any r r' W h.2.1 h'.2.1)
  have hS : IntKind.i64.wrap (gpV c c' + gpV r r') = gpV c c' + gpV r r' := IntWalk.i64_in _ (by omega)
  clear h h'
  go_enter Try.func5, Try.ntmps5
  go_wp2_with fail
  refine HA.out.mono ?_
  rintro e w1 ⟨rfl, hb1⟩
  have HB1 := Lib.hid (hb1.alloc hb1.size (.cells #[.int .i64 c, .int .i64 r] 28))
  have L1 := Lib.hid (heap_alloc_new w1 (.cells #[.int .i64 c, .int .i64 r] 28))
  clear hb1
  go_wp2_with fail
  refine (HB.out _).mono ?_
  rintro e w2 ⟨rfl, hb2⟩
  have hb3 := HB1.out.trans (hb2.mono HB1.out.size)
  have HB2 := Lib.hid (hb3.alloc hb3.size (.cells #[.int .i64 c', .int .i64 r'] 28))
  have M1 := (hb2.block w1.heap.size (by simp)).trans L1.out
  have hlt := lt_of_block M1
  obtain ⟨k0, k1, _, _⟩ := cellsP ((Below.heap_alloc w2 (.cells #[.int .i64 c', .int .i64 r'] 28) w1.heap.size hlt).trans M1)
  obtain ⟨l0, l1, _, _⟩ := cellsP (heap_alloc_new w2 (.cells #[.int .i64 c', .int .i64 r'] 28))
  clear hb2 hb3 M1
  go_wp2_with fail
  go_quiet ((first | (go_at_call 9; with_reducible exact Calls.quiet_of_same (H1.out _)) | (go_at_call 9; with_reducible exact Calls.quiet_of_same (H2.out _))))
  clear hS
  go_wp2
  go_ret
  exact ⟨rfl, below_drewN HB2.out _⟩

set_option maxHeartbeats 1000000 in
theorem law_SheetFar (s t : ByteArray) (x : Int) (w : World) (hs : s.size ≤ 9223372036854775807) (ht : t.size ≤ 9223372036854775807) (hS : ∀ W : World, Calls Try.prog 4 #[.string s, .string t] W (IntPost x W)) (hI : ∀ W : World, Calls Try.prog 5 #[.string s, .string t] W (IntPost x W)) :
    Calls Try.prog 3 #[.string s, .string t] w (LawPost w) := by
  have HS := Lib.hid hS
  have HI := Lib.hid hI
  have hx : (x != x) = false := by simp
  clear hS hI
  by_cases h1 : (1048576 : Int) < s.size
  · go_enter Try.func3, Try.ntmps3
    go_wp2
    go_ret
    exact ⟨rfl, Below.refl _ _⟩
  · by_cases h2 : (1048576 : Int) < t.size
    · go_enter Try.func3, Try.ntmps3
      go_wp2
      go_ret
      exact ⟨rfl, Below.refl _ _⟩
    · go_enter Try.func3, Try.ntmps3
      go_wp2_with fail
      refine (HS.out _).mono ?_
      rintro e w1 ⟨rfl, hb1⟩
      have HB1 := Lib.hid hb1
      clear hb1
      go_wp2_with fail
      refine (HI.out _).mono ?_
      rintro e w2 ⟨rfl, hb2⟩
      have HB2 := Lib.hid (HB1.out.trans (hb2.mono HB1.out.size))
      clear hb2
      go_wp2
      go_ret
      exact ⟨rfl, HB2.out⟩

theorem all_FnExactSheetFar (s t : ByteArray) (w : World) (hs : s.size ≤ 9223372036854775807) (ht : t.size ≤ 9223372036854775807) :
    Calls Try.prog 3 #[.string s, .string t] w (LawPost w) := by
  rcases nm_or s with ⟨c, r, h⟩ | h
  · rcases nm_or t with ⟨c', r', h'⟩ | h'
    · exact law_SheetFar s t _ w hs ht (fun W => specSheetFar_yes s t c r c' r' W h h') (fun W => implSheetFar_yes s t c r c' r' W h h')
    · exact law_SheetFar s t (-1) w hs ht (fun W => specSheetFar_no s t c r 0 0 true false W (fun W => l7Find_yes s c r W h) (fun W => l7Find_no t W h') rfl) (fun W => implSheetFar_no s t c r 0 0 true false W (fun W => sheetFrom_yes s c r W h) (fun W => sheetFrom_no t W ht h') rfl)
  · rcases nm_or t with ⟨c', r', h'⟩ | h'
    · exact law_SheetFar s t (-1) w hs ht (fun W => specSheetFar_no s t 0 0 c' r' false true W (fun W => l7Find_no s W h) (fun W => l7Find_yes t c' r' W h') rfl) (fun W => implSheetFar_no s t 0 0 c' r' false true W (fun W => sheetFrom_no s W hs h) (fun W => sheetFrom_yes t c' r' W h') rfl)
    · exact law_SheetFar s t (-1) w hs ht (fun W => specSheetFar_no s t 0 0 0 0 false false W (fun W => l7Find_no s W h) (fun W => l7Find_no t W h') rfl) (fun W => implSheetFar_no s t 0 0 0 0 false false W (fun W => sheetFrom_no s W hs h) (fun W => sheetFrom_no t W ht h') rfl)

end Go.Proofs.Yteoncpifjifjlaa
