/- SheetBeside of the model and of the program; its exact law. -/
import Derived.Test.YteoncpifjifjlaaDoorSo
namespace Go.Proofs.YteoncpifjifjlaaDoor
open Go.RowKit
set_option linter.unusedVariables false

set_option maxHeartbeats 1000000 in
theorem implSheetBeside_no (s : ByteArray) (c r dx dy : Int) (w : World) (hA : ∀ W : World, Calls Tryd.prog 45 #[.string s] W (SfPost c r false W)) : Calls Tryd.prog 19 #[.string s, .int .i64 dx, .int .i64 dy] w (SbPost ⟨#[]⟩ false w) := by
  have HA := Lib.hid hA
  obtain ⟨C, hC⟩ : ∃ C, IntKind.i64.wrap (c + dx) = C := ⟨_, rfl⟩
  obtain ⟨R, hR⟩ : ∃ R, IntKind.i64.wrap (r + dy) = R := ⟨_, rfl⟩
  clear hA
  go_enter Tryd.func19, Tryd.ntmps19
  go_wp2_with fail
  refine (HA.out _).mono ?_
  rintro e w1 ⟨rfl, hb1⟩
  have HB1 := Lib.hid hb1
  obtain ⟨l0, l1, l2, l3⟩ := cellsP (heap_alloc_new w1 (.cells #[.int .i64 c, .int .i64 r] 54))
  clear hb1
  go_wp2
  go_ret2
  exact ⟨rfl, HB1.out.alloc HB1.out.size _⟩

theorem wrap_near {c : Nat} {d : Int} (hc : c < 26) (h0 : -9223372036854775808 ≤ d) (h1 : d ≤ 9223372036854775807) :
    (0 ≤ IntKind.i64.wrap (c + d) ∧ IntKind.i64.wrap (c + d) < 26 ∧ IntKind.i64.wrap (c + d) = c + d) ∨ ((IntKind.i64.wrap (c + d) < 0 ∨ 26 ≤ IntKind.i64.wrap (c + d)) ∧ (c + d < 0 ∨ 26 ≤ c + d)) := by
  by_cases h : (c : Int) + d ≤ 9223372036854775807
  · rw [IntWalk.i64_in _ (by omega)]
    omega
  · right
    have : IntKind.i64.wrap (c + d) = c + d - 18446744073709551616 := by
      have h2 := IntWalk.i64_in (c + d - 18446744073709551616) (by omega)
      rw [← h2]
      have e : ((c : Int) + d) % 2 ^ IntKind.i64.bits = ((c : Int) + d - 18446744073709551616) % 2 ^ IntKind.i64.bits := by
        show ((c : Int) + d) % 2 ^ 64 = ((c : Int) + d - 18446744073709551616) % 2 ^ 64
        omega
      simp only [IntKind.wrap, e]
    omega

set_option maxHeartbeats 1000000 in
theorem implSheetBeside_far (s : ByteArray) (c r : Nat) (dx dy : Int) (w : World) (h : IsNm s c r) (hb : shB2 (IntKind.i64.wrap (c + dx)) (IntKind.i64.wrap (r + dy)) = false) : Calls Tryd.prog 19 #[.string s, .int .i64 dx, .int .i64 dy] w (SbPost ⟨#[]⟩ false w) := by
  have HA := Lib.hid (fun W : World => sheetFrom_yes s c r W h)
  obtain ⟨C, hC⟩ : ∃ C, IntKind.i64.wrap (c + dx) = C := ⟨_, rfl⟩
  obtain ⟨R, hR⟩ : ∃ R, IntKind.i64.wrap (r + dy) = R := ⟨_, rfl⟩
  have HV := Lib.hid (fun W : World => sheetValid_any C R W)
  rw [hC, hR] at hb
  rw [hb] at HV
  clear hb h
  go_enter Tryd.func19, Tryd.ntmps19
  go_wp2_with fail
  refine (HA.out _).mono ?_
  rintro e w1 ⟨rfl, hb1⟩
  have HB1 := Lib.hid hb1
  obtain ⟨l0, l1, l2, l3⟩ := cellsP (heap_alloc_new w1 (.cells #[.int .i64 c, .int .i64 r] 54))
  clear hb1
  go_wp2_with fail
  refine (HV.out _).mono ?_
  rintro e w2 ⟨rfl, hb2⟩
  have hb3 := HB1.out.alloc HB1.out.size (.cells #[.int .i64 C, .int .i64 R] 54)
  have HB2 := Lib.hid (hb3.trans (hb2.mono hb3.size))
  clear hb2 hb3
  go_wp2
  go_ret2
  exact ⟨rfl, HB2.out⟩

set_option maxHeartbeats 1000000 in
theorem implSheetBeside_yes (s : ByteArray) (c r C R : Nat) (dx dy : Int) (w : World) (h : IsNm s c r) (hC : IntKind.i64.wrap (c + dx) = C) (hR : IntKind.i64.wrap (r + dy) = R) (hC2 : C < 26) (hR2 : R < 26) : Calls Tryd.prog 19 #[.string s, .int .i64 dx, .int .i64 dy] w (SbPost (nmS C R) true w) := by
  have HA := Lib.hid (fun W : World => sheetFrom_yes s c r W h)
  have HV := Lib.hid (fun W : World => sheetValid_any C R W)
  have HN := Lib.hid (fun W : World => implName_any C R W hC2 hR2)
  rw [shB2_yes (c := C) (r := R) ⟨⟨by omega, by omega⟩, by omega, by omega⟩] at HV
  clear h
  go_enter Tryd.func19, Tryd.ntmps19
  go_wp2_with fail
  refine (HA.out _).mono ?_
  rintro e w1 ⟨rfl, hb1⟩
  have HB1 := Lib.hid hb1
  obtain ⟨l0, l1, l2, l3⟩ := cellsP (heap_alloc_new w1 (.cells #[.int .i64 c, .int .i64 r] 54))
  clear hb1
  go_wp2_with fail
  refine (HV.out _).mono ?_
  rintro e w2 ⟨rfl, hb2⟩
  have hb3 := HB1.out.alloc HB1.out.size (.cells #[.int .i64 C, .int .i64 R] 54)
  have HB2 := Lib.hid (hb3.trans (hb2.mono hb3.size))
  obtain ⟨k0, k1, k2, k3⟩ := cellsP ((hb2.block w1.heap.size (by simp)).trans (heap_alloc_new w1 (.cells #[.int .i64 C, .int .i64 R] 54)))
  clear hb2 hb3
  go_wp2_with fail
  refine (HN.out _).mono ?_
  rintro e w3 ⟨rfl, hb3⟩
  have HB3 := Lib.hid (HB2.out.trans (hb3.mono HB2.out.size))
  clear hb3
  go_wp2
  go_ret2
  exact ⟨rfl, HB3.out⟩

set_option maxHeartbeats 1000000 in
theorem specSheetBeside_no (s : ByteArray) (c r : Nat) (dx dy : Int) (w : World) (hA : ∀ W : World, Calls Tryd.prog 41 #[.string s] W (FdPost c r false W)) : Calls Tryd.prog 18 #[.string s, .int .i64 dx, .int .i64 dy] w (SbPost ⟨#[]⟩ false w) := by
  have HA := Lib.hid (hA w)
  clear hA
  go_enter Tryd.func18, Tryd.ntmps18
  go_wp2_with fail
  refine HA.out.mono ?_
  rintro e w1 ⟨rfl, hb1⟩
  have HB1 := Lib.hid hb1
  clear hb1
  go_wp2
  go_ret2
  exact ⟨rfl, HB1.out⟩

theorem l6In_any (x a b : Int) (w : World) : Calls Tryd.prog 43 #[.int .i64 x, .int .i64 a, .int .i64 b] w (SmPost (decide (a ≤ x) && decide (x ≤ b)) w) := by
  obtain ⟨q, hq⟩ : ∃ q, (decide (a ≤ x) && decide (x ≤ b)) = q := ⟨_, rfl⟩
  rw [hq]
  by_cases h1 : a ≤ x
  · by_cases h2 : x ≤ b
    · have HE := Lib.hid (show q = true by rw [← hq]; simp [h1, h2])
      clear hq
      go_enter Tryd.func43, Tryd.ntmps43
      go_wp2
      go_ret
      exact sm_post HE.out _
    · have HE := Lib.hid (show q = false by rw [← hq]; simp [h1, h2])
      clear hq
      go_enter Tryd.func43, Tryd.ntmps43
      go_wp2
      go_ret
      exact sm_post HE.out _
  · have HE := Lib.hid (show q = false by rw [← hq]; simp [h1])
    clear hq
    go_enter Tryd.func43, Tryd.ntmps43
    go_wp2
    go_ret
    exact sm_post HE.out _

set_option maxHeartbeats 1000000 in
theorem specSheetBeside_far (s : ByteArray) (c r : Nat) (dx dy : Int) (w : World) (h : IsNm s c r) (hf : (c + dx < 0 ∨ 26 ≤ c + dx) ∨ (r + dy < 0 ∨ 26 ≤ r + dy)) : Calls Tryd.prog 18 #[.string s, .int .i64 dx, .int .i64 dy] w (SbPost ⟨#[]⟩ false w) := by
  have HA := Lib.hid (l7Find_yes s c r w h)
  have hc := h.1
  have hr := h.2.1
  have w1 : IntKind.i64.wrap (0 - (c : Int)) = 0 - c := IntWalk.i64_in _ (by omega)
  have w2 : IntKind.i64.wrap (25 - (c : Int)) = 25 - c := IntWalk.i64_in _ (by omega)
  have w3 : IntKind.i64.wrap (0 - (r : Int)) = 0 - r := IntWalk.i64_in _ (by omega)
  have w4 : IntKind.i64.wrap (25 - (r : Int)) = 25 - r := IntWalk.i64_in _ (by omega)
  have H1 := Lib.hid (fun W : World => l6In_any dx (-(c : Int)) (25 - c) W)
  have H2 := Lib.hid (fun W : World => l6In_any dy (-(r : Int)) (25 - r) W)
  clear h
  by_cases hx : (decide (-(c : Int) ≤ dx) && decide (dx ≤ 25 - (c : Int))) = true
  · have hy : (decide (-(r : Int) ≤ dy) && decide (dy ≤ 25 - (r : Int))) = false := by
      rw [Bool.and_eq_true, decide_eq_true_eq, decide_eq_true_eq] at hx
      rw [Bool.and_eq_false_iff, decide_eq_false_iff_not, decide_eq_false_iff_not]
      omega
    rw [hx] at H1
    rw [hy] at H2
    clear hx hy hf
    go_enter Tryd.func18, Tryd.ntmps18
    go_wp2_with fail
    refine HA.out.mono ?_
    rintro e w5 ⟨rfl, hb1⟩
    have HB1 := Lib.hid hb1
    clear hb1
    go_wp2_with fail
    refine (H1.out _).mono ?_
    rintro e w6 ⟨rfl, rfl⟩
    go_wp2_with fail
    refine (H2.out _).mono ?_
    rintro e w6 ⟨rfl, rfl⟩
    go_wp2
    go_ret2
    exact ⟨rfl, HB1.out⟩
  · rw [Bool.not_eq_true] at hx
    rw [hx] at H1
    clear hx hf
    go_enter Tryd.func18, Tryd.ntmps18
    go_wp2_with fail
    refine HA.out.mono ?_
    rintro e w5 ⟨rfl, hb1⟩
    have HB1 := Lib.hid hb1
    clear hb1
    go_wp2_with fail
    refine (H1.out _).mono ?_
    rintro e w6 ⟨rfl, rfl⟩
    go_wp2
    go_ret2
    exact ⟨rfl, HB1.out⟩

set_option maxHeartbeats 1000000 in
theorem specSheetBeside_yes (s : ByteArray) (c r C R : Nat) (dx dy : Int) (w : World) (h : IsNm s c r) (hC : (c : Int) + dx = C) (hR : (r : Int) + dy = R) (hC2 : C < 26) (hR2 : R < 26) : Calls Tryd.prog 18 #[.string s, .int .i64 dx, .int .i64 dy] w (SbPost (nmS C R) true w) := by
  have HA := Lib.hid (l7Find_yes s c r w h)
  have hc := h.1
  have hr := h.2.1
  have w1 : IntKind.i64.wrap (0 - (c : Int)) = 0 - c := IntWalk.i64_in _ (by omega)
  have w2 : IntKind.i64.wrap (25 - (c : Int)) = 25 - c := IntWalk.i64_in _ (by omega)
  have w3 : IntKind.i64.wrap (0 - (r : Int)) = 0 - r := IntWalk.i64_in _ (by omega)
  have w4 : IntKind.i64.wrap (25 - (r : Int)) = 25 - r := IntWalk.i64_in _ (by omega)
  have H1 := Lib.hid (fun W : World => l6In_any dx (-(c : Int)) (25 - c) W)
  have H2 := Lib.hid (fun W : World => l6In_any dy (-(r : Int)) (25 - r) W)
  have HN := Lib.hid (fun W : World => show Calls Tryd.prog 44 #[.int .i64 C, .int .i64 R] W (StrPost (nmS C R) W) from l7Name_any C R W hC2 hR2)
  have hx : (decide (-(c : Int) ≤ dx) && decide (dx ≤ 25 - (c : Int))) = true := by
    rw [Bool.and_eq_true, decide_eq_true_eq, decide_eq_true_eq]; omega
  have hy : (decide (-(r : Int) ≤ dy) && decide (dy ≤ 25 - (r : Int))) = true := by
    rw [Bool.and_eq_true, decide_eq_true_eq, decide_eq_true_eq]; omega
  have w5 : IntKind.i64.wrap ((c : Int) + dx) = C := by rw [hC]; exact IntWalk.i64_in _ (by omega)
  have w6 : IntKind.i64.wrap ((r : Int) + dy) = R := by rw [hR]; exact IntWalk.i64_in _ (by omega)
  rw [hx] at H1
  rw [hy] at H2
  clear hx hy h hC hR
  go_enter Tryd.func18, Tryd.ntmps18
  go_wp2_with fail
  refine HA.out.mono ?_
  rintro e w5 ⟨rfl, hb1⟩
  have HB1 := Lib.hid hb1
  clear hb1
  go_wp2_with fail
  refine (H1.out _).mono ?_
  rintro e w6 ⟨rfl, rfl⟩
  go_wp2_with fail
  refine (H2.out _).mono ?_
  rintro e w6 ⟨rfl, rfl⟩
  go_wp2_with fail
  refine (HN.out _).mono ?_
  rintro e w6 ⟨rfl, hb2⟩
  have HB2 := Lib.hid (HB1.out.trans (hb2.mono HB1.out.size))
  clear hb2
  go_wp2
  go_ret2
  exact ⟨rfl, HB2.out⟩

theorem law_SheetBeside (s0 : ByteArray) (x y : Int) (s : ByteArray) (b : Bool) (w : World) (hs0 : s0.size ≤ 9223372036854775807) (hS : ∀ W : World, Calls Tryd.prog 18 #[.string s0, .int .i64 x, .int .i64 y] W (SbPost s b W)) (hI : ∀ W : World, Calls Tryd.prog 19 #[.string s0, .int .i64 x, .int .i64 y] W (SbPost s b W)) :
    Calls Tryd.prog 5 #[.string s0, .int .i64 x, .int .i64 y] w (LawPost w) := by
  have HS := Lib.hid hS
  have HI := Lib.hid hI
  have hss := seq_yes (a := s) rfl
  have hbb : (b != b) = false := by simp
  clear hS hI
  by_cases h1 : (1048576 : Int) < s0.size
  · go_enter Tryd.func5, Tryd.ntmps5
    go_wp2
    go_ret
    exact ⟨rfl, Below.refl _ _⟩
  · go_enter Tryd.func5, Tryd.ntmps5
    go_wp2_with fail
    refine (HS.out _).mono ?_
    rintro e w1 ⟨rfl, hb1⟩
    have HB1 := Lib.hid hb1
    clear hb1
    go_wp2_with fail
    refine (HI.out _).mono ?_
    rintro e w2 ⟨rfl, hb2⟩
    have HB2 := Lib.hid (HB1.out.trans (hb2.mono HB1.out.size))
    clear hb2
    go_wp2
    go_ret
    exact ⟨rfl, HB2.out⟩

theorem all_FnExactSheetBeside (s : ByteArray) (x y : Int) (w : World) (hs : s.size ≤ 9223372036854775807) (hx : -9223372036854775808 ≤ x ∧ x ≤ 9223372036854775807) (hy : -9223372036854775808 ≤ y ∧ y ≤ 9223372036854775807) :
    Calls Tryd.prog 5 #[.string s, .int .i64 x, .int .i64 y] w (LawPost w) := by
  rcases nm_or s with ⟨c, r, h⟩ | h
  · have ex := wrap_near h.1 hx.1 hx.2
    have ey := wrap_near h.2.1 hy.1 hy.2
    by_cases hin : (0 ≤ (c : Int) + x ∧ (c : Int) + x < 26) ∧ 0 ≤ (r : Int) + y ∧ (r : Int) + y < 26
    · obtain ⟨C, hC⟩ : ∃ C : Nat, (c : Int) + x = C := ⟨((c : Int) + x).toNat, by omega⟩
      obtain ⟨R, hR⟩ : ∃ R : Nat, (r : Int) + y = R := ⟨((r : Int) + y).toNat, by omega⟩
      exact law_SheetBeside s x y _ _ w hs (fun W => specSheetBeside_yes s c r C R x y W h hC hR (by omega) (by omega)) (fun W => implSheetBeside_yes s c r C R x y W h (by rw [hC]; exact IntWalk.i64_in _ (by omega)) (by rw [hR]; exact IntWalk.i64_in _ (by omega)) (by omega) (by omega))
    · exact law_SheetBeside s x y _ _ w hs (fun W => specSheetBeside_far s c r x y W h (by omega)) (fun W => implSheetBeside_far s c r x y W h (shB2_no (fun hk => by have h1 := hk.1; have h2 := hk.2; omega)))
  · exact law_SheetBeside s x y _ _ w hs (fun W => specSheetBeside_no s 0 0 x y W (fun W => l7Find_no s W h)) (fun W => implSheetBeside_no s 0 0 x y W (fun W => sheetFrom_no s W hs h))

end Go.Proofs.YteoncpifjifjlaaDoor
