/- The program's name of a sheet; SheetOf of the model and of the program; its exact law. -/
import Derived.Test.YteoncpifjifjlaaDoorFr
import Derived.Test.YteoncpifjifjlaaDoorIt
namespace Go.Proofs.YteoncpifjifjlaaDoor
open Go.RowKit
set_option linter.unusedVariables false

/-- a letter as a string of its own -/
theorem conv_rune (r : Nat) (hr : r < 26) (W : World) : (convert 5 9 (.int .u8 (65 + (r : Int)))).run Tryd.prog W = .ok (.string ⟨#[u8 (65 + r)]⟩) W := by
  rcases (by omega : r = 0 ∨ r = 1 ∨ r = 2 ∨ r = 3 ∨ r = 4 ∨ r = 5 ∨ r = 6 ∨ r = 7 ∨ r = 8 ∨ r = 9 ∨ r = 10 ∨ r = 11 ∨ r = 12 ∨ r = 13 ∨ r = 14 ∨ r = 15 ∨ r = 16 ∨ r = 17 ∨ r = 18 ∨ r = 19 ∨ r = 20 ∨ r = 21 ∨ r = 22 ∨ r = 23 ∨ r = 24 ∨ r = 25) with rfl | rfl | rfl | rfl | rfl | rfl | rfl | rfl | rfl | rfl | rfl | rfl | rfl | rfl | rfl | rfl | rfl | rfl | rfl | rfl | rfl | rfl | rfl | rfl | rfl | rfl
  all_goals kernel_rfl

set_option maxHeartbeats 2000000 in
theorem implName_any (c r : Nat) (w : World) (hc : c < 26) (hr : r < 26) : Calls Tryd.prog 47 #[.agg #[.int .i64 c, .int .i64 r]] w (StrPost (nmS c r) w) := by
  have hw8 : IntKind.u8.wrap (65 + (r : Int)) = 65 + (r : Int) := IntWalk.u8_in _ (by omega)
  have hw3 : IntKind.i64.wrap (65 + (r : Int)) = 65 + (r : Int) := IntWalk.i64_in _ (by omega)
  have hw4 : IntKind.i64.wrap ((c : Int) + 1) = ((c + 1 : Nat) : Int) := by rw [IntWalk.i64_in _ (by omega)]; rfl
  have hdl := decL_len (c + 1)
  have HE := Lib.hid (show nmS c r = ⟨([u8 (65 + r)] ++ decL (c + 1)).toArray⟩ from rfl)
  have HD := Lib.hid (fun W : World => itoa_small (c + 1) (by omega) W)
  have HB := Lib.hid (show Below w.heap.size w (w.alloc (.cells #[.int .i64 c, .int .i64 r] 54)) from (Below.refl _ _).alloc (Nat.le_refl _) _)
  obtain ⟨l0, l1, _, _⟩ := cellsP (heap_alloc_new w (.cells #[.int .i64 c, .int .i64 r] 54))
  obtain ⟨n, hn⟩ : ∃ n, c + 1 = n := ⟨_, rfl⟩
  rw [hn] at HD hw4 HE hdl
  generalize hL : decL n = L at HD HE hdl
  have hadd : ∀ W : World, (Op.stringOp .add ⟨#[u8 (65 + r)]⟩ ⟨L.toArray⟩).run Tryd.prog W = .ok (.string ⟨([u8 (65 + r)] ++ L).toArray⟩) W := fun W => run_string_add_lists (w := W) [_] _ (by simp) (by omega)
  have cv := fun W : World => conv_rune r hr W
  clear hn hL
  go_enter Tryd.func47, Tryd.ntmps47
  go_wp2_with fail
  go_quiet ((go_at_call 73; exact Calls.quiet_of_same (HD.out _)))
  clear cv hadd
  go_wp2
  go_ret
  exact ⟨by rw [HE.out]; rfl, below_drewN HB.out _⟩

theorem q4 {X : Nat} (h : X < 104) : (X : Int).tdiv 4 = ((X / 4 : Nat) : Int) ∧ X / 4 < 26 := ⟨by rw [Int.tdiv_eq_ediv_of_nonneg (by omega)]; omega, by omega⟩

set_option maxHeartbeats 1000000 in
theorem placeSheet_any (X Y : Nat) (w : World) (hX : X < 104) (hY : Y < 104) : Calls Tryd.prog 96 #[.agg #[.int .i64 X, .int .i64 Y]] w (PlPost ((X / 4 : Nat) : Int) ((Y / 4 : Nat) : Int) w) := by
  obtain ⟨qx, qx2⟩ := q4 hX
  obtain ⟨qy, qy2⟩ := q4 hY
  have wx : IntKind.i64.wrap ((X / 4 : Nat) : Int) = ((X / 4 : Nat) : Int) := IntWalk.i64_in _ (by omega)
  have wy : IntKind.i64.wrap ((Y / 4 : Nat) : Int) = ((Y / 4 : Nat) : Int) := IntWalk.i64_in _ (by omega)
  generalize X / 4 = c at *
  generalize Y / 4 = r at *
  have HM := Lib.hid (heap_alloc2_new w (.cells #[.int .i64 X, .int .i64 Y] 81) (.cells #[.int .i64 0, .int .i64 0] 54))
  obtain ⟨k0, k1, k2, k3⟩ := cellsP HM.out
  obtain ⟨l0, l1, _, _⟩ := cellsP (heap_alloc2_old w (.cells #[.int .i64 X, .int .i64 Y] 81) (.cells #[.int .i64 0, .int .i64 0] 54))
  go_enter Tryd.func96, Tryd.ntmps96
  go_wp2
  exact bodyPost_ret (results_cell_row rfl _ _ (w.heap.size + 1) _ #[.int .i64 c, .int .i64 r] _ _ rfl (heap_alloc2_new w _ _) Tryd.underlying54 rfl Tryd.sizeSh) rfl ⟨rfl, ((Below.refl _ _).alloc (Nat.le_refl _) _).alloc (by simp) _⟩

set_option maxHeartbeats 1000000 in
theorem sheetName_any (X Y : Nat) (w : World) (hX : X < 104) (hY : Y < 104) : Calls Tryd.prog 84 #[.agg #[.int .i64 X, .int .i64 Y]] w (StrPost (nmS (X / 4) (Y / 4)) w) := by
  have HS := Lib.hid (fun W : World => placeSheet_any X Y W hX hY)
  have HN := Lib.hid (fun W : World => implName_any (X / 4) (Y / 4) W (q4 hX).2 (q4 hY).2)
  have HB := Lib.hid (show Below w.heap.size w (w.alloc (.cells #[.int .i64 X, .int .i64 Y] 81)) from (Below.refl _ _).alloc (Nat.le_refl _) _)
  obtain ⟨l0, l1, _, _⟩ := cellsP (heap_alloc_new w (.cells #[.int .i64 X, .int .i64 Y] 81))
  generalize X / 4 = c at *
  generalize Y / 4 = r at *
  go_enter Tryd.func84, Tryd.ntmps84
  go_wp2_with fail
  refine (HS.out _).mono ?_
  rintro e w1 ⟨rfl, hb1⟩
  have HB1 := Lib.hid (HB.out.trans (hb1.mono HB.out.size))
  clear hb1
  go_wp2_with fail
  refine (HN.out _).mono ?_
  rintro e w2 ⟨rfl, hb2⟩
  have HB2 := Lib.hid (HB1.out.trans (hb2.mono HB1.out.size))
  clear hb2
  go_wp2
  go_ret
  exact ⟨rfl, HB2.out⟩

/-- a name and whether -/
def SbPost (s : ByteArray) (b : Bool) (w : World) (e : Ending) (w' : World) : Prop := e = .returned (.tuple #[.string s, .bool b]) ∧ Below w.heap.size w w'

set_option maxHeartbeats 1000000 in
theorem nameAt_no (k x y : Int) (w : World) (h : plB x y = false) : Calls Tryd.prog 59 #[.int .i64 k, .int .i64 x, .int .i64 y] w (SbPost ⟨#[]⟩ false w) := by
  have HV := Lib.hid (fun W : World => placeValid_any x y W)
  rw [h] at HV
  have HB := Lib.hid (show Below w.heap.size w (w.alloc (.cells #[.int .i64 x, .int .i64 y] 81)) from (Below.refl _ _).alloc (Nat.le_refl _) _)
  obtain ⟨l0, l1, _, _⟩ := cellsP (heap_alloc_new w (.cells #[.int .i64 x, .int .i64 y] 81))
  clear h
  go_enter Tryd.func59, Tryd.ntmps59
  go_wp2_with fail
  refine (HV.out _).mono ?_
  rintro e w1 ⟨rfl, hb1⟩
  have HB1 := Lib.hid (HB.out.trans (hb1.mono HB.out.size))
  clear hb1
  go_wp2
  go_ret2
  exact ⟨rfl, HB1.out⟩

set_option maxHeartbeats 2000000 in
theorem nameAt_sheet (X Y : Nat) (w : World) (hX : X < 104) (hY : Y < 104) : Calls Tryd.prog 59 #[.int .i64 0, .int .i64 X, .int .i64 Y] w (SbPost (nmS (X / 4) (Y / 4)) true w) := by
  have HV := Lib.hid (fun W : World => placeValid_any X Y W)
  rw [plB_yes (x := X) (y := Y) ⟨⟨by omega, by omega⟩, by omega, by omega⟩] at HV
  have HN := Lib.hid (fun W : World => sheetName_any X Y W hX hY)
  have HB := Lib.hid (show Below w.heap.size w (w.alloc (.cells #[.int .i64 X, .int .i64 Y] 81)) from (Below.refl _ _).alloc (Nat.le_refl _) _)
  have HM := Lib.hid (heap_alloc_new w (.cells #[.int .i64 X, .int .i64 Y] 81))
  obtain ⟨l0, l1, _, _⟩ := cellsP HM.out
  have HG := Lib.hid namings_any
  have hg' : ∀ W : World, (Instr.lookup 90 (.map (some W.heap.size)) (.int .i64 0) false).run Tryd.prog (W.alloc (.map #[ngA, ngB] 2)) = .ok (.agg #[.func (.func 84) #[] #[], .func (.func 85) #[] #[]]) (W.alloc (.map #[ngA, ngB] 2)) := fun W => ng_get (W.alloc (.map #[ngA, ngB] 2)) W.heap.size 0 ngA 0 (heap_alloc_new W _) rfl
  have hg2 : ∀ W : World, (Instr.lookup 90 (.map (some W.heap.size)) (.int .i64 0) false).run Tryd.prog (W.alloc (.map #[ngA, ngB] 2)).drew = .ok (.agg #[.func (.func 84) #[] #[], .func (.func 85) #[] #[]]) (W.alloc (.map #[ngA, ngB] 2)).drew := fun W => ng_get (W.alloc (.map #[ngA, ngB] 2)).drew W.heap.size 0 ngA 0 (heap_alloc_new W _) rfl
  have hfd : ∀ W : World, (Instr.field 89 (.agg #[.func (.func 84) #[] #[], .func (.func 85) #[] #[]]) 0).run Tryd.prog W = .ok (.func (.func 84) #[] #[]) W := fun _ => by kernel_rfl
  generalize X / 4 = c at *
  generalize Y / 4 = r at *
  go_enter Tryd.func59, Tryd.ntmps59
  go_wp2_with fail
  refine (HV.out _).mono ?_
  rintro e w1 ⟨rfl, hb1⟩
  have HB1 := Lib.hid (HB.out.trans (hb1.mono HB.out.size))
  have M1 := (hb1.block w.heap.size (by simp)).trans HM.out
  have M2 := (Below.heap_alloc w1 (.map #[ngA, ngB] 2) w.heap.size (lt_of_block M1)).trans M1
  obtain ⟨k0, k1, _, _⟩ := cellsP M1
  obtain ⟨m0, m1, _, _⟩ := cellsP M2
  have HB9 := Lib.hid (HB1.out.alloc HB1.out.size (.map #[ngA, ngB] 2))
  clear hb1 M1 M2
  go_wp2_with fail
  go_region_with ((first | (go_at_call 70; refine (HG.out _).mono ?_; rintro e w2 ⟨rfl, rfl⟩) | (go_at_call 84; refine (HN.out _).mono ?_; rintro e w3 ⟨rfl, hb3⟩)))
  all_goals clear hg' hg2 hfd
  all_goals go_wp2
  all_goals go_ret2
  all_goals exact ⟨rfl, HB9.out.trans (Below.mono (show Below (w1.alloc (.map #[ngA, ngB] 2)).heap.size (w1.alloc (.map #[ngA, ngB] 2)) _ from hb3.undrew) HB9.out.size)⟩

set_option maxHeartbeats 1000000 in
theorem implSheetOf_any (x y : Int) (s : ByteArray) (b : Bool) (w : World) (hA : ∀ W : World, Calls Tryd.prog 59 #[.int .i64 0, .int .i64 x, .int .i64 y] W (SbPost s b W)) : Calls Tryd.prog 26 #[.int .i64 x, .int .i64 y] w (SbPost s b w) := by
  have HA := Lib.hid (hA w)
  clear hA
  go_enter Tryd.func26, Tryd.ntmps26
  go_wp2_with fail
  refine HA.out.mono ?_
  rintro e w1 ⟨rfl, hb1⟩
  have HB1 := Lib.hid hb1
  clear hb1
  go_wp2
  go_ret2
  exact ⟨rfl, HB1.out⟩

theorem specSheetOf_no (x y : Int) (w : World) (h : plB x y = false) : Calls Tryd.prog 27 #[.int .i64 x, .int .i64 y] w (SbPost ⟨#[]⟩ false w) := by
  have HP := Lib.hid (l7Place_any x y w)
  rw [h] at HP
  clear h
  go_enter Tryd.func27, Tryd.ntmps27
  go_wp2_with fail
  refine HP.out.mono ?_
  rintro e w1 ⟨rfl, rfl⟩
  go_wp2
  go_ret2
  exact ⟨rfl, Below.refl _ _⟩

theorem specSheetOf_yes (X Y : Nat) (w : World) (hX : X < 104) (hY : Y < 104) : Calls Tryd.prog 27 #[.int .i64 X, .int .i64 Y] w (SbPost (nmS (X / 4) (Y / 4)) true w) := by
  have HP := Lib.hid (l7Place_any X Y w)
  rw [plB_yes (x := X) (y := Y) ⟨⟨by omega, by omega⟩, by omega, by omega⟩] at HP
  have HN := Lib.hid (fun W : World => show Calls Tryd.prog 44 #[.int .i64 ((X / 4 : Nat) : Int), .int .i64 ((Y / 4 : Nat) : Int)] W (StrPost (nmS (X / 4) (Y / 4)) W) from l7Name_any (X / 4) (Y / 4) W (q4 hX).2 (q4 hY).2)
  obtain ⟨qx, qx2⟩ := q4 hX
  obtain ⟨qy, qy2⟩ := q4 hY
  have wx : IntKind.i64.wrap ((X / 4 : Nat) : Int) = ((X / 4 : Nat) : Int) := IntWalk.i64_in _ (by omega)
  have wy : IntKind.i64.wrap ((Y / 4 : Nat) : Int) = ((Y / 4 : Nat) : Int) := IntWalk.i64_in _ (by omega)
  generalize X / 4 = c at *
  generalize Y / 4 = r at *
  go_enter Tryd.func27, Tryd.ntmps27
  go_wp2_with fail
  refine HP.out.mono ?_
  rintro e w1 ⟨rfl, rfl⟩
  go_wp2_with fail
  refine (HN.out _).mono ?_
  rintro e w2 ⟨rfl, hb2⟩
  have HB2 := Lib.hid hb2
  clear hb2
  go_wp2
  go_ret2
  exact ⟨rfl, HB2.out⟩

/-- there is such a place, by natural numbers, or not -/
theorem pl_or (x y : Int) : (∃ X Y : Nat, X < 104 ∧ Y < 104 ∧ x = X ∧ y = Y) ∨ plB x y = false := by
  by_cases h : PlOk x y
  · obtain ⟨⟨h0, h1⟩, h2, h3⟩ := h
    exact .inl ⟨x.toNat, y.toNat, by omega, by omega, by omega, by omega⟩
  · exact .inr (plB_no h)

end Go.Proofs.YteoncpifjifjlaaDoor
