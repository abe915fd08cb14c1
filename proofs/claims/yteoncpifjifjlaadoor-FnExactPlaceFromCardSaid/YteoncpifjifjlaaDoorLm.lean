/- PlaceName of the model and of the program; its exact law. -/
import Derived.Test.YteoncpifjifjlaaDoorLt
namespace Go.Proofs.YteoncpifjifjlaaDoor
open Go.RowKit
set_option linter.unusedVariables false

/-- the letters' string, cut -/
theorem abcd_cut (k : Nat) (h : k < 4) : (⟨#[97, 98, 99, 100]⟩ : ByteArray).extract k (k + 1) = ⟨#[ltU k]⟩ := by
  rcases (by omega : k = 0 ∨ k = 1 ∨ k = 2 ∨ k = 3) with rfl | rfl | rfl | rfl
  all_goals kernel_rfl

set_option maxHeartbeats 1000000 in
theorem l7Letter_any (E S : Nat) (w : World) (hE : E < 2) (hS : S < 2) : Calls Tryd.prog 62 #[.int .i64 E, .int .i64 S] w fun e w' => e = .returned (.string ⟨#[ltU (ltN E S)]⟩) ∧ w = w' := by
  have HC := Lib.hid (abcd_cut (ltN E S) (by unfold ltN; omega))
  rcases (by omega : (E = 0 ∨ E = 1)) with rfl | rfl
  all_goals rcases (by omega : (S = 0 ∨ S = 1)) with rfl | rfl
  all_goals go_enter Tryd.func62, Tryd.ntmps62
  all_goals go_wp2
  all_goals go_ret
  all_goals exact ⟨by rw [← HC.out]; rfl, rfl⟩

set_option maxHeartbeats 2000000 in
theorem specPlaceName_yes (X Y : Nat) (w : World) (hX : X < 104) (hY : Y < 104) : Calls Tryd.prog 31 #[.int .i64 X, .int .i64 Y] w (SbPost (flS X Y) true w) := by
  have HS := Lib.hid (specSheetOf_yes X Y w hX hY)
  have HE := Lib.hid (show flS X Y = ⟨(nmL (X / 4) (Y / 4) ++ [ltU (ltA X Y), ltU (ltB X Y)]).toArray⟩ from rfl)
  have H1 := Lib.hid (fun W : World => show Calls Tryd.prog 62 #[.int .i64 ((X / 2 % 2 : Nat) : Int), .int .i64 ((Y / 2 % 2 : Nat) : Int)] W (fun e w' => e = .returned (.string ⟨#[ltU (ltA X Y)]⟩) ∧ W = w') from l7Letter_any (X / 2 % 2) (Y / 2 % 2) W (by omega) (by omega))
  have H2 := Lib.hid (fun W : World => show Calls Tryd.prog 62 #[.int .i64 ((X % 2 : Nat) : Int), .int .i64 ((Y % 2 : Nat) : Int)] W (fun e w' => e = .returned (.string ⟨#[ltU (ltB X Y)]⟩) ∧ W = w') from l7Letter_any (X % 2) (Y % 2) W (by omega) (by omega))
  have q1 : (X : Int).tdiv 2 = ((X / 2 : Nat) : Int) := by rw [Int.tdiv_eq_ediv_of_nonneg (by omega)]; omega
  have q2 : (Y : Int).tdiv 2 = ((Y / 2 : Nat) : Int) := by rw [Int.tdiv_eq_ediv_of_nonneg (by omega)]; omega
  have q3 : IntKind.i64.wrap ((X / 2 : Nat) : Int) = ((X / 2 : Nat) : Int) := IntWalk.i64_in _ (by omega)
  have q4' : IntKind.i64.wrap ((Y / 2 : Nat) : Int) = ((Y / 2 : Nat) : Int) := IntWalk.i64_in _ (by omega)
  have q5 : (((X / 2 : Nat)) : Int).tmod 2 = ((X / 2 % 2 : Nat) : Int) := by rw [Int.tmod_eq_emod_of_nonneg (by omega)]; omega
  have q6 : (((Y / 2 : Nat)) : Int).tmod 2 = ((Y / 2 % 2 : Nat) : Int) := by rw [Int.tmod_eq_emod_of_nonneg (by omega)]; omega
  have q7 : (X : Int).tmod 2 = ((X % 2 : Nat) : Int) := by rw [Int.tmod_eq_emod_of_nonneg (by omega)]; omega
  have q8 : (Y : Int).tmod 2 = ((Y % 2 : Nat) : Int) := by rw [Int.tmod_eq_emod_of_nonneg (by omega)]; omega
  have r1 : IntKind.i64.wrap ((X / 2 % 2 : Nat) : Int) = ((X / 2 % 2 : Nat) : Int) := IntWalk.i64_in _ (by omega)
  have r2 : IntKind.i64.wrap ((Y / 2 % 2 : Nat) : Int) = ((Y / 2 % 2 : Nat) : Int) := IntWalk.i64_in _ (by omega)
  have r3 : IntKind.i64.wrap ((X % 2 : Nat) : Int) = ((X % 2 : Nat) : Int) := IntWalk.i64_in _ (by omega)
  have r4 : IntKind.i64.wrap ((Y % 2 : Nat) : Int) = ((Y % 2 : Nat) : Int) := IntWalk.i64_in _ (by omega)
  have hln := nmL_len (X / 4) (Y / 4)
  have hnm : nmS (X / 4) (Y / 4) = ⟨(nmL (X / 4) (Y / 4)).toArray⟩ := rfl
  rw [hnm] at HS
  generalize ltU (ltA X Y) = a at *
  generalize ltU (ltB X Y) = b at *
  generalize flS X Y = fl at *
  generalize nmL (X / 4) (Y / 4) = N at *
  generalize X / 2 % 2 = x1 at *
  generalize Y / 2 % 2 = y1 at *
  generalize X % 2 = x2 at *
  generalize Y % 2 = y2 at *
  generalize X / 2 = Xh at *
  generalize Y / 2 = Yh at *
  clear hnm
  have add1 : ∀ W : World, (Op.stringOp .add ⟨N.toArray⟩ ⟨#[a]⟩).run Tryd.prog W = .ok (.string ⟨(N ++ [a]).toArray⟩) W := fun W => run_string_add_lists (w := W) _ [_] (by omega) (by simp)
  have add2 : ∀ W : World, (Op.stringOp .add ⟨(N ++ [a]).toArray⟩ ⟨#[b]⟩).run Tryd.prog W = .ok (.string ⟨((N ++ [a]) ++ [b]).toArray⟩) W := fun W => run_string_add_lists (w := W) _ [_] (by simp; omega) (by simp)
  go_enter Tryd.func31, Tryd.ntmps31
  go_wp2_with fail
  refine HS.out.mono ?_
  rintro e w1 ⟨rfl, hb1⟩
  have HB1 := Lib.hid hb1
  clear hb1
  go_wp2_with fail
  refine (H1.out _).mono ?_
  rintro e w2 ⟨rfl, rfl⟩
  go_wp2_with fail
  refine (H2.out _).mono ?_
  rintro e w2 ⟨rfl, rfl⟩
  go_wp2
  go_ret2
  exact ⟨by rw [HE.out]; rfl, HB1.out⟩

theorem specPlaceName_no (x y : Int) (w : World) (h : plB x y = false) : Calls Tryd.prog 31 #[.int .i64 x, .int .i64 y] w (SbPost ⟨#[]⟩ false w) := by
  have HS := Lib.hid (specSheetOf_no x y w h)
  clear h
  go_enter Tryd.func31, Tryd.ntmps31
  go_wp2_with fail
  refine HS.out.mono ?_
  rintro e w1 ⟨rfl, hb1⟩
  have HB1 := Lib.hid hb1
  clear hb1
  go_wp2
  go_ret2
  exact ⟨rfl, HB1.out⟩

set_option maxHeartbeats 4000000 in
theorem fullName_any (X Y : Nat) (w : World) (hX : X < 104) (hY : Y < 104) : Calls Tryd.prog 86 #[.agg #[.int .i64 X, .int .i64 Y]] w (StrPost (flS X Y) w) := by
  have HS := Lib.hid (fun W : World => placeSheet_any X Y W hX hY)
  have HN := Lib.hid (fun W : World => show Calls Tryd.prog 47 #[.agg #[.int .i64 ((X / 4 : Nat) : Int), .int .i64 ((Y / 4 : Nat) : Int)]] W (StrPost ⟨(nmL (X / 4) (Y / 4)).toArray⟩ W) from implName_any (X / 4) (Y / 4) W (q4 hX).2 (q4 hY).2)
  have HL := Lib.hid (fun W : World => letters_any X Y W hX hY)
  have HE := Lib.hid (show flS X Y = ⟨(nmL (X / 4) (Y / 4) ++ [ltU (ltA X Y), ltU (ltB X Y)]).toArray⟩ from rfl)
  have hln := nmL_len (X / 4) (Y / 4)
  generalize ltU (ltA X Y) = a at *
  generalize ltU (ltB X Y) = b at *
  generalize flS X Y = fl at *
  generalize nmL (X / 4) (Y / 4) = N at *
  generalize X / 4 = c at *
  generalize Y / 4 = r at *
  have add1 : ∀ W : World, (Op.stringOp .add ⟨N.toArray⟩ ⟨#[a, b]⟩).run Tryd.prog W = .ok (.string ⟨(N ++ [a, b]).toArray⟩) W := fun W => run_string_add_lists (w := W) _ [_, _] (by omega) (by simp)
  obtain ⟨W0, hW0⟩ : ∃ W0, W0 = w.alloc (.cells #[.int .i64 X, .int .i64 Y] 81) := ⟨_, rfl⟩
  have HB0 := Lib.hid (show Below w.heap.size w W0 by rw [hW0]; exact (Below.refl _ _).alloc (Nat.le_refl _) _)
  have hx0 : W0.heap[w.heap.size]? = some (.cells #[.int .i64 X, .int .i64 Y] 81 (0, 0)) := by rw [hW0]; exact heap_alloc_new w _
  have hlt := lt_of_block hx0
  have HC := Lib.hid (fun (w' : World) (hb : Below W0.heap.size W0 w') => show w'.cell? ⟨w.heap.size, 0, none⟩ = some (.int .i64 X) ∧ w'.cell? ⟨w.heap.size, 1, none⟩ = some (.int .i64 Y) from by
    obtain ⟨h0, h1, _, _⟩ := cellsP ((hb.block _ hlt).trans hx0); exact ⟨h0, h1⟩)
  obtain ⟨c0, c1⟩ := HC.out W0 (Below.refl _ _)
  have hS0 : W0.cell? ⟨w.heap.size, 0, none⟩ = some (.int .i64 X) ∧ W0.cell? ⟨w.heap.size, 1, none⟩ = some (.int .i64 Y) := ⟨c0, c1⟩
  have HW0 := Lib.hid hW0
  clear hW0 hx0
  go_enter Tryd.func86, Tryd.ntmps86
  go_wp2_with fail
  rw [← HW0.out]
  clear HW0
  go_region_held3 (fun w' => w'.cell? ⟨w.heap.size, 0, none⟩ = some (.int .i64 X) ∧ w'.cell? ⟨w.heap.size, 1, none⟩ = some (.int .i64 Y))
    (first | exact s3.out | exact s2.out | exact s1.out | exact hS0 | go_keep)
    (first
      | (go_at_call 98; have hs2 := s2.out; (with_reducible refine (HL.out _).mono ?_); rintro e w4 ⟨rfl, hb4⟩; have X3 := Lib.hid (X2.out.trans (hb4.mono X2.out.size)); have s3 := Lib.hid (HC.out w4 X3.out); clear hb4 hs2)
      | (go_at_call 47; have hs1 := s1.out; (with_reducible refine (HN.out _).mono ?_); rintro e w3 ⟨rfl, hb3⟩; have X2 := Lib.hid (X1.out.trans (hb3.mono X1.out.size)); have s2 := Lib.hid (HC.out w3 X2.out); clear hb3 hs1)
      | (go_at_call 96; (with_reducible refine (HS.out _).mono ?_); rintro e w2 ⟨rfl, hb2⟩; have X1 := Lib.hid (show Below W0.heap.size W0 w2 from hb2.undrew); have s1 := Lib.hid (HC.out w2 X1.out); clear hb2))
  all_goals clear add1
  all_goals go_wp2
  all_goals go_ret
  all_goals exact ⟨by rw [HE.out]; rfl, HB0.out.trans (X3.out.mono (by omega))⟩

set_option maxHeartbeats 2000000 in
theorem nameAt_place (X Y : Nat) (w : World) (hX : X < 104) (hY : Y < 104) : Calls Tryd.prog 59 #[.int .i64 1, .int .i64 X, .int .i64 Y] w (SbPost (flS X Y) true w) := by
  have HV := Lib.hid (fun W : World => placeValid_any X Y W)
  rw [plB_yes (x := X) (y := Y) ⟨⟨by omega, by omega⟩, by omega, by omega⟩] at HV
  have HN := Lib.hid (fun W : World => fullName_any X Y W hX hY)
  have HB := Lib.hid (show Below w.heap.size w (w.alloc (.cells #[.int .i64 X, .int .i64 Y] 81)) from (Below.refl _ _).alloc (Nat.le_refl _) _)
  have HM := Lib.hid (heap_alloc_new w (.cells #[.int .i64 X, .int .i64 Y] 81))
  obtain ⟨l0, l1, _, _⟩ := cellsP HM.out
  have HG := Lib.hid namings_any
  have hg' : ∀ W : World, (Instr.lookup 90 (.map (some W.heap.size)) (.int .i64 1) false).run Tryd.prog (W.alloc (.map #[ngA, ngB] 2)) = .ok (.agg #[.func (.func 86) #[] #[], .func (.func 87) #[] #[]]) (W.alloc (.map #[ngA, ngB] 2)) := fun W => ng_get (W.alloc (.map #[ngA, ngB] 2)) W.heap.size 1 ngB 1 (heap_alloc_new W _) rfl
  have hg2 : ∀ W : World, (Instr.lookup 90 (.map (some W.heap.size)) (.int .i64 1) false).run Tryd.prog (W.alloc (.map #[ngA, ngB] 2)).drew = .ok (.agg #[.func (.func 86) #[] #[], .func (.func 87) #[] #[]]) (W.alloc (.map #[ngA, ngB] 2)).drew := fun W => ng_get (W.alloc (.map #[ngA, ngB] 2)).drew W.heap.size 1 ngB 1 (heap_alloc_new W _) rfl
  have hfd : ∀ W : World, (Instr.field 89 (.agg #[.func (.func 86) #[] #[], .func (.func 87) #[] #[]]) 0).run Tryd.prog W = .ok (.func (.func 86) #[] #[]) W := fun _ => by kernel_rfl
  generalize flS X Y = fl at *
  go_enter Tryd.func59, Tryd.ntmps59
  go_wp2_with fail
  refine (HV.out _).mono ?_
  rintro e w1 ⟨rfl, hb1⟩
  have HB1 := Lib.hid (HB.out.trans (hb1.mono HB.out.size))
  have M1 := (hb1.block w.heap.size (by simp)).trans HM.out
  have M2 := (Below.heap_alloc w1 (.map #[ngA, ngB] 2) w.heap.size (lt_of_block M1)).trans M1
  obtain ⟨k0, k1, _, _⟩ := cellsP M1
  obtain ⟨m0, m1, _, _⟩ := cellsP M2
  have HB9 := Lib.hid (HB1.out.alloc HB1.out.size (.map #[ngA, ngB] 2))
  clear hb1 M1 M2
  go_wp2_with fail
  go_region_with ((first | (go_at_call 70; refine (HG.out _).mono ?_; rintro e w2 ⟨rfl, rfl⟩) | (go_at_call 86; refine (HN.out _).mono ?_; rintro e w3 ⟨rfl, hb3⟩)))
  all_goals clear hg' hg2 hfd
  all_goals go_wp2
  all_goals go_ret2
  all_goals exact ⟨rfl, HB9.out.trans (Below.mono (show Below (w1.alloc (.map #[ngA, ngB] 2)).heap.size (w1.alloc (.map #[ngA, ngB] 2)) _ from hb3.undrew) HB9.out.size)⟩

set_option maxHeartbeats 1000000 in
theorem implPlaceName_any (x y : Int) (s : ByteArray) (b : Bool) (w : World) (hA : ∀ W : World, Calls Tryd.prog 59 #[.int .i64 1, .int .i64 x, .int .i64 y] W (SbPost s b W)) : Calls Tryd.prog 28 #[.int .i64 x, .int .i64 y] w (SbPost s b w) := by
  have HA := Lib.hid (hA w)
  clear hA
  go_enter Tryd.func28, Tryd.ntmps28
  go_wp2_with fail
  refine HA.out.mono ?_
  rintro e w1 ⟨rfl, hb1⟩
  have HB1 := Lib.hid hb1
  clear hb1
  go_wp2
  go_ret2
  exact ⟨rfl, HB1.out⟩

end Go.Proofs.YteoncpifjifjlaaDoor
