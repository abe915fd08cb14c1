/- PlaceFrom of the model and of the program; its exact law. -/
import Derived.Test.YtilibhjibcndoaaDoorPn
namespace Go.Proofs.YtilibhjibcndoaaDoor
open Go.RowKit
set_option linter.unusedVariables false

set_option maxHeartbeats 2000000 in
theorem placeNamed_place (s : ByteArray) (x y : Int) (b : Bool) (w : World) (hA : ∀ W : World, Calls Tryd.prog 67 #[.string s] W (PfPost x y b W)) : Calls Tryd.prog 42 #[.int .i64 1, .string s] w (XyPost x y b w) := by
  have HA := Lib.hid hA
  have HN := Lib.hid (namings_any w)
  have HB := Lib.hid (show Below w.heap.size w (w.alloc (.map #[ngA, ngB] 2)) from (Below.refl _ _).alloc (Nat.le_refl _) _)
  have hg := ng_get (w.alloc (.map #[ngA, ngB] 2)) w.heap.size 1 ngB 1 (heap_alloc_new w _) rfl
  have hg' : (Instr.lookup 76 (.map (some w.heap.size)) (.int .i64 1) false).run Tryd.prog (w.alloc (.map #[ngA, ngB] 2)) = .ok (.agg #[.func (.func 66) #[] #[], .func (.func 67) #[] #[]]) (w.alloc (.map #[ngA, ngB] 2)) := hg
  have hfd : ∀ W : World, (Instr.field 75 (.agg #[.func (.func 66) #[] #[], .func (.func 67) #[] #[]]) 1).run Tryd.prog W = .ok (.func (.func 67) #[] #[]) W := fun _ => by kernel_rfl
  clear hA hg
  go_enter Tryd.func42, Tryd.ntmps42
  go_wp2_with fail
  refine HN.out.mono ?_
  rintro e w1 ⟨rfl, rfl⟩
  go_wp2_with fail
  refine (HA.out _).mono ?_
  rintro e w1 ⟨rfl, hb1⟩
  have hb2 := HB.out.trans (hb1.mono HB.out.size)
  have HB1 := Lib.hid (hb2.alloc hb2.size (.cells #[.int .i64 x, .int .i64 y] 65))
  obtain ⟨l0, l1, _, _⟩ := cellsP (heap_alloc_new w1 (.cells #[.int .i64 x, .int .i64 y] 65))
  clear hb1 hb2 hg'
  go_wp2_with fail
  go_quiet (fail)
  go_wp2
  go_ret3
  exact ⟨rfl, below_drewN HB1.out _⟩

set_option maxHeartbeats 1000000 in
theorem implPlaceFrom_any (s : ByteArray) (x y : Int) (b : Bool) (w : World) (hA : ∀ W : World, Calls Tryd.prog 67 #[.string s] W (PfPost x y b W)) : Calls Tryd.prog 21 #[.string s] w (XyPost x y b w) := by
  have HA := Lib.hid (placeNamed_place s x y b w hA)
  clear hA
  go_enter Tryd.func21, Tryd.ntmps21
  go_wp2_with fail
  refine HA.out.mono ?_
  rintro e w1 ⟨rfl, hb1⟩
  have HB1 := Lib.hid hb1
  clear hb1
  go_wp2
  go_ret3
  exact ⟨rfl, HB1.out⟩

set_option maxHeartbeats 1000000 in
theorem specPlaceFrom_short (s : ByteArray) (w : World) (hs : s.size < 4) : Calls Tryd.prog 23 #[.string s] w (XyPost 0 0 false w) := by
  have h2 : (s.size : Int) < 4 := by omega
  go_enter Tryd.func23, Tryd.ntmps23
  go_wp2
  go_ret3
  exact ⟨rfl, Below.refl _ _⟩

set_option maxHeartbeats 2000000 in
theorem specPlaceFrom_head (s : ByteArray) (n : Nat) (w : World) (hs : s.size = n + 2) (h2n : 2 ≤ n) (hz : s.size ≤ 9223372036854775807) (hA : ∀ W : World, Calls Tryd.prog 18 #[.string (s.extract 0 n)] W (XyPost 0 0 false W)) : Calls Tryd.prog 23 #[.string s] w (XyPost 0 0 false w) := by
  have h4 : ¬ (s.size : Int) < 4 := by omega
  have hsub : (s.size : Int) - 2 = n := by omega
  have hn : (n : Int) ≤ 9223372036854775805 := by omega
  have hle : (n : Int) ≤ s.size := by omega
  have hle' : n ≤ s.size := by omega
  have HA := Lib.hid (hA w)
  have HHS := Lib.hid hs
  clear hA hs hz
  go_enter Tryd.func23, Tryd.ntmps23
  go_wp2_with fail
  refine HA.out.mono ?_
  rintro e w1 ⟨rfl, hb1⟩
  have HB1 := Lib.hid hb1
  clear hb1
  go_wp2
  go_loopw [8] (fun i wr => i = .int .i64 0 ∧ wr = w1) (fun _ _ => 0)
  case atStart => exact ⟨rfl, rfl⟩
  case round =>
    obtain ⟨rfl, rfl⟩ := hrel
    go_wp2
    go_ret3
    exact ⟨rfl, HB1.out⟩

set_option maxHeartbeats 4000000 in
theorem specPlaceFrom_none (s : ByteArray) (n x0 y0 : Nat) (w : World) (hs : s.size = n + 2) (h2n : 2 ≤ n) (hz : s.size ≤ 9223372036854775807) (hx0 : x0 ≤ 100) (hy0 : y0 ≤ 100) (hA : ∀ W : World, Calls Tryd.prog 18 #[.string (s.extract 0 n)] W (XyPost x0 y0 true W)) (hno : NoFl s) : Calls Tryd.prog 23 #[.string s] w (XyPost 0 0 false w) := by
  have h4 : ¬ (s.size : Int) < 4 := by omega
  have hsub : (s.size : Int) - 2 = n := by omega
  have hn : (n : Int) ≤ 9223372036854775805 := by omega
  have hle : (n : Int) ≤ s.size := by omega
  have hle' : n ≤ s.size := by omega
  have HA := Lib.hid (hA w)
  have HHS := Lib.hid hs
  have HNO := Lib.hid hno
  clear hA hs hz hno
  go_enter Tryd.func23, Tryd.ntmps23
  go_wp2_with fail
  refine HA.out.mono ?_
  rintro e w1 ⟨rfl, hb1⟩
  have HB1 := Lib.hid hb1
  clear hb1
  go_wp2
  go_loopw [8] (fun i wr => ∃ d : Nat, d ≤ 4 ∧ i = .int .i64 d ∧ Below w.heap.size w wr) (fun i _ => 4 - (intOf i).toNat)
  case atStart => exact ⟨0, by omega, rfl, HB1.out⟩
  case round =>
    obtain ⟨d, hd, rfl, hb⟩ := hrel
    have HB := Lib.hid hb
    clear hb
    by_cases hlt : d < 4
    · have hlt' : (d : Int) < 4 := by omega
      go_wp2
      go_loopw [9] (fun i wr => ∃ c : Nat, c ≤ 4 ∧ i = .int .i64 c ∧ Below w.heap.size w wr) (fun i _ => 4 - (intOf i).toNat)
      case atStart => exact ⟨0, by omega, rfl, HB.out⟩
      case round =>
        obtain ⟨c, hc, rfl, hb⟩ := hrel
        have HB2 := Lib.hid hb
        clear hb
        by_cases hlc : c < 4
        · have hlc' : (c : Int) < 4 := by omega
          have hne := seq_no (fun e => HNO.out (x0 + c) (y0 + d) (by omega) (by omega) e.symm : flS (x0 + c) (y0 + d) ≠ s)
          have HD := Lib.hid (fun W : World => show Calls Tryd.prog 20 #[.int .i64 ((x0 : Int) + c), .int .i64 ((y0 : Int) + d)] W (SbPost (flS (x0 + c) (y0 + d)) true W) from specPlaceName_yes (x0 + c) (y0 + d) W (by omega) (by omega))
          generalize flS (x0 + c) (y0 + d) = fl at *
          go_wp2_with fail
          refine (HD.out _).mono ?_
          rintro e w2 ⟨rfl, hb2⟩
          have HB3 := Lib.hid (HB2.out.trans (hb2.mono HB2.out.size))
          clear hb2
          go_wp2
          go_roundw
          case rel => exact ⟨c + 1, by omega, by go_num, HB3.out⟩
          case measure => simp [intOf]; omega
        · have ec : c = 4 := by omega
          subst ec
          go_wp2
          go_roundw
          case rel => exact ⟨d + 1, by omega, by go_num, HB2.out⟩
          case measure => simp [intOf]; omega
    · have e : d = 4 := by omega
      subst e
      go_wp2
      go_ret3
      exact ⟨rfl, HB.out⟩

set_option maxHeartbeats 4000000 in
theorem specPlaceFrom_yes (s : ByteArray) (n x0 y0 X Y : Nat) (w : World) (hs : s.size = n + 2) (h2n : 2 ≤ n) (hz : s.size ≤ 9223372036854775807) (hx0 : x0 ≤ 100) (hy0 : y0 ≤ 100) (hX : x0 ≤ X) (hX2 : X < x0 + 4) (hY : y0 ≤ Y) (hY2 : Y < y0 + 4) (hA : ∀ W : World, Calls Tryd.prog 18 #[.string (s.extract 0 n)] W (XyPost x0 y0 true W)) (hfl : s = flS X Y) : Calls Tryd.prog 23 #[.string s] w (XyPost X Y true w) := by
  have h4 : ¬ (s.size : Int) < 4 := by omega
  have hsub : (s.size : Int) - 2 = n := by omega
  have hn : (n : Int) ≤ 9223372036854775805 := by omega
  have hle : (n : Int) ≤ s.size := by omega
  have hle' : n ≤ s.size := by omega
  have HA := Lib.hid (hA w)
  have HHS := Lib.hid hs
  have HFL := Lib.hid hfl
  clear hA hs hz hfl
  go_enter Tryd.func23, Tryd.ntmps23
  go_wp2_with fail
  refine HA.out.mono ?_
  rintro e w1 ⟨rfl, hb1⟩
  have HB1 := Lib.hid hb1
  clear hb1
  go_wp2
  go_loopw [8] (fun i wr => ∃ d : Nat, y0 + d ≤ Y ∧ i = .int .i64 d ∧ Below w.heap.size w wr) (fun i _ => 4 - (intOf i).toNat)
  case atStart => exact ⟨0, by omega, rfl, HB1.out⟩
  case round =>
    obtain ⟨d, hd, rfl, hb⟩ := hrel
    have HB := Lib.hid hb
    clear hb
    have hlt' : (d : Int) < 4 := by omega
    go_wp2
    go_loopw [9] (fun i wr => ∃ c : Nat, c ≤ 4 ∧ (y0 + d = Y → x0 + c ≤ X) ∧ i = .int .i64 c ∧ Below w.heap.size w wr) (fun i _ => 4 - (intOf i).toNat)
    case atStart => exact ⟨0, by omega, by omega, rfl, HB.out⟩
    case round =>
      obtain ⟨c, hc, hcx, rfl, hb⟩ := hrel
      have HB2 := Lib.hid hb
      clear hb
      by_cases hlc : c < 4
      · have hlc' : (c : Int) < 4 := by omega
        have HD := Lib.hid (fun W : World => show Calls Tryd.prog 20 #[.int .i64 ((x0 : Int) + c), .int .i64 ((y0 : Int) + d)] W (SbPost (flS (x0 + c) (y0 + d)) true W) from specPlaceName_yes (x0 + c) (y0 + d) W (by omega) (by omega))
        by_cases hm : x0 + c = X ∧ y0 + d = Y
        · have heq := seq_yes (a := flS (x0 + c) (y0 + d)) (b := s) (by rw [hm.1, hm.2]; exact HFL.out.symm)
          have HM := Lib.hid hm
          generalize flS (x0 + c) (y0 + d) = fl at *
          clear hcx hm
          go_wp2_with fail
          refine (HD.out _).mono ?_
          rintro e w2 ⟨rfl, hb2⟩
          have HB3 := Lib.hid (HB2.out.trans (hb2.mono HB2.out.size))
          clear hb2
          go_wp2
          go_ret3
          obtain ⟨rfl, rfl⟩ := HM.out
          exact ⟨rfl, HB3.out⟩
        · have hne := seq_no (fun e => hm (flS_inj (by omega) (by omega) (by omega) (by omega) (e.trans HFL.out)) : flS (x0 + c) (y0 + d) ≠ s)
          have HCX := Lib.hid hcx
          have HM := Lib.hid hm
          generalize flS (x0 + c) (y0 + d) = fl at *
          clear hcx hm
          go_wp2_with fail
          refine (HD.out _).mono ?_
          rintro e w2 ⟨rfl, hb2⟩
          have HB3 := Lib.hid (HB2.out.trans (hb2.mono HB2.out.size))
          clear hb2
          go_wp2
          go_roundw
          case rel => exact ⟨c + 1, by omega, (by have h1 := HM.out; have h2 := HCX.out; omega), by go_num, HB3.out⟩
          case measure => simp [intOf]; omega
      · have ec : c = 4 := by omega
        subst ec
        have hdy : y0 + (d + 1) ≤ Y := by
          by_cases h : y0 + d = Y
          · have := hcx h; omega
          · omega
        clear hcx
        go_wp2
        go_roundw
        case rel => exact ⟨d + 1, hdy, by go_num, HB2.out⟩
        case measure => simp [intOf]; omega

end Go.Proofs.YtilibhjibcndoaaDoor
