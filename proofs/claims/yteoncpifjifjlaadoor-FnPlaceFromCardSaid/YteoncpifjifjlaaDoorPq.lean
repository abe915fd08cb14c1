/- PlaceFrom of the model and of the program; its exact law. -/
import Derived.Test.YteoncpifjifjlaaDoorPn
namespace Go.Proofs.YteoncpifjifjlaaDoor
open Go.RowKit
set_option linter.unusedVariables false

set_option maxHeartbeats 2000000 in
theorem placeNamed_place (s : ByteArray) (x y : Int) (b : Bool) (w : World) (hA : ∀ W : World, Calls Tryd.prog 87 #[.string s] W (PfPost x y b W)) : Calls Tryd.prog 42 #[.int .i64 1, .string s] w (XyPost x y b w) := by
  have HA := Lib.hid hA
  have HN := Lib.hid (namings_any w)
  have HB := Lib.hid (show Below w.heap.size w (w.alloc (.map #[ngA, ngB] 2)) from (Below.refl _ _).alloc (Nat.le_refl _) _)
  have hg := ng_get (w.alloc (.map #[ngA, ngB] 2)) w.heap.size 1 ngB 1 (heap_alloc_new w _) rfl
  have hg' : (Instr.lookup 90 (.map (some w.heap.size)) (.int .i64 1) false).run Tryd.prog (w.alloc (.map #[ngA, ngB] 2)) = .ok (.agg #[.func (.func 86) #[] #[], .func (.func 87) #[] #[]]) (w.alloc (.map #[ngA, ngB] 2)) := hg
  have hfd : ∀ W : World, (Instr.field 89 (.agg #[.func (.func 86) #[] #[], .func (.func 87) #[] #[]]) 1).run Tryd.prog W = .ok (.func (.func 87) #[] #[]) W := fun _ => by kernel_rfl
  clear hA hg
  go_enter Tryd.func42, Tryd.ntmps42
  go_wp2_with fail
  refine HN.out.mono ?_
  rintro e w1 ⟨rfl, rfl⟩
  go_wp2_with fail
  refine (HA.out _).mono ?_
  rintro e w1 ⟨rfl, hb1⟩
  have hb2 := HB.out.trans (hb1.mono HB.out.size)
  have HB1 := Lib.hid (hb2.alloc hb2.size (.cells #[.int .i64 x, .int .i64 y] 81))
  obtain ⟨l0, l1, _, _⟩ := cellsP (heap_alloc_new w1 (.cells #[.int .i64 x, .int .i64 y] 81))
  clear hb1 hb2 hg'
  go_wp2_with fail
  go_quiet (fail)
  go_wp2
  go_ret3
  exact ⟨rfl, below_drewN HB1.out _⟩

set_option maxHeartbeats 1000000 in
theorem implPlaceFrom_any (s : ByteArray) (x y : Int) (b : Bool) (w : World) (hA : ∀ W : World, Calls Tryd.prog 87 #[.string s] W (PfPost x y b W)) : Calls Tryd.prog 17 #[.string s] w (XyPost x y b w) := by
  have HA := Lib.hid (placeNamed_place s x y b w hA)
  clear hA
  go_enter Tryd.func17, Tryd.ntmps17
  go_wp2_with fail
  refine HA.out.mono ?_
  rintro e w1 ⟨rfl, hb1⟩
  have HB1 := Lib.hid hb1
  clear hb1
  go_wp2
  go_ret3
  exact ⟨rfl, HB1.out⟩

set_option maxHeartbeats 1000000 in
theorem specPlaceFrom_short (s : ByteArray) (w : World) (hs : s.size < 4) : Calls Tryd.prog 16 #[.string s] w (XyPost 0 0 false w) := by
  have h2 : (s.size : Int) < 4 := by omega
  go_enter Tryd.func16, Tryd.ntmps16
  go_wp2
  go_ret3
  exact ⟨rfl, Below.refl _ _⟩

set_option maxHeartbeats 2000000 in
theorem specPlaceFrom_head (s : ByteArray) (n : Nat) (w : World) (hs : s.size = n + 2) (h2n : 2 ≤ n) (hz : s.size ≤ 9223372036854775807) (hA : ∀ W : World, Calls Tryd.prog 14 #[.string (s.extract 0 n)] W (XyPost 0 0 false W)) : Calls Tryd.prog 16 #[.string s] w (XyPost 0 0 false w) := by
  have h4 : ¬ (s.size : Int) < 4 := by omega
  have hsub : (s.size : Int) - 2 = n := by omega
  have hn : (n : Int) ≤ 9223372036854775805 := by omega
  have hle : (n : Int) ≤ s.size := by omega
  have hle' : n ≤ s.size := by omega
  have HA := Lib.hid (hA w)
  have HHS := Lib.hid hs
  clear hA hs hz
  go_enter Tryd.func16, Tryd.ntmps16
  go_wp2_with fail
  refine HA.out.mono ?_
  rintro e w1 ⟨rfl, hb1⟩
  have HB1 := Lib.hid hb1
  clear hb1
  go_wp2
  go_loopw [8] (fun i wr => i = .int .i64 0 ∧ wr = w1) (fun _ _ => 0)
  case atStart => exact ⟨rfl, rfl⟩
  case round =>
    obtain ⟨rfl, rfl⟩ := hrel
    go_wp2
    go_ret3
    exact ⟨rfl, HB1.out⟩

set_option maxHeartbeats 4000000 in
theorem specPlaceFrom_none (s : ByteArray) (n x0 y0 : Nat) (w : World) (hs : s.size = n + 2) (h2n : 2 ≤ n) (hz : s.size ≤ 9223372036854775807) (hx0 : x0 ≤ 100) (hy0 : y0 ≤ 100) (hA : ∀ W : World, Calls Tryd.prog 14 #[.string (s.extract 0 n)] W (XyPost x0 y0 true W)) (hno : NoFl s) : Calls Tryd.prog 16 #[.string s] w (XyPost 0 0 false w) := by
  have h4 : ¬ (s.size : Int) < 4 := by omega
  have hsub : (s.size : Int) - 2 = n := by omega
  have hn : (n : Int) ≤ 9223372036854775805 := by omega
  have hle : (n : Int) ≤ s.size := by omega
  have hle' : n ≤ s.size := by omega
  have HA := Lib.hid (hA w)
  have HHS := Lib.hid hs
  have HNO := Lib.hid hno
  clear hA hs hz hno
  go_enter Tryd.func16, Tryd.ntmps16
  go_wp2_with fail
  refine HA.out.mono ?_
  rintro e w1 ⟨rfl, hb1⟩
  have HB1 := Lib.hid hb1
  clear hb1
  go_wp2
  go_loopw [8] (fun i wr => ∃ d : Nat, d ≤ 4 ∧ i = .int .i64 d ∧ Below w.heap.size w wr) (fun i _ => 4 - (intOf i).toNat)
  case atStart => exact ⟨0, by omega, rfl, HB1.out⟩
  case round =>
    obtain ⟨d, hd, rfl, hb⟩ := hrel
    have HB := Lib.hid hb
    clear hb
    by_cases hlt : d < 4
    · have hlt' : (d : Int) < 4 := by omega
      go_wp2
      go_loopw [9] (fun i wr => ∃ c : Nat, c ≤ 4 ∧ i = .int .i64 c ∧ Below w.heap.size w wr) (fun i _ => 4 - (intOf i).toNat)
      case atStart => exact ⟨0, by omega, rfl, HB.out⟩
      case round =>
        obtain ⟨c, hc, rfl, hb⟩ := hrel
        have HB2 := Lib.hid hb
        clear hb
        by_cases hlc : c < 4
        · have hlc' : (c : Int) < 4 := by omega
          have hne := seq_no (fun e => HNO.out (x0 + c) (y0 + d) (by omega) (by omega) e.symm : flS (x0 + c) (y0 + d) ≠ s)
          have HD := Lib.hid (fun W : World => show Calls Tryd.prog 31 #[.int .i64 ((x0 : Int) + c), .int .i64 ((y0 : Int) + d)] W (SbPost (flS (x0 + c) (y0 + d)) true W) from specPlaceName_yes (x0 + c) (y0 + d) W (by omega) (by omega))
          generalize flS (x0 + c) (y0 + d) = fl at *
          go_wp2_with fail
          refine (HD.out _).mono ?_
          rintro e w2 ⟨rfl, hb2⟩
          have HB3 := Lib.hid (HB2.out.trans (hb2.mono HB2.out.size))
          clear hb2
          go_wp2
          go_roundw
          case rel => exact ⟨c + 1, by omega, by go_num, HB3.out⟩
          case measure => simp [intOf]; omega
        · have ec : c = 4 := by omega
          subst ec
          go_wp2
          go_roundw
          case rel => exact ⟨d + 1, by omega, by go_num, HB2.out⟩
          case measure => simp [intOf]; omega
    · have e : d = 4 := by omega
      subst e
      go_wp2
      go_ret3
      exact ⟨rfl, HB.out⟩

set_option maxHeartbeats 4000000 in
theorem specPlaceFrom_yes (s : ByteArray) (n x0 y0 X Y : Nat) (w : World) (hs : s.size = n + 2) (h2n : 2 ≤ n) (hz : s.size ≤ 9223372036854775807) (hx0 : x0 ≤ 100) (hy0 : y0 ≤ 100) (hX : x0 ≤ X) (hX2 : X < x0 + 4) (hY : y0 ≤ Y) (hY2 : Y < y0 + 4) (hA : ∀ W : World, Calls Tryd.prog 14 #[.string (s.extract 0 n)] W (XyPost x0 y0 true W)) (hfl : s = flS X Y) : Calls Tryd.prog 16 #[.string s] w (XyPost X Y true w) := by
  have h4 : ¬ (s.size : Int) < 4 := by omega
  have hsub : (s.size : Int) - 2 = n := by omega
  have hn : (n : Int) ≤ 9223372036854775805 := by omega
  have hle : (n : Int) ≤ s.size := by omega
  have hle' : n ≤ s.size := by omega
  have HA := Lib.hid (hA w)
  have HHS := Lib.hid hs
  have HFL := Lib.hid hfl
  clear hA hs hz hfl
  go_enter Tryd.func16, Tryd.ntmps16
  go_wp2_with fail
  refine HA.out.mono ?_
  rintro e w1 ⟨rfl, hb1⟩
  have HB1 := Lib.hid hb1
  clear hb1
  go_wp2
  go_loopw [8] (fun i wr => ∃ d : Nat, y0 + d ≤ Y ∧ i = .int .i64 d ∧ Below w.heap.size w wr) (fun i _ => 4 - (intOf i).toNat)
  case atStart => exact ⟨0, by omega, rfl, HB1.out⟩
  case round =>
    obtain ⟨d, hd, rfl, hb⟩ := hrel
    have HB := Lib.hid hb
    clear hb
    have hlt' : (d : Int) < 4 := by omega
    go_wp2
    go_loopw [9] (fun i wr => ∃ c : Nat, c ≤ 4 ∧ (y0 + d = Y → x0 + c ≤ X) ∧ i = .int .i64 c ∧ Below w.heap.size w wr) (fun i _ => 4 - (intOf i).toNat)
    case atStart => exact ⟨0, by omega, by omega, rfl, HB.out⟩
    case round =>
      obtain ⟨c, hc, hcx, rfl, hb⟩ := hrel
      have HB2 := Lib.hid hb
      clear hb
      by_cases hlc : c < 4
      · have hlc' : (c : Int) < 4 := by omega
        have HD := Lib.hid (fun W : World => show Calls Tryd.prog 31 #[.int .i64 ((x0 : Int) + c), .int .i64 ((y0 : Int) + d)] W (SbPost (flS (x0 + c) (y0 + d)) true W) from specPlaceName_yes (x0 + c) (y0 + d) W (by omega) (by omega))
        by_cases hm : x0 + c = X ∧ y0 + d = Y
        · have heq := seq_yes (a := flS (x0 + c) (y0 + d)) (b := s) (by rw [hm.1, hm.2]; exact HFL.out.symm)
          have HM := Lib.hid hm
          generalize flS (x0 + c) (y0 + d) = fl at *
          clear hcx hm
          go_wp2_with fail
          refine (HD.out _).mono ?_
          rintro e w2 ⟨rfl, hb2⟩
          have HB3 := Lib.hid (HB2.out.trans (hb2.mono HB2.out.size))
          clear hb2
          go_wp2
          go_ret3
          obtain ⟨rfl, rfl⟩ := HM.out
          exact ⟨rfl, HB3.out⟩
        · have hne := seq_no (fun e => hm (flS_inj (by omega) (by omega) (by omega) (by omega) (e.trans HFL.out)) : flS (x0 + c) (y0 + d) ≠ s)
          have HCX := Lib.hid hcx
          have HM := Lib.hid hm
          generalize flS (x0 + c) (y0 + d) = fl at *
          clear hcx hm
          go_wp2_with fail
          refine (HD.out _).mono ?_
          rintro e w2 ⟨rfl, hb2⟩
          have HB3 := Lib.hid (HB2.out.trans (hb2.mono HB2.out.size))
          clear hb2
          go_wp2
          go_roundw
          case rel => exact ⟨c + 1, by omega, (by have h1 := HM.out; have h2 := HCX.out; omega), by go_num, HB3.out⟩
          case measure => simp [intOf]; omega
      · have ec : c = 4 := by omega
        subst ec
        have hdy : y0 + (d + 1) ≤ Y := by
          by_cases h : y0 + d = Y
          · have := hcx h; omega
          · omega
        clear hcx
        go_wp2
        go_roundw
        case rel => exact ⟨d + 1, hdy, by go_num, HB2.out⟩
        case measure => simp [intOf]; omega

set_option maxHeartbeats 1000000 in
theorem law_PlaceFrom (s : ByteArray) (x y : Int) (b : Bool) (w : World) (hs : s.size ≤ 9223372036854775807) (hS : ∀ W : World, Calls Tryd.prog 16 #[.string s] W (XyPost x y b W)) (hI : ∀ W : World, Calls Tryd.prog 17 #[.string s] W (XyPost x y b W)) :
    Calls Tryd.prog 4 #[.string s] w (LawPost w) := by
  have HS := Lib.hid hS
  have HI := Lib.hid hI
  have hx : (x != x) = false := by simp
  have hy : (y != y) = false := by simp
  have hbb : (b != b) = false := by simp
  clear hS hI
  by_cases h1 : (1048576 : Int) < s.size
  · go_enter Tryd.func4, Tryd.ntmps4
    go_wp2
    go_ret
    exact ⟨rfl, Below.refl _ _⟩
  · go_enter Tryd.func4, Tryd.ntmps4
    go_wp2_with fail
    refine (HS.out _).mono ?_
    rintro e w1 ⟨rfl, hb1⟩
    have HB1 := Lib.hid hb1
    clear hb1
    go_wp2_with fail
    refine (HI.out _).mono ?_
    rintro e w2 ⟨rfl, hb2⟩
    have HB2 := Lib.hid (HB1.out.trans (hb2.mono HB1.out.size))
    clear hb2
    go_wp2
    go_ret
    exact ⟨rfl, HB2.out⟩

theorem all_FnExactPlaceFrom (s : ByteArray) (w : World) (hs : s.size ≤ 9223372036854775807) :
    Calls Tryd.prog 4 #[.string s] w (LawPost w) := by
  by_cases h4 : s.size < 4
  · refine law_PlaceFrom s 0 0 false w hs (fun W => specPlaceFrom_short s W h4) (fun W => implPlaceFrom_any s _ _ false W (fun W => ?_))
    by_cases h2 : s.size < 2
    · exact placeFrom_short s W h2
    · obtain ⟨n, hn⟩ : ∃ n, s.size = n + 2 := ⟨s.size - 2, by omega⟩
      have hz : (s.extract 0 n).size = n := by simp; omega
      exact placeFrom_head s n W hn hs (fun W => cornerFrom_no _ W (fun W => sheetFrom_no _ W (by omega) (nm_no_short (by omega))))
  · obtain ⟨n, hn⟩ : ∃ n, s.size = n + 2 := ⟨s.size - 2, by omega⟩
    have hz : (s.extract 0 n).size = n := by simp; omega
    rcases nm_or (s.extract 0 n) with ⟨c, r, h⟩ | h
    · have hA : ∀ W : World, Calls Tryd.prog 14 #[.string (s.extract 0 n)] W (XyPost ((c * 4 : Nat) : Int) ((r * 4 : Nat) : Int) true W) := fun W => specSheetFrom_any _ c r true W h.1 h.2.1 (fun W => l7Find_yes _ c r W h)
      have hC := fun W : World => cornerFrom_yes (s.extract 0 n) c r W h
      have hc := h.1
      have hr := h.2.1
      obtain ⟨t, ht⟩ : ∃ t, s.extract n s.size = t := ⟨_, rfl⟩
      have ts : t.size = 2 := by rw [← ht]; simp; omega
      have t0 : (t[0]'(by omega)).toNat = (s[n]'(by omega)).toNat := by subst ht; rw [ByteArray.getElem_extract]; rfl
      have t1 : (t[1]'(by omega)).toNat = (s[n + 1]'(by omega)).toNat := by subst ht; rw [ByteArray.getElem_extract]
      by_cases ha : Lq (s[n]'(by omega)).toNat
      · by_cases hb : Lq (s[n + 1]'(by omega)).toNat
        · obtain ⟨X, Y, hf, ex, ey⟩ := fl_of hn h _ _ rfl rfl ha hb
          have g := fl_head hf
          have e4 : X / 4 = c ∧ Y / 4 = r := by
            have := ((fl_iff hn X Y).1 hf.2.2).1
            have e9 := nmS_inj (by have := hf.1; omega) (by have := hf.2.1; omega) hc hr (this.symm.trans h.2.2)
            exact e9
          refine law_PlaceFrom s X Y true w hs (fun W => specPlaceFrom_yes s n (c * 4) (r * 4) X Y W hn (by omega) hs (by omega) (by omega) (by omega) (by omega) (by omega) (by omega) hA hf.2.2) (fun W => implPlaceFrom_any s _ _ true W (fun W => placeFrom_tail s n _ _ _ _ true W hn hs hC (fun W => ?_)))
          rw [ht, ← ex, ← ey]
          exact within_yes _ _ t _ _ W ts t0 t1 (by omega) (by omega) (by omega) (by omega) ha hb
        · refine law_PlaceFrom s 0 0 false w hs (fun W => specPlaceFrom_none s n (c * 4) (r * 4) W hn (by omega) hs (by omega) (by omega) hA (fl_no_letter hn (.inr hb))) (fun W => implPlaceFrom_any s _ _ false W (fun W => placeFrom_tail s n _ _ _ _ false W hn hs hC (fun W => ?_)))
          rw [ht]
          exact within_noB _ _ t _ _ W ts t0 t1 (by omega) (by omega) (by omega) (by omega) ha hb
      · refine law_PlaceFrom s 0 0 false w hs (fun W => specPlaceFrom_none s n (c * 4) (r * 4) W hn (by omega) hs (by omega) (by omega) hA (fl_no_letter hn (.inl ha))) (fun W => implPlaceFrom_any s _ _ false W (fun W => placeFrom_tail s n _ _ _ _ false W hn hs hC (fun W => ?_)))
        rw [ht]
        exact within_noA _ _ t _ _ W ts t0 t1 (by omega) (by omega) (by omega) (by omega) ha
    · exact law_PlaceFrom s 0 0 false w hs (fun W => specPlaceFrom_head s n W hn (by omega) hs (fun W => specSheetFrom_any _ 0 0 false W (by omega) (by omega) (fun W => l7Find_no _ W h))) (fun W => implPlaceFrom_any s _ _ false W (fun W => placeFrom_head s n W hn hs (fun W => cornerFrom_no _ W (fun W => sheetFrom_no _ W (by omega) h))))

end Go.Proofs.YteoncpifjifjlaaDoor
