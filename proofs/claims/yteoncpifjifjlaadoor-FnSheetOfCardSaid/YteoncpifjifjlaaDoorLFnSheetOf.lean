/- The law FnSheetOf of the promises: its draw, its walk. -/
import Derived.Test.YteoncpifjifjlaaDoorQf
import Derived.Test.YteoncpifjifjlaaDoorQc
namespace Go.Proofs.YteoncpifjifjlaaDoor
open Go.RowKit
set_option linter.unusedVariables false

/-- a place drawn -/
def PyPost (w : World) (e : Ending) (w' : World) : Prop := ∃ x y : Int, e = .returned (.tuple #[.int .i64 x, .int .i64 y]) ∧ (-1 ≤ x ∧ x ≤ 104) ∧ (-1 ≤ y ∧ y ≤ 104) ∧ Below w.heap.size w w'

set_option maxHeartbeats 1000000 in
theorem draw_DrawSheetOf (v : Value) (n hi : Nat) (w : World) (hv : RdB hi w v n) (hh : hi ≤ w.heap.size) :
    Calls Tryd.prog 25 #[v] w (PyPost w) := by
  have HO := Lib.hid (open_any v n hi w hv hh)
  obtain ⟨ao, cap, cb, off, Z, rfl, _⟩ := hv
  go_enter Tryd.func25, Tryd.ntmps25
  go_wp2_with fail
  refine HO.out.mono ?_
  rintro e w1 ⟨rfl, hr, hb, hs⟩
  have HB := Lib.hid hb
  have HR := Lib.hid hr
  clear hb hr
  go_wp2_with fail
  refine (placeDraw_any w.heap.size 0 w1 HR.out (by omega) (by omega)).mono ?_
  rintro e w2 ⟨x, y, q, rfl, hx, hy, hq, hr2, hc2⟩
  have HB2 := Lib.hid (HB.out.trans (hc2.below (Nat.le_refl _) (by omega)))
  have HZ := Lib.hid hx
  have HZ2 := Lib.hid hy
  clear hc2 hr2 hq hx hy
  go_wp2
  go_ret2
  exact ⟨x, y, rfl, HZ.out, HZ2.out, HB2.out⟩

/-- the law behind its draw, on a place -/
structure SoY (sh fl u : ByteArray) (X Y a r : Int) (m : Nat) (b : Bool) : Prop where
  iso : ∀ W : World, Calls Tryd.prog 26 #[.int .i64 X, .int .i64 Y] W (SbPost sh true W)
  sso : ∀ W : World, Calls Tryd.prog 27 #[.int .i64 X, .int .i64 Y] W (SbPost sh true W)
  sf : ∀ W : World, Calls Tryd.prog 15 #[.string sh] W (XyPost a r true W)
  pn : ∀ W : World, Calls Tryd.prog 28 #[.int .i64 X, .int .i64 Y] W (SbPost fl true W)
  ea : ∀ W : World, Calls Tryd.prog 26 #[.int .i64 (X + 4), .int .i64 Y] W (SbPost u b W)
  be : ∀ W : World, Calls Tryd.prog 19 #[.string sh, .int .i64 1, .int .i64 0] W (SbPost u b W)
  bd : (0 ≤ X ∧ X ≤ 103) ∧ (0 ≤ Y ∧ Y ≤ 103) ∧ (0 ≤ a ∧ a ≤ 100) ∧ (0 ≤ r ∧ r ≤ 100)
  dx : 0 ≤ X - a ∧ X - a < 4
  dy : 0 ≤ Y - r ∧ Y - r < 4
  hs : fl.size = m + 2
  hm : m ≤ 1000
  cut : fl.extract 0 m = sh

theorem soY_or (x y : Int) : (∃ sh fl u a r m b, SoY sh fl u x y a r m b) ∨ ((∀ W : World, Calls Tryd.prog 26 #[.int .i64 x, .int .i64 y] W (SbPost ⟨#[]⟩ false W)) ∧ ∀ W : World, Calls Tryd.prog 27 #[.int .i64 x, .int .i64 y] W (SbPost ⟨#[]⟩ false W)) := by
  rcases pl_or x y with ⟨X, Y, hX, hY, rfl, rfl⟩ | h
  · have hnm : IsNm (nmS (X / 4) (Y / 4)) (X / 4) (Y / 4) := ⟨by omega, by omega, rfl⟩
    have hfs := flS_size X Y
    have hn2 := nmS_size2 (X / 4) (Y / 4)
    have hcut := ((fl_iff hfs X Y).1 rfl).1
    have key : ∃ u b, (∀ W : World, Calls Tryd.prog 26 #[.int .i64 ((X : Int) + 4), .int .i64 Y] W (SbPost u b W)) ∧ ∀ W : World, Calls Tryd.prog 19 #[.string (nmS (X / 4) (Y / 4)), .int .i64 1, .int .i64 0] W (SbPost u b W) := by
      by_cases h4 : X + 4 < 104
      · have e1 : (X + 4) / 4 = X / 4 + 1 := by omega
        have so := fun W : World => implSO_yes (X + 4) Y h4 hY W
        rw [e1] at so
        exact ⟨_, _, so, fun W => implSheetBeside_yes _ (X / 4) (Y / 4) (X / 4 + 1) (Y / 4) 1 0 W hnm (by rw [IntWalk.i64_in _ (by omega)]; rfl) (by rw [IntWalk.i64_in _ (by omega)]; omega) (by omega) (by omega)⟩
      · refine ⟨_, _, implSO_no _ _ (plB_no (fun hk => by have := hk.1; omega)), fun W => implSheetBeside_far _ (X / 4) (Y / 4) 1 0 W hnm (shB2_no (fun hk => ?_))⟩
        have h1 := hk.1
        rw [IntWalk.i64_in _ (by omega)] at h1
        omega
    obtain ⟨u, b, k1, k2⟩ := key
    exact .inl ⟨_, _, u, _, _, _, b, implSO_yes X Y hX hY, fun W => specSheetOf_yes X Y W hX hY, implSF_yes hnm, implPN_yes X Y hX hY, k1, k2, by omega, by omega, by omega, hfs, by omega, hcut⟩
  · exact .inr ⟨implSO_no x y h, fun W => specSheetOf_no x y W h⟩

set_option maxHeartbeats 4000000 in
set_option maxRecDepth 100000 in
theorem law_FnSheetOf (v : Value) (n : Nat) (w : World) (hv : RdB w.heap.size w v n) : Calls Tryd.prog 7 #[v] w (LawPost w) := by
  have HD := Lib.hid (draw_DrawSheetOf v n w.heap.size w hv (Nat.le_refl _))
  obtain ⟨ao, cap, cb, off, Z, rfl, hc1, hc2, _⟩ := hv
  by_cases hn : 1048576 < n
  · have hn' : (1048576 : Int) < n := by omega
    go_enter Tryd.func7, Tryd.ntmps7
    go_wp2
    go_ret
    exact ⟨rfl, Below.refl _ _⟩
  · have hn' : ¬ (1048576 : Int) < n := by omega
    go_enter Tryd.func7, Tryd.ntmps7
    go_wp2_with fail
    refine HD.out.mono ?_
    rintro e w1 ⟨x, y, rfl, hx, hy, hb1⟩
    have HB1 := Lib.hid hb1
    clear hb1 HD
    rcases soY_or x y with hq | ⟨hI, hS⟩
    · obtain ⟨sh, fl, u, a, r, m, b, hy⟩ := hq
      have HY := Lib.hid hy
      obtain ⟨⟨x1, x2⟩, ⟨x3, x4⟩, ⟨x5, x6⟩, ⟨x7, x8⟩⟩ := hy.bd
      obtain ⟨d1, d2⟩ := hy.dx
      obtain ⟨d3, d4⟩ := hy.dy
      have hs := hy.hs
      have hm := hy.hm
      have hcut := hy.cut
      have q1 := seq_yes (a := sh) rfl
      have q2 := seq_yes hcut
      have q3 := seq_yes (a := u) rfl
      have q4' : (b == b) = true := by simp
      have hsub : (fl.size : Int) - 2 = m := by omega
      have hle : (m : Int) ≤ fl.size := by omega
      have hle' : m ≤ fl.size := by omega
      have hm' : (m : Int) ≤ 1000 := by omega
      have hsz : (fl.size : Int) ≤ 1002 := by omega
      clear hy hs hcut hx
      go_wp2_with fail
      refine (HY.out.iso _).mono ?_
      rintro e w2 ⟨rfl, hb⟩
      have HB2 := Lib.hid (HB1.out.trans (hb.mono HB1.out.size))
      clear hb
      go_wp2_with fail
      refine (HY.out.sso _).mono ?_
      rintro e w3 ⟨rfl, hb⟩
      have HB3 := Lib.hid (HB2.out.trans (hb.mono HB2.out.size))
      clear hb
      go_wp2_with fail
      refine (HY.out.sf _).mono ?_
      rintro e w4 ⟨rfl, hb⟩
      have HB4 := Lib.hid (HB3.out.trans (hb.mono HB3.out.size))
      clear hb
      go_wp2_with fail
      refine (HY.out.pn _).mono ?_
      rintro e w5 ⟨rfl, hb⟩
      have HB5 := Lib.hid (HB4.out.trans (hb.mono HB4.out.size))
      clear hb
      go_wp2_with fail
      refine (HY.out.ea _).mono ?_
      rintro e w6 ⟨rfl, hb⟩
      have HB6 := Lib.hid (HB5.out.trans (hb.mono HB5.out.size))
      clear hb
      go_wp2_with fail
      refine (HY.out.be _).mono ?_
      rintro e w7 ⟨rfl, hb⟩
      have HB7 := Lib.hid (HB6.out.trans (hb.mono HB6.out.size))
      clear hb
      go_wp2
      go_ret
      exact ⟨rfl, HB7.out⟩
    · have HI := Lib.hid hI
      have HS := Lib.hid hS
      clear hI hS
      go_wp2_with fail
      refine (HI.out _).mono ?_
      rintro e w2 ⟨rfl, hb⟩
      have HB2 := Lib.hid (HB1.out.trans (hb.mono HB1.out.size))
      clear hb
      go_wp2_with fail
      refine (HS.out _).mono ?_
      rintro e w3 ⟨rfl, hb⟩
      have HB3 := Lib.hid (HB2.out.trans (hb.mono HB2.out.size))
      clear hb
      go_wp2
      go_ret
      exact ⟨rfl, HB3.out⟩

end Go.Proofs.YteoncpifjifjlaaDoor
