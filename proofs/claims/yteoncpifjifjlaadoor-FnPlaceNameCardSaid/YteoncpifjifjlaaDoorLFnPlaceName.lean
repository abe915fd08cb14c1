/- The law FnPlaceName of the promises: its draw, its walk. -/
import Derived.Test.YteoncpifjifjlaaDoorQf
import Derived.Test.YteoncpifjifjlaaDoorQc
namespace Go.Proofs.YteoncpifjifjlaaDoor
open Go.RowKit
set_option linter.unusedVariables false

/-- a place drawn -/
def PyPost (w : World) (e : Ending) (w' : World) : Prop := ∃ x y : Int, e = .returned (.tuple #[.int .i64 x, .int .i64 y]) ∧ (-1 ≤ x ∧ x ≤ 104) ∧ (-1 ≤ y ∧ y ≤ 104) ∧ Below w.heap.size w w'

set_option maxHeartbeats 1000000 in
theorem draw_DrawPlaceName (v : Value) (n hi : Nat) (w : World) (hv : RdB hi w v n) (hh : hi ≤ w.heap.size) :
    Calls Tryd.prog 30 #[v] w (PyPost w) := by
  have HO := Lib.hid (open_any v n hi w hv hh)
  obtain ⟨ao, cap, cb, off, Z, rfl, _⟩ := hv
  go_enter Tryd.func30, Tryd.ntmps30
  go_wp2_with fail
  refine HO.out.mono ?_
  rintro e w1 ⟨rfl, hr, hb, hs⟩
  have HB := Lib.hid hb
  have HR := Lib.hid hr
  clear hb hr
  go_wp2_with fail
  refine (placeDraw_any w.heap.size 0 w1 HR.out (by omega) (by omega)).mono ?_
  rintro e w2 ⟨x, y, q, rfl, hx, hy, hq, hr2, hc2⟩
  have HB2 := Lib.hid (HB.out.trans (hc2.below (Nat.le_refl _) (by omega)))
  have HZ := Lib.hid hx
  have HZ2 := Lib.hid hy
  clear hc2 hr2 hq hx hy
  go_wp2
  go_ret2
  exact ⟨x, y, rfl, HZ.out, HZ2.out, HB2.out⟩

/-- the law behind its draw, on a place -/
structure PnY (sh fl u : ByteArray) (X Y : Int) (b : Bool) : Prop where
  ipn : ∀ W : World, Calls Tryd.prog 28 #[.int .i64 X, .int .i64 Y] W (SbPost fl true W)
  spn : ∀ W : World, Calls Tryd.prog 31 #[.int .i64 X, .int .i64 Y] W (SbPost fl true W)
  pf : ∀ W : World, Calls Tryd.prog 17 #[.string fl] W (XyPost X Y true W)
  so : ∀ W : World, Calls Tryd.prog 26 #[.int .i64 X, .int .i64 Y] W (SbPost sh true W)
  ea : ∀ W : World, Calls Tryd.prog 28 #[.int .i64 (X + 1), .int .i64 Y] W (SbPost u b W)
  bd : (0 ≤ X ∧ X ≤ 103) ∧ (0 ≤ Y ∧ Y ≤ 103)
  hs : fl.size = sh.size + 2
  hm : sh.size ≤ 1000
  ne : b = false ∨ b = true ∧ u ≠ fl

theorem pnY_or (x y : Int) : (∃ sh fl u b, PnY sh fl u x y b) ∨ ((∀ W : World, Calls Tryd.prog 28 #[.int .i64 x, .int .i64 y] W (SbPost ⟨#[]⟩ false W)) ∧ ∀ W : World, Calls Tryd.prog 31 #[.int .i64 x, .int .i64 y] W (SbPost ⟨#[]⟩ false W)) := by
  rcases pl_or x y with ⟨X, Y, hX, hY, rfl, rfl⟩ | h
  · have hfs := flS_size X Y
    have hn2 := nmS_size2 (X / 4) (Y / 4)
    have key : ∃ u b, (∀ W : World, Calls Tryd.prog 28 #[.int .i64 ((X : Int) + 1), .int .i64 Y] W (SbPost u b W)) ∧ (b = false ∨ b = true ∧ u ≠ flS X Y) := by
      by_cases h4 : X + 1 < 104
      · exact ⟨_, _, fun W => implPN_yes (X + 1) Y h4 hY W, .inr ⟨rfl, fun e => by have := flS_inj h4 hY hX hY e; omega⟩⟩
      · exact ⟨_, _, implPN_no _ _ (plB_no (fun hk => by have := hk.1; omega)), .inl rfl⟩
    obtain ⟨u, b, k1, k2⟩ := key
    exact .inl ⟨nmS (X / 4) (Y / 4), flS X Y, u, b, implPN_yes X Y hX hY, fun W => specPlaceName_yes X Y W hX hY, implPF_yes (by omega) ⟨hX, hY, rfl⟩, implSO_yes X Y hX hY, k1, by omega, hfs, by omega, k2⟩
  · exact .inr ⟨implPN_no x y h, fun W => specPlaceName_no x y W h⟩

set_option maxHeartbeats 4000000 in
set_option maxRecDepth 100000 in
theorem law_FnPlaceName (v : Value) (n : Nat) (w : World) (hv : RdB w.heap.size w v n) : Calls Tryd.prog 9 #[v] w (LawPost w) := by
  have HD := Lib.hid (draw_DrawPlaceName v n w.heap.size w hv (Nat.le_refl _))
  obtain ⟨ao, cap, cb, off, Z, rfl, hc1, hc2, _⟩ := hv
  by_cases hn : 1048576 < n
  · have hn' : (1048576 : Int) < n := by omega
    go_enter Tryd.func9, Tryd.ntmps9
    go_wp2
    go_ret
    exact ⟨rfl, Below.refl _ _⟩
  · have hn' : ¬ (1048576 : Int) < n := by omega
    go_enter Tryd.func9, Tryd.ntmps9
    go_wp2_with fail
    refine HD.out.mono ?_
    rintro e w1 ⟨x, y, rfl, hx, hy, hb1⟩
    have HB1 := Lib.hid hb1
    clear hb1 HD
    rcases pnY_or x y with hq | ⟨hI, hS⟩
    · obtain ⟨sh, fl, u, b, hy⟩ := hq
      have HY := Lib.hid hy
      obtain ⟨⟨x1, x2⟩, ⟨x3, x4⟩⟩ := hy.bd
      have hs := hy.hs
      have hm := hy.hm
      have q1 := seq_yes (a := fl) rfl
      have q3 : (x == x) = true := by simp
      have q4' : (y == y) = true := by simp
      have hsz : (sh.size : Int) ≤ 1000 := by omega
      have hlen : ((fl.size : Int) == (sh.size : Int) + 2) = true := by rw [beq_iff_eq]; omega
      clear hy hs hx
      go_wp2_with fail
      refine (HY.out.ipn _).mono ?_
      rintro e w2 ⟨rfl, hb⟩
      have HB2 := Lib.hid (HB1.out.trans (hb.mono HB1.out.size))
      clear hb
      go_wp2_with fail
      refine (HY.out.spn _).mono ?_
      rintro e w3 ⟨rfl, hb⟩
      have HB3 := Lib.hid (HB2.out.trans (hb.mono HB2.out.size))
      clear hb
      go_wp2_with fail
      refine (HY.out.pf _).mono ?_
      rintro e w4 ⟨rfl, hb⟩
      have HB4 := Lib.hid (HB3.out.trans (hb.mono HB3.out.size))
      clear hb
      go_wp2_with fail
      refine (HY.out.so _).mono ?_
      rintro e w5 ⟨rfl, hb⟩
      have HB5 := Lib.hid (HB4.out.trans (hb.mono HB4.out.size))
      clear hb
      go_wp2_with fail
      refine (HY.out.ea _).mono ?_
      rintro e w6 ⟨rfl, hb⟩
      have HB6 := Lib.hid (HB5.out.trans (hb.mono HB5.out.size))
      clear hb
      rcases HY.out.ne with rfl | ⟨rfl, hne⟩
      · go_wp2
        go_ret
        exact ⟨rfl, HB6.out⟩
      · have hne' := seq_no hne
        clear hne
        go_wp2
        go_ret
        exact ⟨rfl, HB6.out⟩
    · have HI := Lib.hid hI
      have HS := Lib.hid hS
      clear hI hS
      go_wp2_with fail
      refine (HI.out _).mono ?_
      rintro e w2 ⟨rfl, hb⟩
      have HB2 := Lib.hid (HB1.out.trans (hb.mono HB1.out.size))
      clear hb
      go_wp2_with fail
      refine (HS.out _).mono ?_
      rintro e w3 ⟨rfl, hb⟩
      have HB3 := Lib.hid (HB2.out.trans (hb.mono HB2.out.size))
      clear hb
      go_wp2
      go_ret
      exact ⟨rfl, HB3.out⟩

end Go.Proofs.YteoncpifjifjlaaDoor
