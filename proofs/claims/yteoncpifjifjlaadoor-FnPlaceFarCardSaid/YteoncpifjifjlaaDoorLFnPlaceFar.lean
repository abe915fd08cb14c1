/- The law FnPlaceFar of the promises: its draw, its walk. -/
import Derived.Test.YteoncpifjifjlaaDoorQf
import Derived.Test.YteoncpifjifjlaaDoorQc
import Derived.Test.YteoncpifjifjlaaDoorSf
import Derived.Test.YteoncpifjifjlaaDoorPfJ
namespace Go.Proofs.YteoncpifjifjlaaDoor
open Go.RowKit
set_option linter.unusedVariables false

theorem results_tmp4 {fn : Func} {t u v x : Tmp} (h : fn.results = #[.tmp t, .tmp u, .tmp v, .tmp x]) (tmps : Array Value) (P : Program) (w : World) :
    (results fn tmps).run P w = .ok (.tuple #[tmps.getD t undef, tmps.getD u undef, tmps.getD v undef, tmps.getD x undef]) w := by
  simp [results, h]

/-- two places drawn -/
def P4Post (w : World) (e : Ending) (w' : World) : Prop := ∃ x y x' y' : Int, e = .returned (.tuple #[.int .i64 x, .int .i64 y, .int .i64 x', .int .i64 y']) ∧ Below w.heap.size w w'

set_option maxHeartbeats 1000000 in
theorem draw_DrawPlaceFar (v : Value) (n hi : Nat) (w : World) (hv : RdB hi w v n) (hh : hi ≤ w.heap.size) :
    Calls Tryd.prog 34 #[v] w (P4Post w) := by
  have HO := Lib.hid (open_any v n hi w hv hh)
  obtain ⟨ao, cap, cb, off, Z, rfl, _⟩ := hv
  go_enter Tryd.func34, Tryd.ntmps34
  go_wp2_with fail
  refine HO.out.mono ?_
  rintro e w1 ⟨rfl, hr, hb, hs⟩
  have HB := Lib.hid hb
  have HR := Lib.hid hr
  have hs1 : w.heap.size < w1.heap.size := by omega
  clear hb hr hs
  go_wp2_with fail
  refine (placeDraw_any w.heap.size 0 w1 HR.out (by omega) (by omega)).mono ?_
  rintro e w2 ⟨x, y, q, rfl, hx, hy, hq, hr2, hc2⟩
  have HB2 := Lib.hid (HB.out.trans (hc2.below (Nat.le_refl _) (by omega)))
  have hs2 : w.heap.size < w2.heap.size := by have := hc2.size; omega
  have HR2 := Lib.hid hr2
  clear hc2 hr2 hx hy
  go_wp2_with fail
  refine (placeDraw_any w.heap.size q w2 HR2.out (by omega) (by omega)).mono ?_
  rintro e w3 ⟨x', y', q', rfl, hx', hy', hq', hr3, hc3⟩
  have HB3 := Lib.hid (HB2.out.trans (hc3.below (Nat.le_refl _) (by omega)))
  clear hc3 hr3 hx' hy' hq'
  go_wp2
  exact bodyPost_ret (results_tmp4 rfl _ _ _) rfl ⟨x, y, x', y', rfl, HB3.out⟩

/-- the law behind its draw, on two places -/
structure FarY (s t : ByteArray) (ax ay bx by' cx cy F F1 F2 G : Int) : Prop where
  ifr : ∀ W : World, Calls Tryd.prog 35 #[.int .i64 ax, .int .i64 ay, .int .i64 bx, .int .i64 by'] W (IntPost F W)
  sfr : ∀ W : World, Calls Tryd.prog 36 #[.int .i64 ax, .int .i64 ay, .int .i64 bx, .int .i64 by'] W (IntPost F W)
  s1 : ∀ W : World, Calls Tryd.prog 26 #[.int .i64 ax, .int .i64 ay] W (SbPost s true W)
  s2 : ∀ W : World, Calls Tryd.prog 26 #[.int .i64 bx, .int .i64 by'] W (SbPost t true W)
  f1 : ∀ W : World, Calls Tryd.prog 35 #[.int .i64 ax, .int .i64 ay, .int .i64 cx, .int .i64 cy] W (IntPost F1 W)
  f2 : ∀ W : World, Calls Tryd.prog 35 #[.int .i64 cx, .int .i64 cy, .int .i64 bx, .int .i64 by'] W (IntPost F2 W)
  bk : ∀ W : World, Calls Tryd.prog 35 #[.int .i64 bx, .int .i64 by', .int .i64 ax, .int .i64 ay] W (IntPost F W)
  sh : ∀ W : World, Calls Tryd.prog 37 #[.string s, .string t] W (IntPost G W)
  bd : 0 ≤ F ∧ F ≤ 206 ∧ (0 ≤ F1 ∧ F1 ≤ 206) ∧ (0 ≤ F2 ∧ F2 ≤ 206) ∧ 0 ≤ G
  low : G ≤ F
  tri : F ≤ F1 + F2
  eq0 : (F = 0 ∧ ax = bx ∧ ay = by') ∨ (F ≠ 0 ∧ (ax ≠ bx ∨ ax = bx ∧ ay ≠ by'))

theorem farV_nat (X Y X' Y' : Nat) (hX : X < 104) (hY : Y < 104) (hX' : X' < 104) (hY' : Y' < 104) : farV X Y X' Y' = absI ((X : Int) - X') + absI ((Y : Int) - Y') := by
  unfold farV
  rw [if_pos ⟨plB_yes ⟨⟨by omega, by omega⟩, by omega, by omega⟩, plB_yes ⟨⟨by omega, by omega⟩, by omega, by omega⟩⟩]

theorem farY_or (ax ay bx by' : Int) (C D : Nat) (hC : C < 104) (hD : D < 104) : (∃ s t F F1 F2 G, FarY s t ax ay bx by' C D F F1 F2 G) ∨ ((∀ W : World, Calls Tryd.prog 35 #[.int .i64 ax, .int .i64 ay, .int .i64 bx, .int .i64 by'] W (IntPost (-1) W)) ∧ ∀ W : World, Calls Tryd.prog 36 #[.int .i64 ax, .int .i64 ay, .int .i64 bx, .int .i64 by'] W (IntPost (-1) W)) := by
  have no : ¬ (plB ax ay = true ∧ plB bx by' = true) → farV ax ay bx by' = -1 := fun h => by unfold farV; rw [if_neg h]
  rcases pl_or ax ay with ⟨X, Y, hX, hY, rfl, rfl⟩ | h
  · rcases pl_or bx by' with ⟨X', Y', hX', hY', rfl, rfl⟩ | h'
    · have e0 := farV_nat X Y X' Y' hX hY hX' hY'
      have e1 := farV_nat X Y C D hX hY hC hD
      have e2 := farV_nat C D X' Y' hC hD hX' hY'
      have e3 := farV_nat X' Y' X Y hX' hY' hX hY
      have i0 := fun W : World => implPlaceFar_any X Y X' Y' W
      have j0 := fun W : World => specPlaceFar_any X Y X' Y' W
      have i1 := fun W : World => implPlaceFar_any X Y C D W
      have i2 := fun W : World => implPlaceFar_any C D X' Y' W
      have i3 := fun W : World => implPlaceFar_any X' Y' X Y W
      rw [e0] at i0 j0
      rw [e1] at i1
      rw [e2] at i2
      rw [e3, show absI ((X' : Int) - X) + absI ((Y' : Int) - Y) = absI ((X : Int) - X') + absI ((Y : Int) - Y') by unfold absI; omega] at i3
      have n1 : IsNm (nmS (X / 4) (Y / 4)) (X / 4) (Y / 4) := ⟨by omega, by omega, rfl⟩
      have n2 : IsNm (nmS (X' / 4) (Y' / 4)) (X' / 4) (Y' / 4) := ⟨by omega, by omega, rfl⟩
      refine .inl ⟨_, _, _, _, _, _, i0, j0, implSO_yes X Y hX hY, implSO_yes X' Y' hX' hY', i1, i2, i3, fun W => implSheetFar_yes _ _ _ _ _ _ W n1 n2, ?_, ?_, ?_, ?_⟩
      · unfold gpV absI; omega
      · have d1 : gpV (X / 4) (X' / 4) ≤ absI ((X : Int) - X') := by unfold gpV absI; omega
        have d2 : gpV (Y / 4) (Y' / 4) ≤ absI ((Y : Int) - Y') := by unfold gpV absI; omega
        omega
      · unfold absI; omega
      · unfold absI; omega
    · have e := no (fun hk => by rw [h'] at hk; cases hk.2)
      exact .inr ⟨fun W => by have := implPlaceFar_any X Y bx by' W; rw [e] at this; exact this, fun W => by have := specPlaceFar_any X Y bx by' W; rw [e] at this; exact this⟩
  · have e := no (fun hk => by rw [h] at hk; cases hk.1)
    exact .inr ⟨fun W => by have := implPlaceFar_any ax ay bx by' W; rw [e] at this; exact this, fun W => by have := specPlaceFar_any ax ay bx by' W; rw [e] at this; exact this⟩

set_option maxHeartbeats 8000000 in
set_option maxRecDepth 100000 in
theorem law_FnPlaceFar (v : Value) (n : Nat) (v' : Value) (n' : Nat) (w : World) (hv : RdB w.heap.size w v n) (hv' : RdB w.heap.size w v' n') : Calls Tryd.prog 12 #[v, v'] w (LawPost w) := by
  have HD := Lib.hid (draw_DrawPlaceFar v n w.heap.size w hv (Nat.le_refl _))
  obtain ⟨ao, cap, cb, off, Z, rfl, hc1, hc2, _⟩ := hv
  obtain ⟨ao', cap', cb', off', Z', rfl, hc1', hc2', _⟩ := hv'
  by_cases hn : 1048576 < n
  · have hn' : (1048576 : Int) < n := by omega
    go_enter Tryd.func12, Tryd.ntmps12
    go_wp2
    go_ret
    exact ⟨rfl, Below.refl _ _⟩
  · have hn' : ¬ (1048576 : Int) < n := by omega
    by_cases hm : 1048576 < n'
    · have hm' : (1048576 : Int) < n' := by omega
      go_enter Tryd.func12, Tryd.ntmps12
      go_wp2
      go_ret
      exact ⟨rfl, Below.refl _ _⟩
    · have hm' : ¬ (1048576 : Int) < n' := by omega
      have t1 : ((n' : Int) * 7).tmod 104 = ((n' * 7 % 104 : Nat) : Int) := by rw [Int.tmod_eq_emod_of_nonneg (by omega)]; omega
      have t2 : ((n' : Int) * 13).tmod 104 = ((n' * 13 % 104 : Nat) : Int) := by rw [Int.tmod_eq_emod_of_nonneg (by omega)]; omega
      have hC : n' * 7 % 104 < 104 := by omega
      have hD : n' * 13 % 104 < 104 := by omega
      generalize n' * 7 % 104 = C at *
      generalize n' * 13 % 104 = D at *
      have u1 : IntKind.i64.wrap (C : Int) = C := IntWalk.i64_in _ (by omega)
      have u2 : IntKind.i64.wrap (D : Int) = D := IntWalk.i64_in _ (by omega)
      go_enter Tryd.func12, Tryd.ntmps12
      go_wp2_with fail
      refine HD.out.mono ?_
      rintro e w1 ⟨ax, ay, bx, by', rfl, hb1⟩
      have HB1 := Lib.hid hb1
      clear hb1 HD
      rcases farY_or ax ay bx by' C D hC hD with ⟨s, t, F, F1, F2, G, hy⟩ | ⟨hI, hS⟩
      · have HY := Lib.hid hy
        obtain ⟨x1, x2, ⟨x3, x4⟩, ⟨x5, x6⟩, x7⟩ := hy.bd
        have x8 := hy.low
        have x9 := hy.tri
        have q1 : (F == F) = true := by simp
        have q2 : (F != F) = false := by simp
        clear hy
        go_wp2_with fail
        refine (HY.out.ifr _).mono ?_
        rintro e w2 ⟨rfl, hb⟩
        have HB2 := Lib.hid (HB1.out.trans (hb.mono HB1.out.size))
        clear hb
        go_wp2_with fail
        refine (HY.out.sfr _).mono ?_
        rintro e w3 ⟨rfl, hb⟩
        have HB3 := Lib.hid (HB2.out.trans (hb.mono HB2.out.size))
        clear hb
        go_wp2_with fail
        refine (HY.out.s1 _).mono ?_
        rintro e w4 ⟨rfl, hb⟩
        have HB4 := Lib.hid (HB3.out.trans (hb.mono HB3.out.size))
        clear hb
        go_wp2_with fail
        refine (HY.out.s2 _).mono ?_
        rintro e w5 ⟨rfl, hb⟩
        have HB5 := Lib.hid (HB4.out.trans (hb.mono HB4.out.size))
        clear hb
        go_wp2_with fail
        refine (HY.out.f1 _).mono ?_
        rintro e w6 ⟨rfl, hb⟩
        have HB6 := Lib.hid (HB5.out.trans (hb.mono HB5.out.size))
        clear hb
        go_wp2_with fail
        refine (HY.out.f2 _).mono ?_
        rintro e w7 ⟨rfl, hb⟩
        have HB7 := Lib.hid (HB6.out.trans (hb.mono HB6.out.size))
        clear hb
        go_wp2_with fail
        refine (HY.out.bk _).mono ?_
        rintro e w8 ⟨rfl, hb⟩
        have HB8 := Lib.hid (HB7.out.trans (hb.mono HB7.out.size))
        clear hb
        rcases HY.out.eq0 with ⟨e0, e1, e2⟩ | ⟨e0, e1 | ⟨e1, e2⟩⟩
        · have z0 : (F == 0) = true := by simp [e0]
          have z1 : (ax == bx) = true := by simp [e1]
          have z2 : (ay == by') = true := by simp [e2]
          clear e0 e1 e2
          go_wp2_with fail
          refine (HY.out.sh _).mono ?_
          rintro e w9 ⟨rfl, hb⟩
          have HB9 := Lib.hid (HB8.out.trans (hb.mono HB8.out.size))
          clear hb
          go_wp2
          go_ret
          exact ⟨rfl, HB9.out⟩
        · have z0 : (F == 0) = false := by simp [e0]
          have z1 : (ax == bx) = false := by simp [e1]
          clear e0 e1
          go_wp2_with fail
          refine (HY.out.sh _).mono ?_
          rintro e w9 ⟨rfl, hb⟩
          have HB9 := Lib.hid (HB8.out.trans (hb.mono HB8.out.size))
          clear hb
          go_wp2
          go_ret
          exact ⟨rfl, HB9.out⟩
        · have z0 : (F == 0) = false := by simp [e0]
          have z1 : (ax == bx) = true := by simp [e1]
          have z2 : (ay == by') = false := by simp [e2]
          clear e0 e1 e2
          go_wp2_with fail
          refine (HY.out.sh _).mono ?_
          rintro e w9 ⟨rfl, hb⟩
          have HB9 := Lib.hid (HB8.out.trans (hb.mono HB8.out.size))
          clear hb
          go_wp2
          go_ret
          exact ⟨rfl, HB9.out⟩
      · have HI := Lib.hid hI
        have HS := Lib.hid hS
        clear hI hS
        go_wp2_with fail
        refine (HI.out _).mono ?_
        rintro e w2 ⟨rfl, hb⟩
        have HB2 := Lib.hid (HB1.out.trans (hb.mono HB1.out.size))
        clear hb
        go_wp2_with fail
        refine (HS.out _).mono ?_
        rintro e w3 ⟨rfl, hb⟩
        have HB3 := Lib.hid (HB2.out.trans (hb.mono HB2.out.size))
        clear hb
        go_wp2
        go_ret
        exact ⟨rfl, HB3.out⟩

end Go.Proofs.YteoncpifjifjlaaDoor
