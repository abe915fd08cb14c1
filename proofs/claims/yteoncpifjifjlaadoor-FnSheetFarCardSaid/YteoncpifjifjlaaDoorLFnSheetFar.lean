/- The law FnSheetFar of the promises: its draw, its walk. -/
import Derived.Test.YteoncpifjifjlaaDoorQd
import Derived.Test.YteoncpifjifjlaaDoorQc
import Derived.Test.YteoncpifjifjlaaDoorSf
namespace Go.Proofs.YteoncpifjifjlaaDoor
open Go.RowKit
set_option linter.unusedVariables false

theorem specSB_any (s : ByteArray) (dx dy : Int) (hx : -9223372036854775808 ≤ dx ∧ dx ≤ 9223372036854775807) (hy : -9223372036854775808 ≤ dy ∧ dy ≤ 9223372036854775807) : ∃ t b, t.size ≤ 8 ∧ ∀ W : World, Calls Tryd.prog 18 #[.string s, .int .i64 dx, .int .i64 dy] W (SbPost t b W) := by
  rcases nm_or s with ⟨c, r, h⟩ | h
  · have hc := h.1
    have hr := h.2.1
    by_cases hin : (0 ≤ (c : Int) + dx ∧ (c : Int) + dx < 26) ∧ 0 ≤ (r : Int) + dy ∧ (r : Int) + dy < 26
    · obtain ⟨C, hC⟩ : ∃ C : Nat, (c : Int) + dx = C := ⟨((c : Int) + dx).toNat, by omega⟩
      obtain ⟨R, hR⟩ : ∃ R : Nat, (r : Int) + dy = R := ⟨((r : Int) + dy).toNat, by omega⟩
      exact ⟨_, _, by have := nmS_size2 C R; omega, fun W => specSheetBeside_yes s c r C R dx dy W h hC hR (by omega) (by omega)⟩
    · exact ⟨_, _, by decide, fun W => specSheetBeside_far s c r dx dy W h (by omega)⟩
  · exact ⟨_, _, by decide, fun W => specSheetBeside_no s 0 0 dx dy W (fun W => l7Find_no s W h)⟩

/-- two texts drawn -/
def TtPost (w : World) (e : Ending) (w' : World) : Prop := ∃ s t : ByteArray, e = .returned (.tuple #[.string s, .string t]) ∧ s.size ≤ 20 ∧ t.size ≤ 20 ∧ Below w.heap.size w w'

set_option maxHeartbeats 2000000 in
theorem draw_DrawSheetFar (v : Value) (n hi : Nat) (w : World) (hv : RdB hi w v n) (hh : hi ≤ w.heap.size) :
    Calls Tryd.prog 38 #[v] w (TtPost w) := by
  have HO := Lib.hid (open_any v n hi w hv hh)
  obtain ⟨ao, cap, cb, off, Z, rfl, _⟩ := hv
  go_enter Tryd.func38, Tryd.ntmps38
  go_wp2_with fail
  refine HO.out.mono ?_
  rintro e w1 ⟨rfl, hr, hb, hs⟩
  have HB := Lib.hid hb
  have HR := Lib.hid hr
  have hs1 : w.heap.size < w1.heap.size := by omega
  clear hb hr hs
  go_wp2_with fail
  refine (sheetDraw_any w.heap.size 0 w1 HR.out (by omega) (by omega)).mono ?_
  rintro e w2 ⟨s, q, rfl, hz, hq, hr2, hc2⟩
  have HB2 := Lib.hid (HB.out.trans (hc2.below (Nat.le_refl _) (by omega)))
  have hs2 : w.heap.size < w2.heap.size := by have := hc2.size; omega
  have HR2 := Lib.hid hr2
  have HZ := Lib.hid hz
  clear hc2 hr2 hz
  go_wp2_with fail
  refine (pick_any w.heap.size q 7 _ HR2.out (by omega) (by omega) (by omega)).mono ?_
  rintro e w3 ⟨x, hx, rfl, hr3, hc3, hs3⟩
  have HB3 := Lib.hid (HB2.out.trans (hc3.below (Nat.le_refl _) (by omega)))
  have HR3 := Lib.hid hr3
  have hs3' : w.heap.size < w3.heap.size := by omega
  clear hr3 hc3 hs3
  go_wp2_with fail
  refine (pick_any w.heap.size (q + 1) 7 _ HR3.out (by omega) (by omega) (by omega)).mono ?_
  rintro e w4 ⟨y, hy, rfl, hr4, hc4, hs4⟩
  have HB4 := Lib.hid (HB3.out.trans (hc4.below (Nat.le_refl _) (by omega)))
  have HR4 := Lib.hid hr4
  have hs4' : w.heap.size < w4.heap.size := by omega
  clear hr4 hc4 hs4
  obtain ⟨t, b, hts, HSB⟩ := specSB_any s ((x : Int) - 3) ((y : Int) - 3) (by omega) (by omega)
  have HSB' := Lib.hid HSB
  have HTS := Lib.hid hts
  clear HSB hts
  go_wp2_with fail
  refine (HSB'.out _).mono ?_
  rintro e w5 ⟨rfl, hb5⟩
  have HB5 := Lib.hid (HB4.out.trans (hb5.mono HB4.out.size))
  have HR5 := Lib.hid (HR4.out.keep hb5 (by omega))
  have hs5 : w.heap.size < w5.heap.size := by have := hb5.size; omega
  clear hb5
  cases b
  · go_wp2_with fail
    refine (sheetDraw_any w.heap.size (q + 1 + 1) w5 HR5.out (by omega) (by omega)).mono ?_
    rintro e w6 ⟨u, q2, rfl, hz2, hq2, hr6, hc6⟩
    have HB6 := Lib.hid (HB5.out.trans (hc6.below (Nat.le_refl _) (by omega)))
    have HZ2 := Lib.hid hz2
    clear hr6 hc6 hz2 hq2
    go_wp2
    go_ret2
    exact ⟨s, u, rfl, by have := HZ.out; omega, by have := HZ2.out; omega, HB6.out⟩
  · go_wp2_with fail
    refine (pick_any w.heap.size (q + 1 + 1) 2 _ HR5.out (by omega) (by omega) (by omega)).mono ?_
    rintro e w6 ⟨z, hz6, rfl, hr6, hc6, hs6⟩
    have HB6 := Lib.hid (HB5.out.trans (hc6.below (Nat.le_refl _) (by omega)))
    have HR6 := Lib.hid hr6
    have hs6' : w.heap.size < w6.heap.size := by omega
    clear hr6 hc6 hs6
    rcases (by omega : z = 0 ∨ z = 1) with rfl | rfl
    · go_wp2
      go_ret2
      exact ⟨s, t, rfl, by have := HZ.out; omega, by have := HTS.out; omega, HB6.out⟩
    · go_wp2_with fail
      refine (sheetDraw_any w.heap.size (q + 1 + 1 + 1) w6 HR6.out (by omega) (by omega)).mono ?_
      rintro e w7 ⟨u, q2, rfl, hz2, hq2, hr7, hc7⟩
      have HB7 := Lib.hid (HB6.out.trans (hc7.below (Nat.le_refl _) (by omega)))
      have HZ2 := Lib.hid hz2
      clear hr7 hc7 hz2 hq2
      go_wp2
      go_ret2
      exact ⟨s, u, rfl, by have := HZ.out; omega, by have := HZ2.out; omega, HB7.out⟩

theorem sizeOf_any (x : Int) (w : World) (h0 : -1000 ≤ x) (h1 : x ≤ 1000) : Calls Tryd.prog 40 #[.int .i64 x] w fun e w' => e = .returned (.int .i64 (absI x)) ∧ w' = w := by
  have HE := Lib.hid (show max x (0 - x) = absI x by unfold absI; omega)
  have HE2 := Lib.hid (show max x (-x) = absI x by unfold absI; omega)
  go_enter Tryd.func40, Tryd.ntmps40
  go_wp2
  go_ret
  exact ⟨by first | exact congrArg (fun z => Ending.returned (.int .i64 z)) HE.out | exact congrArg (fun z => Ending.returned (.int .i64 z)) HE2.out, rfl⟩

theorem gpV_symm (a b : Nat) : gpV a b = gpV b a := by unfold gpV absI; omega
theorem gp_dim (c c' : Nat) (hc : c < 26) (hc' : c' < 26) : (∀ i k : Nat, i < 4 → k < 4 → gpV c c' ≤ absI ((c' * 4 : Nat) + k - (c * 4 : Nat) - i)) ∧ ∃ i k : Nat, i < 4 ∧ k < 4 ∧ absI ((c' * 4 : Nat) + k - (c * 4 : Nat) - i) = gpV c c' := by
  constructor
  · intro i k hi hk; unfold gpV absI; omega
  · rcases (by omega : c < c' ∨ c' < c ∨ c = c') with h | h | h
    · exact ⟨3, 0, by omega, by omega, by unfold gpV absI; omega⟩
    · exact ⟨0, 3, by omega, by omega, by unfold gpV absI; omega⟩
    · exact ⟨0, 0, by omega, by omega, by unfold gpV absI; omega⟩

/-- the law behind its draw, on two names -/
structure SfarY (s t : ByteArray) (A R C D G : Int) (i0 k0 j0 m0 : Nat) : Prop where
  isf : ∀ W : World, Calls Tryd.prog 37 #[.string s, .string t] W (IntPost G W)
  ssf : ∀ W : World, Calls Tryd.prog 39 #[.string s, .string t] W (IntPost G W)
  back : ∀ W : World, Calls Tryd.prog 37 #[.string t, .string s] W (IntPost G W)
  sa : ∀ W : World, Calls Tryd.prog 15 #[.string s] W (XyPost A R true W)
  sb : ∀ W : World, Calls Tryd.prog 15 #[.string t] W (XyPost C D true W)
  bd : (0 ≤ A ∧ A ≤ 100) ∧ (0 ≤ R ∧ R ≤ 100) ∧ (0 ≤ C ∧ C ≤ 100) ∧ (0 ≤ D ∧ D ≤ 100) ∧ 0 ≤ G ∧ G ≤ 200
  low : ∀ i k j m : Nat, i < 4 → k < 4 → j < 4 → m < 4 → G ≤ absI (C + k - A - i) + absI (D + m - R - j)
  hit : i0 < 4 ∧ k0 < 4 ∧ j0 < 4 ∧ m0 < 4 ∧ absI (C + k0 - A - i0) + absI (D + m0 - R - j0) = G

theorem sfarY_of {s t : ByteArray} {c r c' r' : Nat} (h : IsNm s c r) (h' : IsNm t c' r') : ∃ i0 k0 j0 m0, SfarY s t ((c * 4 : Nat) : Int) ((r * 4 : Nat) : Int) ((c' * 4 : Nat) : Int) ((r' * 4 : Nat) : Int) (gpV c c' + gpV r r') i0 k0 j0 m0 := by
  obtain ⟨l1, i0, k0, a1, a2, a3⟩ := gp_dim c c' h.1 h'.1
  obtain ⟨l2, j0, m0, b1, b2, b3⟩ := gp_dim r r' h.2.1 h'.2.1
  have hc := h.1
  have hr := h.2.1
  have hc' := h'.1
  have hr' := h'.2.1
  have g1 := gpV_ok hc hc'
  have g2 := gpV_ok hr hr'
  have bk := fun W : World => implSheetFar_yes t s c' r' c r W h' h
  rw [gpV_symm c' c, gpV_symm r' r] at bk
  refine ⟨i0, k0, j0, m0, fun W => implSheetFar_yes s t c r c' r' W h h', fun W => specSheetFar_yes s t c r c' r' W h h', bk, implSF_yes h, implSF_yes h', by omega, fun i k j m hi hk hj hm => ?_, a1, a2, b1, b2, by omega⟩
  have := l1 i k hi hk
  have := l2 j m hj hm
  omega

set_option maxHeartbeats 8000000 in
set_option maxRecDepth 100000 in
theorem law_FnSheetFar (v : Value) (n : Nat) (w : World) (hv : RdB w.heap.size w v n) : Calls Tryd.prog 13 #[v] w (LawPost w) := by
  have HD := Lib.hid (draw_DrawSheetFar v n w.heap.size w hv (Nat.le_refl _))
  obtain ⟨ao, cap, cb, off, Z, rfl, hc1, hc2, _⟩ := hv
  by_cases hn : 1048576 < n
  · have hn' : (1048576 : Int) < n := by omega
    go_enter Tryd.func13, Tryd.ntmps13
    go_wp2
    go_ret
    exact ⟨rfl, Below.refl _ _⟩
  · have hn' : ¬ (1048576 : Int) < n := by omega
    go_enter Tryd.func13, Tryd.ntmps13
    go_wp2_with fail
    refine HD.out.mono ?_
    rintro e w1 ⟨s, t, rfl, hz, hz', hb1⟩
    have HB1 := Lib.hid hb1
    clear hb1 HD
    have hcase : (∃ c r c' r', IsNm s c r ∧ IsNm t c' r') ∨ ((∀ W : World, Calls Tryd.prog 37 #[.string s, .string t] W (IntPost (-1) W)) ∧ ∀ W : World, Calls Tryd.prog 39 #[.string s, .string t] W (IntPost (-1) W)) := by
      rcases nm_or s with ⟨c, r, h⟩ | h
      · rcases nm_or t with ⟨c', r', h'⟩ | h'
        · exact .inl ⟨c, r, c', r', h, h'⟩
        · exact .inr ⟨fun W => implSheetFar_no s t c r 0 0 true false W (fun W => sheetFrom_yes s c r W h) (fun W => sheetFrom_no t W (by omega) h') rfl, fun W => specSheetFar_no s t c r 0 0 true false W (fun W => l7Find_yes s c r W h) (fun W => l7Find_no t W h') rfl⟩
      · rcases nm_or t with ⟨c', r', h'⟩ | h'
        · exact .inr ⟨fun W => implSheetFar_no s t 0 0 c' r' false true W (fun W => sheetFrom_no s W (by omega) h) (fun W => sheetFrom_yes t c' r' W h') rfl, fun W => specSheetFar_no s t 0 0 c' r' false true W (fun W => l7Find_no s W h) (fun W => l7Find_yes t c' r' W h') rfl⟩
        · exact .inr ⟨fun W => implSheetFar_no s t 0 0 0 0 false false W (fun W => sheetFrom_no s W (by omega) h) (fun W => sheetFrom_no t W (by omega) h') rfl, fun W => specSheetFar_no s t 0 0 0 0 false false W (fun W => l7Find_no s W h) (fun W => l7Find_no t W h') rfl⟩
    clear hz hz'
    rcases hcase with ⟨c, r, c', r', h, h'⟩ | ⟨hI, hS⟩
    · obtain ⟨i0, k0, j0, m0, hy⟩ := sfarY_of h h'
      generalize gpV c c' + gpV r r' = G at *
      generalize ((c * 4 : Nat) : Int) = A at *
      generalize ((r * 4 : Nat) : Int) = R at *
      generalize ((c' * 4 : Nat) : Int) = C at *
      generalize ((r' * 4 : Nat) : Int) = D at *
      clear h h'
      have HY := Lib.hid hy
      obtain ⟨⟨x1, x2⟩, ⟨x3, x4⟩, ⟨x5, x6⟩, ⟨x7, x8⟩, x9, x10⟩ := hy.bd
      obtain ⟨h1, h2, h3, h4, _⟩ := hy.hit
      have q1 : (G != G) = false := by simp
      have q2 : (G == G) = true := by simp
      clear hy
      go_wp2_with fail
      refine (HY.out.isf _).mono ?_
      rintro e w2 ⟨rfl, hb⟩
      have HB2 := Lib.hid (HB1.out.trans (hb.mono HB1.out.size))
      clear hb
      go_wp2_with fail
      refine (HY.out.ssf _).mono ?_
      rintro e w3 ⟨rfl, hb⟩
      have HB3 := Lib.hid (HB2.out.trans (hb.mono HB2.out.size))
      clear hb
      go_wp2_with fail
      refine (HY.out.sa _).mono ?_
      rintro e w4 ⟨rfl, hb⟩
      have HB4 := Lib.hid (HB3.out.trans (hb.mono HB3.out.size))
      clear hb
      go_wp2_with fail
      refine (HY.out.sb _).mono ?_
      rintro e w5 ⟨rfl, hb⟩
      have HB5 := Lib.hid (HB4.out.trans (hb.mono HB4.out.size))
      clear hb
      go_wp2
      go_loopw [13, 14] (fun l i wr => ∃ (L : Int) (i' : Nat), l = .int .i64 L ∧ i = .int .i64 i' ∧ i' ≤ 4 ∧ w5 = wr ∧ G ≤ L ∧ L ≤ 1000 ∧ (i0 < i' → L ≤ G)) (fun _ i _ => 4 - (intOf i).toNat)
      case atStart => exact ⟨1000, 0, rfl, rfl, by omega, rfl, by omega, by omega, by omega⟩
      case round =>
        obtain ⟨L, i, rfl, rfl, hi4, rfl, g1, g2, g3⟩ := hrel
        have G3 := Lib.hid g3
        clear g3
        by_cases hi : i < 4
        · have hi' : (i : Int) < 4 := by omega
          go_wp2
          go_loopw [13, 15] (fun l k wr => ∃ (L : Int) (k' : Nat), l = .int .i64 L ∧ k = .int .i64 k' ∧ k' ≤ 4 ∧ w5 = wr ∧ G ≤ L ∧ L ≤ 1000 ∧ (i0 < i ∨ i0 = i ∧ k0 < k' → L ≤ G)) (fun _ i _ => 4 - (intOf i).toNat)
          case atStart => exact ⟨L, 0, rfl, rfl, by omega, rfl, by omega, by omega, by have := G3.out; omega⟩
          case round =>
            clear G3 g1 g2
            obtain ⟨L, k, rfl, rfl, hk4, rfl, g1, g2, g3⟩ := hrel
            have G3 := Lib.hid g3
            clear g3
            by_cases hk : k < 4
            · have hk' : (k : Int) < 4 := by omega
              go_wp2
              go_loopw [13, 17] (fun l j wr => ∃ (L : Int) (j' : Nat), l = .int .i64 L ∧ j = .int .i64 j' ∧ j' ≤ 4 ∧ w5 = wr ∧ G ≤ L ∧ L ≤ 1000 ∧ (i0 < i ∨ i0 = i ∧ (k0 < k ∨ k0 = k ∧ j0 < j') → L ≤ G)) (fun _ i _ => 4 - (intOf i).toNat)
              case atStart => exact ⟨L, 0, rfl, rfl, by omega, rfl, by omega, by omega, by have := G3.out; omega⟩
              case round =>
                clear G3 g1 g2
                obtain ⟨L, j, rfl, rfl, hj4, rfl, g1, g2, g3⟩ := hrel
                have G3 := Lib.hid g3
                clear g3
                by_cases hj : j < 4
                · have hj' : (j : Int) < 4 := by omega
                  go_wp2
                  go_loopw [13, 18] (fun l m wr => ∃ (L : Int) (m' : Nat), l = .int .i64 L ∧ m = .int .i64 m' ∧ m' ≤ 4 ∧ w5 = wr ∧ G ≤ L ∧ L ≤ 1000 ∧ (i0 < i ∨ i0 = i ∧ (k0 < k ∨ k0 = k ∧ (j0 < j ∨ j0 = j ∧ m0 < m')) → L ≤ G)) (fun _ i _ => 4 - (intOf i).toNat)
                  case atStart => exact ⟨L, 0, rfl, rfl, by omega, rfl, by omega, by omega, by have := G3.out; omega⟩
                  case round =>
                    clear G3 g1 g2
                    obtain ⟨L, m, rfl, rfl, hm4, rfl, g1, g2, g3⟩ := hrel
                    have G3 := Lib.hid g3
                    clear g3
                    by_cases hm : m < 4
                    · have hm' : (m : Int) < 4 := by omega
                      have HS1 := Lib.hid (fun W : World => sizeOf_any (C + k - A - i) W (by omega) (by omega))
                      have HS2 := Lib.hid (fun W : World => sizeOf_any (D + m - R - j) W (by omega) (by omega))
                      have v1 : 0 ≤ absI (C + k - A - i) ∧ absI (C + k - A - i) ≤ 200 := by unfold absI; omega
                      have v2 : 0 ≤ absI (D + m - R - j) ∧ absI (D + m - R - j) ≤ 200 := by unfold absI; omega
                      have v3 := HY.out.low i k j m hi hk hj hm
                      have v4 : i0 = i ∧ k0 = k ∧ j0 = j ∧ m0 = m → absI (C + k - A - i) + absI (D + m - R - j) = G := by
                        rintro ⟨rfl, rfl, rfl, rfl⟩
                        exact HY.out.hit.2.2.2.2
                      generalize hV1 : absI (C + k - A - i) = V1 at *
                      generalize hV2 : absI (D + m - R - j) = V2 at *
                      have V4 := Lib.hid v4
                      have V3 := Lib.hid v3
                      obtain ⟨v11, v12⟩ := v1
                      obtain ⟨v21, v22⟩ := v2
                      clear v4 v3 hV1 hV2
                      go_wp2_with fail
                      refine (HS1.out _).mono ?_
                      rintro e w6 ⟨rfl, rfl⟩
                      go_wp2_with fail
                      refine (HS2.out _).mono ?_
                      rintro e w6 ⟨rfl, rfl⟩
                      go_wp2
                      go_roundw
                      case rel => exact ⟨min L (V1 + V2), m + 1, rfl, by go_num, by omega, trivial, by have := V3.out; omega, by omega, by have h5 := G3.out; have h6 := V4.out; omega⟩
                      case measure => simp [intOf]; omega
                    · have em : m = 4 := by omega
                      subst em
                      go_wp2
                      go_roundw
                      case rel => exact ⟨L, j + 1, rfl, by go_num, by omega, trivial, g1, g2, by have h5 := G3.out; omega⟩
                      case measure => simp [intOf]; omega
                · have ej : j = 4 := by omega
                  subst ej
                  go_wp2
                  go_roundw
                  case rel => exact ⟨L, k + 1, rfl, by go_num, by omega, trivial, g1, g2, by have h5 := G3.out; omega⟩
                  case measure => simp [intOf]; omega
            · have ek : k = 4 := by omega
              subst ek
              go_wp2
              go_roundw
              case rel => exact ⟨L, i + 1, rfl, by go_num, by omega, trivial, g1, g2, by have h5 := G3.out; omega⟩
              case measure => simp [intOf]; omega
        · have ei : i = 4 := by omega
          subst ei
          obtain rfl : L = G := by have := G3.out; omega
          go_wp2_with fail
          refine (HY.out.back _).mono ?_
          rintro e w6 ⟨rfl, hb⟩
          have HB6 := Lib.hid (HB5.out.trans (hb.mono HB5.out.size))
          clear hb
          go_wp2
          go_ret
          exact ⟨rfl, HB6.out⟩
    · have HI := Lib.hid hI
      have HS := Lib.hid hS
      clear hI hS
      go_wp2_with fail
      refine (HI.out _).mono ?_
      rintro e w2 ⟨rfl, hb⟩
      have HB2 := Lib.hid (HB1.out.trans (hb.mono HB1.out.size))
      clear hb
      go_wp2_with fail
      refine (HS.out _).mono ?_
      rintro e w3 ⟨rfl, hb⟩
      have HB3 := Lib.hid (HB2.out.trans (hb.mono HB2.out.size))
      clear hb
      go_wp2
      go_ret
      exact ⟨rfl, HB3.out⟩

end Go.Proofs.YteoncpifjifjlaaDoor
