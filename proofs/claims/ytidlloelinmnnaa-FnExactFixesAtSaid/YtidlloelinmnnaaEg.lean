/- FixesMake, FixesShort, EditionFar of the program. -/
import Derived.Test.YtidlloelinmnnaaEf
namespace Go.Proofs.Ytidlloelinmnnaa
open Go.RowKit Go.Shelf
set_option linter.unusedVariables false
set_option linter.unusedSimpArgs false

theorem FsPost.ts {b : Bool} {L : List Fx} {w w' : World} {e : Ending} (h : FsPost b L w e w') (hr : ∀ j, j < L.length * 4 → -9223372036854775808 ≤ fzZ L j ∧ fzZ L j ≤ 9223372036854775807) : TsPost b L.length (fzZ L) w e w' := by
  obtain ⟨v, h1, h2, h3, h4⟩ := h
  exact ⟨v, h1, h2, (h3.labs.owT hr).rd, h4⟩
theorem FsPost.tg {b : Bool} {L : List Fx} {w w' : World} {e : Ending} (h : FsPost b L w e w') (hr : ∀ j, j < L.length * 4 → -9223372036854775808 ≤ fzZ L j ∧ fzZ L j ≤ 9223372036854775807) : TgPost b L.length (fzZ L) w e w' := by
  obtain ⟨v, h1, h2, h3, h4⟩ := h
  exact ⟨v, h1, h2, h3.labs.owT hr, h4⟩

set_option maxRecDepth 20000 in
set_option maxHeartbeats 4000000 in
theorem implFixesMake_any (v u : Value) (lo hi : Nat) (a b : G) (w : World) (hv : RdM lo hi w v a) (hu : RdM lo hi w u b) (hh : hi ≤ w.heap.size) :
    Calls Try.prog 50 #[v, u] w (FsPost (akB a b) (mkE a b) w) := by
  have HR := Lib.hid (reliefsAlike_any v u lo hi a b w hv hu hh)
  clear hv hu
  go_enter Try.func50, Try.ntmps50
  go_wp2_with fail
  refine HR.out.mono ?_
  rintro e w2 ⟨hb2, hcase⟩
  rcases hcase with ⟨hok, n1, g1, c1, n2, g2, c2, rfl, hr1, hr2⟩ | ⟨hno, X1, Y1, A1, n1, c1, X2, Y2, A2, n2, c2, rfl⟩
  case inr =>
    have HX := Lib.hid (mkE_no hno)
    have HY := Lib.hid (akB_no hno)
    have HB := Lib.hid ((hb2.alloc hb2.size (.cells #[.int .i64 X1, .int .i64 Y1, .slice A1 n1 c1] 68)).alloc (by have := hb2.size; simp; omega) (.cells #[.int .i64 X2, .int .i64 Y2, .slice A2 n2 c2] 68))
    clear hno hb2
    go_wp2
    go_ret2
    refine ⟨.slice none 0 0, ?_, ⟨_, _, _, rfl⟩, ?_, HB.out⟩
    · rw [HY.out]; rfl
    · rw [HX.out]; exact Lf.none _ _
  obtain ⟨W4, hW4, hs4, k0, k1, kb⟩ := two_allocs' w2 (.cells #[.int .i64 a.n, .int .i64 (a.len 0), .slice (some ⟨g1, 0, none⟩) n1 c1] 68) (.cells #[.int .i64 b.n, .int .i64 (b.len 0), .slice (some ⟨g2, 0, none⟩) n2 c2] 68)
  have HX := Lib.hid (mkE_yes hok)
  have HY := Lib.hid (akB_yes hok)
  have h49 : n1 ≤ 49 := by rw [hr1.n_eq]; exact mul_le_49 hok.1.1.2 hok.1.2.1.2
  have hnn : n1 = n2 := by rw [hr1.n_eq, hr2.n_eq, hok.2.2.1, hok.2.2.2]
  have HEQ := Lib.hid (show mkD (a.len 0) a.flat b.flat 0 n1 = mkL a b by rw [hr1.n_eq]; rfl)
  subst hnn
  have HC := Lib.hid (correctionsTo_any a.n (a.len 0) n1 g1 c1 b.n (b.len 0) g2 c2 a.flat b.flat W4 (hr1.keep kb (Nat.le_refl _)) (hr2.keep kb (Nat.le_refl _)) hok.1.2.1.1 h49)
  rw [HEQ.out] at HC
  have HL := Lib.hid (mkL_len (b := b) hok.1)
  have HB4 := Lib.hid (hb2.trans (kb.mono hb2.size))
  obtain ⟨vt, vu, eV⟩ := ckV_iface (mkL a b)
  have HF := Lib.hid (fun W : World => fixesOf_any (mkL a b) W (by have := HL.out; omega))
  rw [eV] at HC HF
  clear hok hr1 hr2 hb2 k0 k1 kb eV
  go_wp2_with fail
  rw [← hW4]
  refine HC.out.mono ?_
  rintro e w5 ⟨rfl, hb5⟩
  have HB5 := Lib.hid (HB4.out.trans (hb5.mono HB4.out.size))
  clear hb5 hW4
  go_wp2_with fail
  refine (HF.out _).mono ?_
  rintro e w6 ⟨v6, rfl, ⟨sa, sl, sc, rfl⟩, hl6, hb6⟩
  have HL6 := Lib.hid (ownsRow_base hl6 HB5.out.size)
  have HB6 := Lib.hid (HB5.out.trans (hb6.mono HB5.out.size))
  clear hl6 hb6
  go_wp2
  go_ret2
  refine ⟨.slice sa sl sc, ?_, ⟨_, _, _, rfl⟩, ?_, HB6.out⟩
  · rw [HY.out]; rfl
  · rw [HX.out]; exact HL6.out

set_option maxRecDepth 20000 in
set_option maxHeartbeats 4000000 in
theorem implEditionFar_any (v u : Value) (lo hi : Nat) (a b : G) (w : World) (hv : RdM lo hi w v a) (hu : RdM lo hi w u b) (hh : hi ≤ w.heap.size) :
    Calls Try.prog 52 #[v, u] w (IntPost (faE a b) w) := by
  have HR := Lib.hid (reliefsAlike_any v u lo hi a b w hv hu hh)
  clear hv hu
  go_enter Try.func52, Try.ntmps52
  go_wp2_with fail
  refine HR.out.mono ?_
  rintro e w2 ⟨hb2, hcase⟩
  rcases hcase with ⟨hok, n1, g1, c1, n2, g2, c2, rfl, hr1, hr2⟩ | ⟨hno, X1, Y1, A1, n1, c1, X2, Y2, A2, n2, c2, rfl⟩
  case inr =>
    have HX := Lib.hid (faE_no hno)
    have HB := Lib.hid ((hb2.alloc hb2.size (.cells #[.int .i64 X1, .int .i64 Y1, .slice A1 n1 c1] 68)).alloc (by have := hb2.size; simp; omega) (.cells #[.int .i64 X2, .int .i64 Y2, .slice A2 n2 c2] 68))
    clear hno hb2
    go_wp2
    go_ret
    exact ⟨ret_int HX.out.symm, HB.out⟩
  obtain ⟨W4, hW4, hs4, k0, k1, kb⟩ := two_allocs' w2 (.cells #[.int .i64 a.n, .int .i64 (a.len 0), .slice (some ⟨g1, 0, none⟩) n1 c1] 68) (.cells #[.int .i64 b.n, .int .i64 (b.len 0), .slice (some ⟨g2, 0, none⟩) n2 c2] 68)
  have HX := Lib.hid (faE_yes hok)
  have h49 : n1 ≤ 49 := by rw [hr1.n_eq]; exact mul_le_49 hok.1.1.2 hok.1.2.1.2
  have hnn : n1 = n2 := by rw [hr1.n_eq, hr2.n_eq, hok.2.2.1, hok.2.2.2]
  have HEQ := Lib.hid (show mkD (a.len 0) a.flat b.flat 0 n1 = mkL a b by rw [hr1.n_eq]; rfl)
  subst hnn
  have HC := Lib.hid (correctionsTo_any a.n (a.len 0) n1 g1 c1 b.n (b.len 0) g2 c2 a.flat b.flat W4 (hr1.keep kb (Nat.le_refl _)) (hr2.keep kb (Nat.le_refl _)) hok.1.2.1.1 h49)
  rw [HEQ.out] at HC
  have HL := Lib.hid (mkL_len (b := b) hok.1)
  have HB4 := Lib.hid (hb2.trans (kb.mono hb2.size))
  obtain ⟨vt, vu, eV⟩ := ckV_iface (mkL a b)
  have HF := Lib.hid (fun W : World => fixesOf_any (mkL a b) W (by have := HL.out; omega))
  rw [eV] at HC HF
  clear hok hr1 hr2 hb2 k0 k1 kb eV
  go_wp2_with fail
  rw [← hW4]
  refine HC.out.mono ?_
  rintro e w5 ⟨rfl, hb5⟩
  have HB5 := Lib.hid (HB4.out.trans (hb5.mono HB4.out.size))
  clear hb5 hW4
  go_wp2_with fail
  refine (HF.out _).mono ?_
  rintro e w6 ⟨v6, rfl, _, hl6, hb6⟩
  obtain ⟨_, _, rfl⟩ := hl6.shape
  have HB6 := Lib.hid (HB5.out.trans (hb6.mono HB5.out.size))
  clear hl6 hb6
  go_wp2
  go_ret
  exact ⟨ret_int HX.out.symm, HB6.out⟩

set_option maxRecDepth 20000 in
set_option maxHeartbeats 4000000 in
theorem implFixesShort_any (v u : Value) (lo hi n : Nat) (g : G) (Z : Nat → Int) (w : World) (hv : RdM lo hi w v g) (hu : RdT lo hi w u n Z) (hh : hi ≤ w.heap.size) (hn : n ≤ 1048576) :
    Calls Try.prog 46 #[v, u] w (FsPost (fxB g n Z) (shE g n Z) w) := by
  have HE := Lib.hid (editionOf_any v u lo hi n g Z w hv hu hh hn)
  clear hv hu
  go_enter Try.func46, Try.ntmps46
  go_wp2_with fail
  refine HE.out.mono ?_
  rintro e w2 ⟨hb2, hcase⟩
  rcases hcase with ⟨hok, n0, g0, c0, n1, g1, c1, rfl, hr0, hr1⟩ | ⟨hno, rfl⟩
  case inr =>
    have HX := Lib.hid (shE_no hno)
    have HY := Lib.hid (fxB_no hno)
    have HB := Lib.hid (hb2.alloc hb2.size (.cells #[.int .i64 0, .int .i64 0, .slice none 0 0, .int .i64 0, .int .i64 0, .slice none 0 0, .nilIface] 72))
    simp only [edZ]
    clear hno hb2
    go_wp2
    go_ret2
    refine ⟨.slice none 0 0, ?_, ⟨_, _, _, rfl⟩, ?_, HB.out⟩
    · rw [HY.out]; rfl
    · rw [HX.out]; exact Lf.none _ _
  have HX := Lib.hid (shE_yes hok)
  have HY := Lib.hid (fxB_yes hok)
  obtain ⟨vt0, eE, _⟩ := ed_iface g n0 g0 c0 n1 g1 c1 (fxF Z 0 n)
  rw [eE]
  have kb : Below w2.heap.size w2 (w2.alloc (.cells #[.int .i64 g.n, .int .i64 (g.len 0), .slice (some ⟨g0, 0, none⟩) n0 c0, .int .i64 g.n, .int .i64 (g.len 0), .slice (some ⟨g1, 0, none⟩) n1 c1, .iface vt0 (dnR (fxF Z 0 n))] 72)) := (Below.refl _ _).alloc (Nat.le_refl _) _
  have h49 : n0 ≤ 49 := by rw [hr0.n_eq]; exact mul_le_49 hok.1.1.2 hok.1.2.1.2
  have hnn : n0 = n1 := by rw [hr0.n_eq, hr1.n_eq]
  have HEQ := Lib.hid (show mkD (g.len 0) g.flat (edH g n Z) 0 n0 = shL g n Z by rw [hr0.n_eq]; rfl)
  subst hnn
  have HC := Lib.hid (correctionsTo_any g.n (g.len 0) n0 g0 c0 g.n (g.len 0) g1 c1 g.flat (edH g n Z) _ (hr0.keep kb (Nat.le_refl _)) (hr1.keep kb (Nat.le_refl _)) hok.1.2.1.1 h49)
  rw [HEQ.out] at HC
  have HL := Lib.hid (show (shL g n Z).length ≤ 49 from Nat.le_trans (mkD_len _ _ _ _ _) (mul_le_49 hok.1.1.2 hok.1.2.1.2))
  have HB4 := Lib.hid (hb2.trans (kb.mono hb2.size))
  obtain ⟨vt, vu, eV⟩ := ckV_iface (shL g n Z)
  have HF := Lib.hid (fun W : World => fixesOf_any (shL g n Z) W (by have := HL.out; omega))
  rw [eV] at HC HF
  clear hok hr0 hr1 hb2 kb eV eE
  go_wp2_with fail
  refine HC.out.mono ?_
  rintro e w5 ⟨rfl, hb5⟩
  have HB5 := Lib.hid (HB4.out.trans (hb5.mono HB4.out.size))
  clear hb5
  go_wp2_with fail
  refine (HF.out _).mono ?_
  rintro e w6 ⟨v6, rfl, ⟨sa, sl, sc, rfl⟩, hl6, hb6⟩
  have HL6 := Lib.hid (ownsRow_base hl6 HB5.out.size)
  have HB6 := Lib.hid (HB5.out.trans (hb6.mono HB5.out.size))
  clear hl6 hb6
  go_wp2
  go_ret2
  refine ⟨.slice sa sl sc, ?_, ⟨_, _, _, rfl⟩, ?_, HB6.out⟩
  · rw [HY.out]; rfl
  · rw [HX.out]; exact HL6.out

end Go.Proofs.Ytidlloelinmnnaa
