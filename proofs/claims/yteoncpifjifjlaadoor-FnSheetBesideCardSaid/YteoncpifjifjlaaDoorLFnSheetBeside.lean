/- The law FnSheetBeside of the promises: its walk. -/
import Derived.Test.YteoncpifjifjlaaDoorQe
namespace Go.Proofs.YteoncpifjifjlaaDoor
open Go.RowKit
set_option linter.unusedVariables false

/-- the law behind its draw, on a sheet beside which another one lies -/
structure SbY (s t : ByteArray) (dx dy A B C D : Int) : Prop where
  isb : ∀ W : World, Calls Tryd.prog 19 #[.string s, .int .i64 dx, .int .i64 dy] W (SbPost t true W)
  ssb : ∀ W : World, Calls Tryd.prog 18 #[.string s, .int .i64 dx, .int .i64 dy] W (SbPost t true W)
  back : ∀ W : World, Calls Tryd.prog 19 #[.string t, .int .i64 (-dx), .int .i64 (-dy)] W (SbPost s true W)
  sa : ∀ W : World, Calls Tryd.prog 15 #[.string s] W (XyPost A B true W)
  sb : ∀ W : World, Calls Tryd.prog 15 #[.string t] W (XyPost C D true W)
  bd : (0 ≤ A ∧ A ≤ 100) ∧ (0 ≤ B ∧ B ≤ 100) ∧ (-25 ≤ dx ∧ dx ≤ 25) ∧ (-25 ≤ dy ∧ dy ≤ 25)
  ex : C = A + dx * 4
  ey : D = B + dy * 4

theorem sbY_or (s : ByteArray) (x y : Int) (hs : s.size ≤ 9223372036854775807) (hx : -9223372036854775808 ≤ x ∧ x ≤ 9223372036854775807) (hy : -9223372036854775808 ≤ y ∧ y ≤ 9223372036854775807) : (∃ t A B C D, SbY s t x y A B C D) ∨ ((∀ W : World, Calls Tryd.prog 19 #[.string s, .int .i64 x, .int .i64 y] W (SbPost ⟨#[]⟩ false W)) ∧ ∀ W : World, Calls Tryd.prog 18 #[.string s, .int .i64 x, .int .i64 y] W (SbPost ⟨#[]⟩ false W)) := by
  rcases nm_or s with ⟨c, r, h⟩ | h
  · have hc := h.1
    have hr := h.2.1
    have ex := wrap_near h.1 hx.1 hx.2
    have ey := wrap_near h.2.1 hy.1 hy.2
    by_cases hin : (0 ≤ (c : Int) + x ∧ (c : Int) + x < 26) ∧ 0 ≤ (r : Int) + y ∧ (r : Int) + y < 26
    · obtain ⟨C, hC⟩ : ∃ C : Nat, (c : Int) + x = C := ⟨((c : Int) + x).toNat, by omega⟩
      obtain ⟨R, hR⟩ : ∃ R : Nat, (r : Int) + y = R := ⟨((r : Int) + y).toNat, by omega⟩
      have ht : IsNm (nmS C R) C R := ⟨by omega, by omega, rfl⟩
      have bk := fun W : World => implSheetBeside_yes (nmS C R) C R c r (-x) (-y) W ht (by rw [← hC]; rw [show (c : Int) + x + -x = c by omega]; exact IntWalk.i64_in _ (by omega)) (by rw [← hR]; rw [show (r : Int) + y + -y = r by omega]; exact IntWalk.i64_in _ (by omega)) hc hr
      rw [← h.2.2] at bk
      exact .inl ⟨nmS C R, ((c * 4 : Nat) : Int), ((r * 4 : Nat) : Int), ((C * 4 : Nat) : Int), ((R * 4 : Nat) : Int), fun W => implSheetBeside_yes s c r C R x y W h (by rw [hC]; exact IntWalk.i64_in _ (by omega)) (by rw [hR]; exact IntWalk.i64_in _ (by omega)) (by omega) (by omega), fun W => specSheetBeside_yes s c r C R x y W h hC hR (by omega) (by omega), bk, implSF_yes h, implSF_yes ht, by omega, by omega, by omega⟩
    · exact .inr ⟨fun W => implSheetBeside_far s c r x y W h (shB2_no (fun hk => by have h1 := hk.1; have h2 := hk.2; omega)), fun W => specSheetBeside_far s c r x y W h (by omega)⟩
  · exact .inr ⟨fun W => implSheetBeside_no s 0 0 x y W (fun W => sheetFrom_no s W hs h), fun W => specSheetBeside_no s 0 0 x y W (fun W => l7Find_no s W h)⟩

set_option maxHeartbeats 4000000 in
set_option maxRecDepth 100000 in
theorem law_FnSheetBeside (v : Value) (n : Nat) (w : World) (hv : RdB w.heap.size w v n) : Calls Tryd.prog 11 #[v] w (LawPost w) := by
  have HD := Lib.hid (draw_DrawSheetBeside v n w.heap.size w hv (Nat.le_refl _))
  obtain ⟨ao, cap, cb, off, Z, rfl, hc1, hc2, _⟩ := hv
  by_cases hn : 1048576 < n
  · have hn' : (1048576 : Int) < n := by omega
    go_enter Tryd.func11, Tryd.ntmps11
    go_wp2
    go_ret
    exact ⟨rfl, Below.refl _ _⟩
  · have hn' : ¬ (1048576 : Int) < n := by omega
    go_enter Tryd.func11, Tryd.ntmps11
    go_wp2_with fail
    refine HD.out.mono ?_
    rintro e w1 ⟨s, dx, dy, rfl, hz, hx, hy, hb1⟩
    have HB1 := Lib.hid hb1
    clear hb1 HD
    rcases sbY_or s dx dy (by omega) hx (by omega) with ⟨t, A, B, C, D, hq⟩ | ⟨hI, hS⟩
    · have HY := Lib.hid hq
      obtain ⟨⟨x1, x2⟩, ⟨x3, x4⟩, ⟨x5, x6⟩, ⟨x7, x8⟩⟩ := hq.bd
      have q1 := seq_yes (a := s) rfl
      have q2 := seq_yes (a := t) rfl
      have q3 : (C == A + dx * 4) = true := by rw [beq_iff_eq]; exact hq.ex
      have q4' : (D == B + dy * 4) = true := by rw [beq_iff_eq]; exact hq.ey
      clear hq hz hx hy
      go_wp2_with fail
      refine (HY.out.isb _).mono ?_
      rintro e w2 ⟨rfl, hb⟩
      have HB2 := Lib.hid (HB1.out.trans (hb.mono HB1.out.size))
      clear hb
      go_wp2_with fail
      refine (HY.out.ssb _).mono ?_
      rintro e w3 ⟨rfl, hb⟩
      have HB3 := Lib.hid (HB2.out.trans (hb.mono HB2.out.size))
      clear hb
      go_wp2_with fail
      refine (HY.out.back _).mono ?_
      rintro e w4 ⟨rfl, hb⟩
      have HB4 := Lib.hid (HB3.out.trans (hb.mono HB3.out.size))
      clear hb
      go_wp2_with fail
      refine (HY.out.sa _).mono ?_
      rintro e w5 ⟨rfl, hb⟩
      have HB5 := Lib.hid (HB4.out.trans (hb.mono HB4.out.size))
      clear hb
      go_wp2_with fail
      refine (HY.out.sb _).mono ?_
      rintro e w6 ⟨rfl, hb⟩
      have HB6 := Lib.hid (HB5.out.trans (hb.mono HB5.out.size))
      clear hb
      go_wp2
      go_ret
      exact ⟨rfl, HB6.out⟩
    · have HI := Lib.hid hI
      have HS := Lib.hid hS
      clear hI hS
      go_wp2_with fail
      refine (HI.out _).mono ?_
      rintro e w2 ⟨rfl, hb⟩
      have HB2 := Lib.hid (HB1.out.trans (hb.mono HB1.out.size))
      clear hb
      go_wp2_with fail
      refine (HS.out _).mono ?_
      rintro e w3 ⟨rfl, hb⟩
      have HB3 := Lib.hid (HB2.out.trans (hb.mono HB2.out.size))
      clear hb
      go_wp2
      go_ret
      exact ⟨rfl, HB3.out⟩

end Go.Proofs.YteoncpifjifjlaaDoor
