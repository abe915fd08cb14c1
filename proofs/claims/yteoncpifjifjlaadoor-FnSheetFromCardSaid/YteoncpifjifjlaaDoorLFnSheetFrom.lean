/- The law FnSheetFrom of the promises: its walk. -/
import Derived.Test.YteoncpifjifjlaaDoorQd
import Derived.Test.YteoncpifjifjlaaDoorQc
namespace Go.Proofs.YteoncpifjifjlaaDoor
open Go.RowKit
set_option linter.unusedVariables false

/-- the law behind its draw, on a name -/
structure SfY (s fl wn : ByteArray) (A R : Int) (t : Bool) : Prop where
  a0 : 0 ≤ A
  a1 : A ≤ 100
  r0 : 0 ≤ R
  r1 : R ≤ 100
  isf : ∀ W : World, Calls Tryd.prog 15 #[.string s] W (XyPost A R true W)
  ssf : ∀ W : World, Calls Tryd.prog 14 #[.string s] W (XyPost A R true W)
  so : ∀ W : World, Calls Tryd.prog 26 #[.int .i64 A, .int .i64 R] W (SbPost s true W)
  pn : ∀ W : World, Calls Tryd.prog 28 #[.int .i64 A, .int .i64 R] W (SbPost fl true W)
  we : ∀ W : World, Calls Tryd.prog 26 #[.int .i64 (A - 1), .int .i64 R] W (SbPost wn t W)
  add : ∀ W : World, (Op.stringOp .add s ⟨#[97, 97]⟩).run Tryd.prog W = .ok (.string fl) W
  tt : t = true ∧ wn ≠ s ∨ t = false ∧ A = 0

theorem sfY_of {s : ByteArray} {c r : Nat} (h : IsNm s c r) : ∃ fl wn t, SfY s fl wn ((c * 4 : Nat) : Int) ((r * 4 : Nat) : Int) t := by
  have hc := h.1
  have hr := h.2.1
  have e1 : nmS (c * 4 / 4) (r * 4 / 4) = s := by rw [Nat.mul_div_cancel _ (by omega), Nat.mul_div_cancel _ (by omega)]; exact h.2.2.symm
  have so := fun W : World => implSO_yes (c * 4) (r * 4) (by omega) (by omega) W
  rw [e1] at so
  have e2 : flS (c * 4) (r * 4) = ⟨(nmL c r ++ [97, 97]).toArray⟩ := by
    have x1 : c * 4 / 2 % 2 = 0 := by omega
    have x2 : r * 4 / 2 % 2 = 0 := by omega
    have x3 : c * 4 % 2 = 0 := by omega
    have x4 : r * 4 % 2 = 0 := by omega
    unfold flS flL ltA ltB
    rw [x1, x2, x3, x4, Nat.mul_div_cancel _ (by omega), Nat.mul_div_cancel _ (by omega)]
    rfl
  have hl := nmL_len c r
  have add : ∀ W : World, (Op.stringOp .add s ⟨#[97, 97]⟩).run Tryd.prog W = .ok (.string (flS (c * 4) (r * 4))) W := fun W => by
    rw [e2, h.2.2]
    exact run_string_add_lists (w := W) _ [_, _] (by omega) (by simp)
  rcases so_or (((c * 4 : Nat) : Int) - 1) ((r * 4 : Nat) : Int) with ⟨X, Y, hX, hY, e3, e4, h5⟩ | ⟨h5, h6⟩
  · refine ⟨_, _, true, ⟨by omega, by omega, by omega, by omega, implSF_yes h, specSF_yes h, so, implPN_yes (c * 4) (r * 4) (by omega) (by omega), h5, add, .inl ⟨rfl, fun e => ?_⟩⟩⟩
    rw [h.2.2] at e
    have := nmS_inj (by omega) (by omega) hc hr e
    omega
  · refine ⟨_, _, false, ⟨by omega, by omega, by omega, by omega, implSF_yes h, specSF_yes h, so, implPN_yes (c * 4) (r * 4) (by omega) (by omega), h6, add, .inr ⟨rfl, ?_⟩⟩⟩
    by_cases h0 : c = 0
    · subst h0; rfl
    · rw [plB_yes ⟨⟨by omega, by omega⟩, by omega, by omega⟩] at h5
      cases h5

set_option maxHeartbeats 4000000 in
set_option maxRecDepth 100000 in
theorem law_FnSheetFrom (v : Value) (n : Nat) (w : World) (hv : RdB w.heap.size w v n) : Calls Tryd.prog 8 #[v] w (LawPost w) := by
  have HD := Lib.hid (draw_DrawSheetFrom v n w.heap.size w hv (Nat.le_refl _))
  obtain ⟨ao, cap, cb, off, Z, rfl, hc1, hc2, _⟩ := hv
  by_cases hn : 1048576 < n
  · have hn' : (1048576 : Int) < n := by omega
    go_enter Tryd.func8, Tryd.ntmps8
    go_wp2
    go_ret
    exact ⟨rfl, Below.refl _ _⟩
  · have hn' : ¬ (1048576 : Int) < n := by omega
    go_enter Tryd.func8, Tryd.ntmps8
    go_wp2_with fail
    refine HD.out.mono ?_
    rintro e w1 ⟨s, rfl, hz, hb1⟩
    have HB1 := Lib.hid hb1
    clear hb1 HD
    rcases nm_or s with ⟨c, r, h⟩ | h
    · obtain ⟨fl, wn, t, hy⟩ := sfY_of h
      generalize ((c * 4 : Nat) : Int) = A at *
      generalize ((r * 4 : Nat) : Int) = R at *
      have HY := Lib.hid hy
      have h1 := hy.a0
      have h2 := hy.a1
      have hs1 := seq_yes (a := s) rfl
      have hs2 := seq_yes (a := fl) rfl
      have q1 : (A != A) = false := by simp
      have q2 : (R != R) = false := by simp
      have add := hy.add
      clear hy h
      go_wp2_with fail
      refine (HY.out.isf _).mono ?_
      rintro e w2 ⟨rfl, hb⟩
      have HB2 := Lib.hid (HB1.out.trans (hb.mono HB1.out.size))
      clear hb
      go_wp2_with fail
      refine (HY.out.ssf _).mono ?_
      rintro e w3 ⟨rfl, hb⟩
      have HB3 := Lib.hid (HB2.out.trans (hb.mono HB2.out.size))
      clear hb
      go_wp2_with fail
      refine (HY.out.so _).mono ?_
      rintro e w4 ⟨rfl, hb⟩
      have HB4 := Lib.hid (HB3.out.trans (hb.mono HB3.out.size))
      clear hb
      go_wp2_with fail
      refine (HY.out.pn _).mono ?_
      rintro e w5 ⟨rfl, hb⟩
      have HB5 := Lib.hid (HB4.out.trans (hb.mono HB4.out.size))
      clear hb
      go_wp2_with fail
      refine (HY.out.we _).mono ?_
      rintro e w6 ⟨rfl, hb⟩
      have HB6 := Lib.hid (HB5.out.trans (hb.mono HB5.out.size))
      clear hb
      rcases HY.out.tt with ⟨rfl, hne⟩ | ⟨rfl, h0⟩
      · have hne' := seq_no hne
        clear hne
        go_wp2
        go_ret
        exact ⟨rfl, HB6.out⟩
      · have h0' : (A == 0) = true := by simp [h0]
        go_wp2
        go_ret
        exact ⟨rfl, HB6.out⟩
    · have HI := Lib.hid (fun W : World => implSF_no (by omega) h W)
      have HS := Lib.hid (fun W : World => specSF_no h W)
      clear h
      go_wp2_with fail
      refine (HI.out _).mono ?_
      rintro e w2 ⟨rfl, hb⟩
      have HB2 := Lib.hid (HB1.out.trans (hb.mono HB1.out.size))
      clear hb
      go_wp2_with fail
      refine (HS.out _).mono ?_
      rintro e w3 ⟨rfl, hb⟩
      have HB3 := Lib.hid (HB2.out.trans (hb.mono HB2.out.size))
      clear hb
      go_wp2
      go_ret
      exact ⟨rfl, HB3.out⟩

end Go.Proofs.YteoncpifjifjlaaDoor
