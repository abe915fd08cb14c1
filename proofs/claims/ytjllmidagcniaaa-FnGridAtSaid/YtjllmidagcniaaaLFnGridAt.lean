/- The law FnGridAt of the promises: its walk. -/
import Derived.Test.YtjllmidagcniaaaDrawCe
import Derived.Test.YtjllmidagcniaaaImplG
import Derived.Test.YtjllmidagcniaaaSame
namespace Go.Proofs.Ytjllmidagcniaaa
open Go.RowKit
set_option linter.unusedVariables false

theorem implAt_i (v : Value) (lo hi : Nat) (g : G) (r c : Int) (w : World) (hv : RdM lo hi w v g) (hh : hi ≤ w.heap.size) (x : Int) (h : g.atV r c = x) :
    Calls Try.prog 29 #[v, .int .i64 r, .int .i64 c] w (IntPost x w) := by
  have := implGridAt_any v lo hi g r c w hv hh; rwa [h] at this
theorem specAt_i (v : Value) (lo hi : Nat) (g : G) (r c : Int) (w : World) (hv : RdM lo hi w v g) (x : Int) (h : g.atV r c = x) :
    Calls Try.prog 30 #[v, .int .i64 r, .int .i64 c] w (IntPost x w) := by
  have := specGridAt_any v lo hi g r c w hv; rwa [h] at this
theorem atV_yes {g : G} {r c : Nat} (h : g.Cell r c) : g.atV r c = g.z r c := by rw [G.atV, if_pos (G.cB_yes h)]; rfl
theorem atV_no {g : G} {r c : Int} (h : ¬ g.Cell r c) : g.atV r c = -1 := by rw [G.atV, if_neg (by rw [G.cB_no h]; simp)]
theorem upd_same {g : G} {r c : Nat} : G.Eqv (g.upd r c (g.z r c)) g := ⟨rfl, fun i hi => ⟨rfl, fun j hj => by
  show (if i = r ∧ j = c then g.z r c else g.z i j) = g.z i j
  split
  · rename_i h; rw [h.1, h.2]
  · rfl⟩⟩

set_option maxHeartbeats 4000000 in
set_option maxRecDepth 100000 in
theorem law_FnGridAt (v : Value) (n : Nat) (w : World) (hv : RdB w.heap.size w v n) : Calls Try.prog 7 #[v] w (LawPost w) := by
  have HD := Lib.hid (draw_DrawGridAt v n w.heap.size w hv (Nat.le_refl _))
  obtain ⟨ao, cap, cb, off, Z, rfl, hc1, hc2, _⟩ := hv
  by_cases hn : 1048576 < n
  · have hn' : (1048576 : Int) < n := by omega
    go_enter Try.func7, Try.ntmps7
    go_wp2
    go_ret
    exact ⟨rfl, Below.refl _ _⟩
  · have hn' : ¬ (1048576 : Int) < n := by omega
    go_enter Try.func7, Try.ntmps7
    go_wp2_with fail
    refine HD.out.mono ?_
    rintro e w1 ⟨vg, g, rr, cc, rfl, _, hm, hgn, hgl, hra, hcb, bw1⟩
    obtain ⟨bg, og, cg, rfl⟩ := hm.shape (by omega)
    have R_g := Lib.hid hm
    have HGL := Lib.hid hgl
    obtain ⟨hgn1, hgn5⟩ := hgn
    clear hm hgl HD
    have sw1 : w.heap.size ≤ w1.heap.size := bw1.size
    have BL := Lib.hid bw1
    clear bw1
    by_cases hok : g.Cell rr cc
    case neg =>
      have HNO := Lib.hid (atV_no hok)
      clear hok
      go_wp2_with fail
      refine (implAt_i _ 0 w1.heap.size g rr cc _ (R_g.out.mono (Nat.zero_le _) (by omega)) (Nat.le_refl _) (-1) HNO.out).mono ?_
      rintro e w2 ⟨rfl, bw2⟩
      have sw2 : w1.heap.size ≤ w2.heap.size := bw2.size
      have L_1 := Lib.hid (R_g.out.same (SameIn.below bw2 (by omega)))
      clear R_g
      have BL_2 := Lib.hid (BL.out.trans (bw2.mono (by omega)))
      clear BL bw2
      go_wp2_with fail
      refine (specAt_i _ 0 w2.heap.size g rr cc _ (L_1.out.mono (Nat.zero_le _) (by omega)) (-1) HNO.out).mono ?_
      rintro e w3 ⟨rfl, bw3⟩
      have sw3 : w2.heap.size ≤ w3.heap.size := bw3.size
      have L_3 := Lib.hid (L_1.out.same (SameIn.below bw3 (by omega)))
      clear L_1
      have BL_4 := Lib.hid (BL_2.out.trans (bw3.mono (by omega)))
      clear BL_2 bw3
      go_wp2
      go_ret
      exact ⟨rfl, BL_4.out⟩
    case pos =>
      obtain ⟨r', er⟩ := Int.eq_ofNat_of_zero_le hok.2.1.1
      obtain ⟨c', ec⟩ := Int.eq_ofNat_of_zero_le hok.2.2.1
      subst er ec
      have hr : r' < g.n := by have := hok.2.1.2; omega
      have hc0 : c' < g.len 0 := by have := hok.2.2.2; omega
      have hc : c' < g.len r' := by have := (hok.1.2.2 r' hr).1; omega
      have hX := (hok.1.2.2 r' hr).2 c' hc
      have HVAL := Lib.hid hok.1
      have HYES := Lib.hid (atV_yes hok)
      have HSO := Lib.hid (show g.SetOk (r' : Int) (c' : Int) (g.z r' c') from ⟨hok, hX⟩)
      have HUP := Lib.hid (show G.Eqv (g.upd (r' : Int).toNat (c' : Int).toNat (g.z r' c')) g from upd_same)
      have HTC := Lib.hid (show (turnG g).atV (c' : Int) ((g.n - 1 - r' : Nat) : Int) = g.z r' c' from by
        rw [atV_yes (show (turnG g).Cell (c' : Int) ((g.n - 1 - r' : Nat) : Int) from ⟨turn_valid hok.1, ⟨by omega, by show (c' : Int) ≤ (g.len 0 : Int) - 1; omega⟩, by omega, by show ((g.n - 1 - r' : Nat) : Int) ≤ (g.n : Int) - 1; omega⟩)]
        show g.z (g.n - 1 - (g.n - 1 - r')) c' = g.z r' c'
        rw [show g.n - 1 - (g.n - 1 - r') = r' by omega])
      obtain ⟨X, eX⟩ : ∃ X, g.z r' c' = X := ⟨_, rfl⟩
      have EX := Lib.hid eX
      rw [eX] at HYES HSO HUP HTC hX
      have hXX : (X != X) = false := by simp
      have hXE : (X == X) = true := by simp
      have hX0 : ¬ X < 0 := by omega
      have hlr : (c' : Int) < g.len r' := by omega
      have hrn : (r' : Int) < g.n := by omega
      have hwr : IntKind.i64.wrap ((g.n : Int) - 1 - r') = ((g.n - 1 - r' : Nat) : Int) := by rw [IntWalk.i64_in _ (by omega)]; omega
      have HAT := Lib.hid (show ∀ (v : Value) (hi : Nat) (W : World) (y : Int), RdM 0 hi W v (turnG g) → hi ≤ W.heap.size → y = ((g.n - 1 - r' : Nat) : Int) → Calls Try.prog 29 #[v, .int .i64 c', .int .i64 y] W (IntPost X W) from fun v hi W y hv hh e => by
        subst e
        exact implAt_i v 0 hi (turnG g) c' _ W hv hh X HTC.out)
      clear hok eX
      go_wp2_with fail
      refine (implAt_i _ 0 w1.heap.size g r' c' _ (R_g.out.mono (Nat.zero_le _) (by omega)) (Nat.le_refl _) X HYES.out).mono ?_
      rintro e w2 ⟨rfl, bw2⟩
      have sw2 : w1.heap.size ≤ w2.heap.size := bw2.size
      have L_1 := Lib.hid (R_g.out.same (SameIn.below bw2 (by omega)))
      clear R_g
      have BL_2 := Lib.hid (BL.out.trans (bw2.mono (by omega)))
      clear BL bw2
      go_wp2_with fail
      refine (specAt_i _ 0 w2.heap.size g r' c' _ (L_1.out.mono (Nat.zero_le _) (by omega)) X HYES.out).mono ?_
      rintro e w3 ⟨rfl, bw3⟩
      have sw3 : w2.heap.size ≤ w3.heap.size := bw3.size
      have L_3 := Lib.hid (L_1.out.same (SameIn.below bw3 (by omega)))
      clear L_1
      have BL_4 := Lib.hid (BL_2.out.trans (bw3.mono (by omega)))
      clear BL_2 bw3
      go_wp2_with fail
      refine (implGridSet_yes _ 0 w3.heap.size g r' c' X _ (L_3.out.mono (Nat.zero_le _) (by omega)) (Nat.le_refl _) HSO.out).mono ?_
      rintro e w4 ⟨r_5, rfl, ⟨_, _, _, rfl⟩, ow4, bw4⟩
      have Nw4 := Lib.hid (ow4.rd)
      clear ow4
      have sw4 : w3.heap.size ≤ w4.heap.size := bw4.size
      have L_6 := Lib.hid (L_3.out.same (SameIn.below bw4 (by omega)))
      clear L_3
      have BL_7 := Lib.hid (BL_4.out.trans (bw4.mono (by omega)))
      clear BL_4 bw4
      go_wp2_with fail
      refine (implGridTurn_yes _ 0 w4.heap.size g _ (L_6.out.mono (Nat.zero_le _) (by omega)) (Nat.le_refl _) HVAL.out).mono ?_
      rintro e w5 ⟨r_8, rfl, ⟨_, _, _, rfl⟩, ow5, bw5⟩
      have Nw5 := Lib.hid (ow5.rd)
      clear ow5
      have sw5 : w4.heap.size ≤ w5.heap.size := bw5.size
      have L_9 := Lib.hid (L_6.out.same (SameIn.below bw5 (by omega)))
      clear L_6
      have L_10 := Lib.hid (Nw4.out.same (SameIn.below bw5 (by omega)))
      clear Nw4
      have BL_11 := Lib.hid (BL_7.out.trans (bw5.mono (by omega)))
      clear BL_7 bw5
      go_wp2_with fail
      refine (sameGrid_any _ _ _ _ _ _ (g) _ (L_10.out.congr HUP.out) (L_9.out)).mono ?_
      intro e w6 hq
      obtain ⟨rfl, bw6⟩ := hq.below
      clear hq
      have sw6 : w5.heap.size ≤ w6.heap.size := bw6.size
      have L_12 := Lib.hid (L_9.out.same (SameIn.below bw6 (by omega)))
      clear L_9
      have L_13 := Lib.hid (L_10.out.same (SameIn.below bw6 (by omega)))
      clear L_10
      have L_14 := Lib.hid (Nw5.out.same (SameIn.below bw6 (by omega)))
      clear Nw5
      have BL_15 := Lib.hid (BL_11.out.trans (bw6.mono (by omega)))
      clear BL_11 bw6
      go_wp2_with fail
      refine (HAT.out _ w6.heap.size _ _ (L_14.out.mono (Nat.zero_le _) (by omega)) (Nat.le_refl _) (by omega)).mono ?_
      rintro e w7 ⟨rfl, bw7⟩
      have sw7 : w6.heap.size ≤ w7.heap.size := bw7.size
      have L_16 := Lib.hid (L_12.out.same (SameIn.below bw7 (by omega)))
      clear L_12
      have L_17 := Lib.hid (L_13.out.same (SameIn.below bw7 (by omega)))
      clear L_13
      have L_18 := Lib.hid (L_14.out.same (SameIn.below bw7 (by omega)))
      clear L_14
      have BL_19 := Lib.hid (BL_15.out.trans (bw7.mono (by omega)))
      clear BL_15 bw7
      obtain ⟨b, off, cap', b1, off1, cp, he, p1, p2, _, _⟩ := L_16.out.cellAt hr hc
      simp only [Value.slice.injEq] at he
      obtain ⟨he1, _, he2⟩ := he
      simp only [Option.some.injEq, Addr.mk.injEq] at he1
      obtain ⟨rfl, rfl, _⟩ := he1
      rw [EX.out] at p2
      go_wp2
      go_ret
      exact ⟨rfl, BL_19.out⟩
end Go.Proofs.Ytjllmidagcniaaa
