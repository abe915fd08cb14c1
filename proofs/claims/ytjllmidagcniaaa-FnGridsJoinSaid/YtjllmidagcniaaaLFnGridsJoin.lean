/- The law FnGridsJoin of the promises: its walk. -/
import Derived.Test.YtjllmidagcniaaaSdM
import Derived.Test.YtjllmidagcniaaaDrawSe
namespace Go.Proofs.Ytjllmidagcniaaa
open Go.RowKit
set_option linter.unusedVariables false

set_option maxHeartbeats 4000000 in
set_option maxRecDepth 100000 in
theorem law_FnGridsJoin (v : Value) (n : Nat) (w : World) (hv : RdB w.heap.size w v n) : Calls Try.prog 4 #[v] w (LawPost w) := by
  have HD := Lib.hid (draw_DrawGridsJoin v n w.heap.size w hv (Nat.le_refl _))
  obtain ⟨ao, cap, cb, off, Z, rfl, hc1, hc2, _⟩ := hv
  by_cases hn : 1048576 < n
  · have hn' : (1048576 : Int) < n := by omega
    go_enter Try.func4, Try.ntmps4
    go_wp2
    go_ret
    exact ⟨rfl, Below.refl _ _⟩
  · have hn' : ¬ (1048576 : Int) < n := by omega
    go_enter Try.func4, Try.ntmps4
    go_wp2_with fail
    refine HD.out.mono ?_
    rintro e w1 ⟨va, a, vb, b, rfl, _, _, hma, hmb, hna, hnb, hla, hlb, bw1⟩
    obtain ⟨ba, oa, ca, rfl⟩ := hma.shape (by omega)
    obtain ⟨bb, ob, cb', rfl⟩ := hmb.shape (by omega)
    have R_a := Lib.hid hma
    have R_b := Lib.hid hmb
    have HLA := Lib.hid hla
    have HLB := Lib.hid hlb
    obtain ⟨hna1, hna5⟩ := hna
    obtain ⟨hnb1, hnb5⟩ := hnb
    clear hma hmb hla hlb HD
    have sw1 : w.heap.size ≤ w1.heap.size := bw1.size
    have BL := Lib.hid bw1
    clear bw1
    by_cases hok : JoinOk a b
    case neg =>
      have HOK := Lib.hid hok
      clear hok
      go_wp2_with fail
      refine (((implGridsJoin_any _ _ 0 w1.heap.size a b _ (R_a.out.mono (Nat.zero_le _) (by omega)) (R_b.out.mono (Nat.zero_le _) (by omega)) (Nat.le_refl _)).mono fun _ _ hp => hp.2 HOK.out)).mono ?_
      rintro e w2 ⟨r_1, rfl, ⟨_, _, _, rfl⟩, ow2, bw2⟩
      have Nw2 := Lib.hid (ow2.rd)
      clear ow2
      have sw2 : w1.heap.size ≤ w2.heap.size := bw2.size
      have L_2 := Lib.hid (R_a.out.same (SameIn.below bw2 (by omega)))
      clear R_a
      have L_3 := Lib.hid (R_b.out.same (SameIn.below bw2 (by omega)))
      clear R_b
      have BL_4 := Lib.hid (BL.out.trans (bw2.mono (by omega)))
      clear BL bw2
      go_wp2_with fail
      refine (((specJoin_any _ _ 0 w2.heap.size a b _ (L_2.out.mono (Nat.zero_le _) (by omega)) (L_3.out.mono (Nat.zero_le _) (by omega)) (Nat.le_refl _)).mono fun _ _ hp => hp.2 HOK.out)).mono ?_
      rintro e w3 ⟨r_5, rfl, ⟨_, _, _, rfl⟩, ow3, bw3⟩
      have Nw3 := Lib.hid (ow3)
      clear ow3
      have sw3 : w2.heap.size ≤ w3.heap.size := bw3.size
      have L_6 := Lib.hid (L_2.out.same (SameIn.below bw3 (by omega)))
      clear L_2
      have L_7 := Lib.hid (L_3.out.same (SameIn.below bw3 (by omega)))
      clear L_3
      have L_8 := Lib.hid (Nw2.out.same (SameIn.below bw3 (by omega)))
      clear Nw2
      have BL_9 := Lib.hid (BL_4.out.trans (bw3.mono (by omega)))
      clear BL_4 bw3
      go_wp2_with fail
      refine (sameGrid_any _ _ _ _ _ _ (G0) _ (L_8.out) (Nw3.out)).mono ?_
      intro e w4 hq
      obtain ⟨rfl, bw4⟩ := hq.below
      clear hq
      have sw4 : w3.heap.size ≤ w4.heap.size := bw4.size
      have L_10 := Lib.hid (L_6.out.same (SameIn.below bw4 (by omega)))
      clear L_6
      have L_11 := Lib.hid (L_7.out.same (SameIn.below bw4 (by omega)))
      clear L_7
      have L_12 := Lib.hid (L_8.out.same (SameIn.below bw4 (by omega)))
      clear L_8
      have L_13 := Lib.hid (Nw3.out.same (SameIn.below bw4 (by omega)))
      clear Nw3
      have BL_14 := Lib.hid (BL_9.out.trans (bw4.mono (by omega)))
      clear BL_9 bw4
      go_wp2_with fail
      refine (sameGrid_any _ _ _ _ _ _ (G0) _ (L_12.out) (L_13.out)).mono ?_
      intro e w5 hq
      obtain ⟨rfl, bw5⟩ := hq.below
      clear hq
      have sw5 : w4.heap.size ≤ w5.heap.size := bw5.size
      have L_15 := Lib.hid (L_10.out.same (SameIn.below bw5 (by omega)))
      clear L_10
      have L_16 := Lib.hid (L_11.out.same (SameIn.below bw5 (by omega)))
      clear L_11
      have L_17 := Lib.hid (L_12.out.same (SameIn.below bw5 (by omega)))
      clear L_12
      have L_18 := Lib.hid (L_13.out.same (SameIn.below bw5 (by omega)))
      clear L_13
      have BL_19 := Lib.hid (BL_14.out.trans (bw5.mono (by omega)))
      clear BL_14 bw5
      go_wp2
      go_ret
      exact ⟨rfl, BL_19.out⟩
    case pos =>
      have HOK := Lib.hid hok
      have HVO := Lib.hid (jn_val hok)
      have hk := agB_ok hok.1
      have h1 := hk.1.2.1
      have h2 := hk.2.1.2.1
      have hnn := hk.2.2
      have h7 := hok.2
      have HW := Lib.hid (jn_west hok)
      have HE := Lib.hid (jn_east hok)
      obtain ⟨al, eal⟩ : ∃ al, a.len 0 = al := ⟨_, rfl⟩
      obtain ⟨bl, ebl⟩ : ∃ bl, b.len 0 = bl := ⟨_, rfl⟩
      have EAL := Lib.hid eal
      have EBL := Lib.hid ebl
      obtain ⟨jl, ejl⟩ : ∃ jl, al + bl = jl + 1 := ⟨al + bl - 1, by omega⟩
      have EJL := Lib.hid (show (joinG a b).len 0 = jl from by show a.len 0 + (b.len 0 - 1) = jl; omega)
      have hal : 1 ≤ al ∧ al ≤ 7 := by omega
      have hbl : 1 ≤ bl ∧ bl ≤ 7 := by omega
      have hjl : jl ≤ 7 := by omega
      have HJL := Lib.hid ejl
      have HNN := Lib.hid hnn
      have hbn : 1 ≤ b.n ∧ b.n ≤ 7 := by omega
      have hjc : ((jl : Int) == (al : Int) + bl - 1) = true := by simp; omega
      have HC1 := Lib.hid (show ∀ (v : Value) (hi : Nat) (W : World) (x1 x2 : Int), RdM 0 hi W v (joinG a b) → hi ≤ W.heap.size → x1 = ((a.n - 1 : Nat) : Int) → x2 = ((a.len 0 - 1 : Nat) : Int) → Calls Try.prog 22 #[v, .int .i64 0, .int .i64 x1, .int .i64 0, .int .i64 x2] W (GPost true (partG (joinG a b) 0 (a.n - 1) 0 (a.len 0 - 1)) W) from fun v hi W x1 x2 hv hh e1 e2 => part_at v 0 hi (joinG a b) 0 x1 0 x2 0 (a.n - 1) 0 (a.len 0 - 1) W hv hh (part_ok HVO.out (by omega) (show a.n - 1 < a.n by omega) (by omega) (by rw [EJL.out]; have := EAL.out; omega)) rfl e1 rfl e2)
      have HC2 := Lib.hid (show ∀ (v : Value) (hi : Nat) (W : World) (x1 x2 x3 : Int), RdM 0 hi W v (joinG a b) → hi ≤ W.heap.size → x1 = ((a.n - 1 : Nat) : Int) → x2 = ((a.len 0 - 1 : Nat) : Int) → x3 = ((a.len 0 + b.len 0 - 2 : Nat) : Int) → Calls Try.prog 22 #[v, .int .i64 0, .int .i64 x1, .int .i64 x2, .int .i64 x3] W (GPost true (partG (joinG a b) 0 (a.n - 1) (a.len 0 - 1) (a.len 0 + b.len 0 - 2)) W) from fun v hi W x1 x2 x3 hv hh e1 e2 e3 => part_at v 0 hi (joinG a b) 0 x1 x2 x3 0 (a.n - 1) (a.len 0 - 1) (a.len 0 + b.len 0 - 2) W hv hh (part_ok HVO.out (by omega) (show a.n - 1 < a.n by omega) (by have := EAL.out; have := EBL.out; omega) (by rw [EJL.out]; have := EAL.out; have := EBL.out; omega)) rfl e1 e2 e3)
      clear hok hk h1 h2 hnn h7 eal ebl ejl
      go_wp2_with fail
      refine (((implGridsJoin_any _ _ 0 w1.heap.size a b _ (R_a.out.mono (Nat.zero_le _) (by omega)) (R_b.out.mono (Nat.zero_le _) (by omega)) (Nat.le_refl _)).mono fun _ _ hp => hp.1 HOK.out)).mono ?_
      rintro e w2 ⟨r_1, rfl, _, ow2, bw2⟩
      obtain ⟨b_out, o_out, c_out, rfl⟩ := (ow2.rd).shape (by show 0 < a.n; omega)
      have Nw2 := Lib.hid (ow2.rd)
      clear ow2
      have sw2 : w1.heap.size ≤ w2.heap.size := bw2.size
      have L_2 := Lib.hid (R_a.out.same (SameIn.below bw2 (by omega)))
      clear R_a
      have L_3 := Lib.hid (R_b.out.same (SameIn.below bw2 (by omega)))
      clear R_b
      have BL_4 := Lib.hid (BL.out.trans (bw2.mono (by omega)))
      clear BL bw2
      go_wp2_with fail
      refine (((specJoin_any _ _ 0 w2.heap.size a b _ (L_2.out.mono (Nat.zero_le _) (by omega)) (L_3.out.mono (Nat.zero_le _) (by omega)) (Nat.le_refl _)).mono fun _ _ hp => hp.1 HOK.out)).mono ?_
      rintro e w3 ⟨r_5, rfl, ⟨_, _, _, rfl⟩, ow3, bw3⟩
      have Nw3 := Lib.hid (ow3)
      clear ow3
      have sw3 : w2.heap.size ≤ w3.heap.size := bw3.size
      have L_6 := Lib.hid (L_2.out.same (SameIn.below bw3 (by omega)))
      clear L_2
      have L_7 := Lib.hid (L_3.out.same (SameIn.below bw3 (by omega)))
      clear L_3
      have L_8 := Lib.hid (Nw2.out.same (SameIn.below bw3 (by omega)))
      clear Nw2
      have BL_9 := Lib.hid (BL_4.out.trans (bw3.mono (by omega)))
      clear BL_4 bw3
      go_wp2_with fail
      refine (sameGrid_any _ _ _ _ _ _ ((joinG a b)) _ (L_8.out) (Nw3.out)).mono ?_
      intro e w4 hq
      obtain ⟨rfl, bw4⟩ := hq.below
      clear hq
      have sw4 : w3.heap.size ≤ w4.heap.size := bw4.size
      have L_10 := Lib.hid (L_6.out.same (SameIn.below bw4 (by omega)))
      clear L_6
      have L_11 := Lib.hid (L_7.out.same (SameIn.below bw4 (by omega)))
      clear L_7
      have L_12 := Lib.hid (L_8.out.same (SameIn.below bw4 (by omega)))
      clear L_8
      have L_13 := Lib.hid (Nw3.out.same (SameIn.below bw4 (by omega)))
      clear Nw3
      have BL_14 := Lib.hid (BL_9.out.trans (bw4.mono (by omega)))
      clear BL_9 bw4
      obtain ⟨ha1, ha2, ha3⟩ := L_10.out.head (by omega) al EAL.out
      go_wp2_with fail
      refine (HC1.out _ w4.heap.size _ _ _ (L_12.out.mono (Nat.zero_le _) (by omega)) (Nat.le_refl _) (by omega) (by have := EAL.out; omega)).mono ?_
      rintro e w5 ⟨r_15, rfl, ⟨_, _, _, rfl⟩, ow5, bw5⟩
      have Nw5 := Lib.hid (ow5.rd)
      clear ow5
      have sw5 : w4.heap.size ≤ w5.heap.size := bw5.size
      have L_16 := Lib.hid (L_10.out.same (SameIn.below bw5 (by omega)))
      clear L_10
      have L_17 := Lib.hid (L_11.out.same (SameIn.below bw5 (by omega)))
      clear L_11
      have L_18 := Lib.hid (L_12.out.same (SameIn.below bw5 (by omega)))
      clear L_12
      have BL_19 := Lib.hid (BL_14.out.trans (bw5.mono (by omega)))
      clear BL_14 bw5
      clear ha3
      obtain ⟨hb1, hb2, hb3⟩ := L_17.out.head (by omega) bl EBL.out
      go_wp2_with fail
      refine (HC2.out _ w5.heap.size _ _ _ _ (L_18.out.mono (Nat.zero_le _) (by omega)) (Nat.le_refl _) (by omega) (by have := EAL.out; omega) (by have := EAL.out; have := EBL.out; omega)).mono ?_
      rintro e w6 ⟨r_20, rfl, ⟨_, _, _, rfl⟩, ow6, bw6⟩
      have Nw6 := Lib.hid (ow6.rd)
      clear ow6
      have sw6 : w5.heap.size ≤ w6.heap.size := bw6.size
      have L_21 := Lib.hid (L_16.out.same (SameIn.below bw6 (by omega)))
      clear L_16
      have L_22 := Lib.hid (L_17.out.same (SameIn.below bw6 (by omega)))
      clear L_17
      have L_23 := Lib.hid (L_18.out.same (SameIn.below bw6 (by omega)))
      clear L_18
      have L_24 := Lib.hid (Nw5.out.same (SameIn.below bw6 (by omega)))
      clear Nw5
      have BL_25 := Lib.hid (BL_19.out.trans (bw6.mono (by omega)))
      clear BL_19 bw6
      clear hb3
      obtain ⟨hb4, hb5, hb6⟩ := L_22.out.head (by omega) bl EBL.out
      obtain ⟨hc4, hc5, hc6⟩ := L_23.out.head (by show 0 < a.n; omega) jl EJL.out
      have hn0 : (0 : Int) < (joinG a b).n := by show (0 : Int) < a.n; omega
      have hn1 : (0 : Int) < b.n := by omega
      have HQ1 := Lib.hid (fun n => sameGrid_any _ _ _ _ _ _ a (w6.drewN n) ((L_24.out.congr HW.out).drewG n) (L_21.out.drewG n))
      have HQ2 := Lib.hid (fun n => sameGrid_any _ _ _ _ _ _ b (w6.drewN n) ((Nw6.out.congr HE.out).drewG n) (L_22.out.drewG n))
      go_wp2_with fail
      go_quiet (first | (go_at_call 18; with_reducible exact Calls.quiet_ofG (HQ1.out _)) | (go_at_call 18; with_reducible exact Calls.quiet_ofG (HQ2.out _)))
      go_wp2
      go_ret
      exact ⟨rfl, below_drewN BL_25.out _⟩
end Go.Proofs.Ytjllmidagcniaaa
