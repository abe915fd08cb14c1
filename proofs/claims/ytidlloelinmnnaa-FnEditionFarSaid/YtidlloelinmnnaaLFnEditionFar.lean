/- The law FnEditionFar of the promises: its walk. -/
import Derived.Test.YtidlloelinmnnaaFtP
import Derived.Test.YtidlloelinmnnaaDrawTw
import Derived.Test.YtidlloelinmnnaaSamN
import Derived.Test.YtidlloelinmnnaaPHelp
import Derived.Test.YtidlloelinmnnaaImplG
namespace Go.Proofs.Ytidlloelinmnnaa
open Go.RowKit
set_option linter.unusedVariables false

set_option maxHeartbeats 4000000 in
set_option maxRecDepth 100000 in
theorem law_FnEditionFar (v : Value) (n : Nat) (vm : Value) (nm : Nat) (w : World) (hv : RdB w.heap.size w v n) (hvm : RdB w.heap.size w vm nm) : Calls Try.prog 12 #[v, vm] w (LawPost w) := by
  have HD := Lib.hid (draw_DrawEditionFar v n w.heap.size w hv (Nat.le_refl _))
  obtain ⟨ao, cap, cb, off, Z, rfl, hc1, hc2, _⟩ := hv
  obtain ⟨ao2, cap2, cb2, off2, Z2, rfl, hd1, hd2, _⟩ := hvm
  by_cases hn : 1048576 < n
  · have hn' : (1048576 : Int) < n := by omega
    go_enter Try.func12, Try.ntmps12
    go_wp2
    go_ret
    exact ⟨rfl, Below.refl _ _⟩
  by_cases hm : 1048576 < nm
  · have hn' : ¬ (1048576 : Int) < n := by omega
    have hm' : (1048576 : Int) < nm := by omega
    go_enter Try.func12, Try.ntmps12
    go_wp2
    go_ret
    exact ⟨rfl, Below.refl _ _⟩
  · have hn' : ¬ (1048576 : Int) < n := by omega
    have hm' : ¬ (1048576 : Int) < nm := by omega
    go_enter Try.func12, Try.ntmps12
    go_wp2_with fail
    refine HD.out.mono ?_
    rintro e w1 ⟨va, a, vb, b, rfl, _, _, hma, hmb, hna, hnb, hla, hlb, bw1⟩
    obtain ⟨ba, oa, ca, rfl⟩ := hma.shape (by omega)
    obtain ⟨bb, ob, cb', rfl⟩ := hmb.shape (by omega)
    have R_a := Lib.hid hma
    have R_b := Lib.hid hmb
    have HLA := Lib.hid hla
    have HLB := Lib.hid hlb
    obtain ⟨hna1, hna5⟩ := hna
    obtain ⟨hnb1, hnb5⟩ := hnb
    clear hma hmb hla hlb HD
    have sw1 : w.heap.size ≤ w1.heap.size := bw1.size
    have BL := Lib.hid bw1
    clear bw1
    by_cases hok : AkOk a b
    case neg =>
      have HFA := Lib.hid (faE_no hok)
      clear hok
      go_wp2_with fail
      refine (implFar_i _ _ 0 w1.heap.size a b _ (R_a.out.mono (Nat.zero_le _) (by omega)) (R_b.out.mono (Nat.zero_le _) (by omega)) (Nat.le_refl _) _ HFA.out).mono ?_
      rintro e w2 ⟨rfl, bw2⟩
      have sw2 : w1.heap.size ≤ w2.heap.size := bw2.size
      have L_1 := Lib.hid (R_a.out.same (SameIn.below bw2 (by omega)))
      clear R_a
      have L_2 := Lib.hid (R_b.out.same (SameIn.below bw2 (by omega)))
      clear R_b
      have BL_3 := Lib.hid (BL.out.trans (bw2.mono (by omega)))
      clear BL bw2
      go_wp2_with fail
      refine (specFar_i _ _ 0 w2.heap.size a b _ (L_1.out.mono (Nat.zero_le _) (by omega)) (L_2.out.mono (Nat.zero_le _) (by omega)) (Nat.le_refl _) _ HFA.out).mono ?_
      rintro e w3 ⟨rfl, bw3⟩
      have sw3 : w2.heap.size ≤ w3.heap.size := bw3.size
      have L_4 := Lib.hid (L_1.out.same (SameIn.below bw3 (by omega)))
      clear L_1
      have L_5 := Lib.hid (L_2.out.same (SameIn.below bw3 (by omega)))
      clear L_2
      have BL_6 := Lib.hid (BL_3.out.trans (bw3.mono (by omega)))
      clear BL_3 bw3
      go_wp2
      go_ret
      exact ⟨rfl, BL_6.out⟩
    case pos =>
      have HOK := Lib.hid hok
      have HFA := Lib.hid (faE_yes hok)
      have HFS := Lib.hid ((fa_sym b a).trans (faE_yes hok))
      have hle := mkL_len (b := b) hok.1
      obtain ⟨D, eD⟩ : ∃ D, (mkL a b).length = D := ⟨_, rfl⟩
      rw [eD] at HFA HFS hle
      have hZE := fa_zero hok
      rw [HFA.out] at hZE
      have hA1 := hok.1.1
      have hA2 := hok.1.2.1
      obtain ⟨C, eC⟩ : ∃ C, a.len 0 = C := ⟨_, rfl⟩
      have EC := Lib.hid eC
      rw [eC] at hA2
      have hN1 : 0 < a.n * C := Nat.mul_pos (by omega) (by omega)
      have hN2 : a.n * C ≤ 49 := mul_le_49 hA1.2 hA2.2
      obtain ⟨N, eN⟩ : ∃ N, a.n * C = N := ⟨_, rfl⟩
      have EN := Lib.hid eN
      rw [eN] at hN1 hN2
      obtain ⟨i, ei⟩ : ∃ i, nm % N = i := ⟨_, rfl⟩
      have hi : i < N := by rw [← ei]; exact Nat.mod_lt nm hN1
      have hmod : (nm : Int) % (N : Int) = i := by rw [← ei, Int.natCast_emod]
      have hmod2 : (nm : Int).tmod (N : Int) = i := by rw [Int.tmod_eq_emod_of_nonneg (by omega)]; exact hmod
      obtain ⟨r, er⟩ : ∃ r, i / C = r := ⟨_, rfl⟩
      obtain ⟨c, ec⟩ : ∃ c, i % C = c := ⟨_, rfl⟩
      have hr : r < a.n := by rw [← er]; exact Nat.div_lt_of_lt_mul (by rw [Nat.mul_comm, eN]; exact hi)
      have hc : c < C := by rw [← ec]; exact Nat.mod_lt i (by omega)
      have hdv : (i : Int) / (C : Int) = r := by rw [← er, Int.natCast_ediv]
      have hdv2 : (i : Int).tdiv (C : Int) = r := by rw [Int.tdiv_eq_ediv_of_nonneg (by omega)]; exact hdv
      have hrm : (i : Int) % (C : Int) = c := by rw [← ec, Int.natCast_emod]
      have hrm2 : (i : Int).tmod (C : Int) = c := by rw [Int.tmod_eq_emod_of_nonneg (by omega)]; exact hrm
      obtain ⟨x, ex⟩ : ∃ x, nm % 60 = x := ⟨_, rfl⟩
      have hx : x < 60 := by rw [← ex]; exact Nat.mod_lt nm (by omega)
      have hxm : (nm : Int) % 60 = x := by rw [← ex]; omega
      have hxm2 : (nm : Int).tmod 60 = x := by rw [Int.tmod_eq_emod_of_nonneg (by omega)]; exact hxm
      have HSO := Lib.hid (show a.SetOk (r : Int) (c : Int) (x : Int) from ⟨⟨hok.1, ⟨by omega, by omega⟩, by omega, by rw [eC]; omega⟩, by omega, by omega⟩)
      obtain ⟨G3, eG3⟩ : ∃ G3, a.upd (r : Int).toNat (c : Int).toNat x = G3 := ⟨_, rfl⟩
      have hG3 : AkOk a G3 := by
        rw [← eG3]
        refine ⟨hok.1, ⟨hok.1.1, hok.1.2.1, fun r' hr' => ⟨(hok.1.2.2 r' hr').1, fun c' hc' => ?_⟩⟩, rfl, rfl⟩
        show 0 ≤ (if _ then (x : Int) else _) ∧ (if _ then (x : Int) else _) ≤ 99
        split
        · omega
        · exact (hok.1.2.2 r' hr').2 c' hc'
      have HG3 := Lib.hid eG3
      have hT := fa_tri hok hG3
      rw [HFA.out] at hT
      have hF1 : 0 ≤ faE a G3 ∧ faE a G3 ≤ 49 := by rw [faE_yes hG3]; have := mkL_len (b := G3) hok.1; omega
      have hG3b : AkOk G3 b := ⟨hG3.2.1, hok.2.1, hG3.2.2.1.symm.trans hok.2.2.1, hG3.2.2.2.symm.trans hok.2.2.2⟩
      have hF2 : 0 ≤ faE G3 b ∧ faE G3 b ≤ 49 := by rw [faE_yes hG3b]; have := mkL_len (b := b) hG3b.1; omega
      obtain ⟨P, eP⟩ : ∃ P, faE a G3 = P := ⟨_, rfl⟩
      obtain ⟨Q, eQ⟩ : ∃ Q, faE G3 b = Q := ⟨_, rfl⟩
      rw [eP] at hT hF1
      rw [eQ] at hT hF2
      have EP := Lib.hid eP
      have EQ := Lib.hid eQ
      have hd0 : ((D : Int) != D) = false := by simp
      have hd1 : ((D : Int) == D) = true := by simp
      have hT' : (D : Int) ≤ P + Q := hT
      have hTd : decide ((D : Int) ≤ P + Q) = true := by simpa using hT
      have hwr : IntKind.i64.wrap (r : Int) = r := IntWalk.i64_in _ (by omega)
      have hN0 : ¬ (N : Int) = 0 := by omega
      have hC0 : ¬ (C : Int) = 0 := by omega
      have ha0 : (0 : Int) < a.n := by omega
      have hsub : (∃ he : D = 0, G.Eqv a b) ∨ (∃ he : D ≠ 0, GDif a b) := by
        by_cases h : D = 0
        · exact Or.inl ⟨h, hZE.1 (by omega)⟩
        · exact Or.inr ⟨h, hok.2.2.1, fun r' hr' => by have := (hok.1.2.2 r' hr').1; have := (hok.2.1.2.2 r' (by have := hok.2.2.1; omega)).1; have := hok.2.2.2; omega, fun e => h (by have := hZE.2 e; omega)⟩
      clear hok eD hZE eC eN ei er ec ex eG3 hG3 hG3b hT eP eQ
      go_wp2_with fail
      refine (implFar_i _ _ 0 w1.heap.size a b _ (R_a.out.mono (Nat.zero_le _) (by omega)) (R_b.out.mono (Nat.zero_le _) (by omega)) (Nat.le_refl _) _ HFA.out).mono ?_
      rintro e w2 ⟨rfl, bw2⟩
      have sw2 : w1.heap.size ≤ w2.heap.size := bw2.size
      have L_1 := Lib.hid (R_a.out.same (SameIn.below bw2 (by omega)))
      clear R_a
      have L_2 := Lib.hid (R_b.out.same (SameIn.below bw2 (by omega)))
      clear R_b
      have BL_3 := Lib.hid (BL.out.trans (bw2.mono (by omega)))
      clear BL bw2
      go_wp2_with fail
      refine (specFar_i _ _ 0 w2.heap.size a b _ (L_1.out.mono (Nat.zero_le _) (by omega)) (L_2.out.mono (Nat.zero_le _) (by omega)) (Nat.le_refl _) _ HFA.out).mono ?_
      rintro e w3 ⟨rfl, bw3⟩
      have sw3 : w2.heap.size ≤ w3.heap.size := bw3.size
      have L_4 := Lib.hid (L_1.out.same (SameIn.below bw3 (by omega)))
      clear L_1
      have L_5 := Lib.hid (L_2.out.same (SameIn.below bw3 (by omega)))
      clear L_2
      have BL_6 := Lib.hid (BL_3.out.trans (bw3.mono (by omega)))
      clear BL_3 bw3
      have hv1 := HOK.out.1
      go_wp2_with fail
      refine (cellsOf_any _ 0 w3.heap.size a _ (L_4.out.mono (Nat.zero_le _) (by omega)) hv1).mono ?_
      rintro e w' ⟨rfl, rfl⟩
      rw [EC.out, EN.out]
      obtain ⟨ha1, ha2, ha3⟩ := L_4.out.head (by omega) C EC.out
      clear hv1
      go_wp2_with fail
      have HGS := Lib.hid (fun (W : World) (hb : Below w3.heap.size w3 W) => implGridSet_yes _ 0 w3.heap.size a (r : Int) (c : Int) (x : Int) W ((L_4.out.mono (Nat.zero_le _) (by omega)).same (SameIn.below hb (Nat.le_refl _))) hb.size HSO.out)
      go_region_with ((go_at_call 58; (with_reducible refine (HGS.out _ (by exact (Below.refl _ _).drew)).mono ?_); rintro e w5 ⟨r_1, rfl, ⟨_, _, _, rfl⟩, ow5, bw5⟩; rw [HG3.out] at ow5; have Nw5 := Lib.hid ow5.rd; have cw5 := Lib.hid (show Below w3.heap.size w3 w5 from bw5.undrew); clear ow5 bw5))
      all_goals
        have bw5 := cw5.out
        clear cw5 HGS ha3
        have sw5 : w3.heap.size ≤ w5.heap.size := bw5.size
        have L_7 := Lib.hid (L_4.out.same (SameIn.below bw5 (by omega)))
        clear L_4
        have L_8 := Lib.hid (L_5.out.same (SameIn.below bw5 (by omega)))
        clear L_5
        have BL_9 := Lib.hid (BL_6.out.trans (bw5.mono (by omega)))
        clear BL_6 bw5
        go_wp2_with fail
        refine (implFar_i _ _ 0 w5.heap.size b a _ (L_8.out.mono (Nat.zero_le _) (by omega)) (L_7.out.mono (Nat.zero_le _) (by omega)) (Nat.le_refl _) _ HFS.out).mono ?_
        rintro e w6 ⟨rfl, bw6⟩
        have sw6 : w5.heap.size ≤ w6.heap.size := bw6.size
        have L_10 := Lib.hid (L_7.out.same (SameIn.below bw6 (by omega)))
        clear L_7
        have L_11 := Lib.hid (L_8.out.same (SameIn.below bw6 (by omega)))
        clear L_8
        have L_12 := Lib.hid (Nw5.out.same (SameIn.below bw6 (by omega)))
        clear Nw5
        have BL_13 := Lib.hid (BL_9.out.trans (bw6.mono (by omega)))
        clear BL_9 bw6
        rcases hsub with ⟨he, hq⟩ | ⟨he, hq⟩
        · subst he
          have HQ := Lib.hid hq
          have hT0 : decide ((0 : Int) ≤ P + Q) = true := by simp; omega
          clear hq
          go_wp2_with fail
          refine (sameGrid_any _ _ _ _ _ _ (b) _ (L_10.out.congr HQ.out) (L_11.out)).mono ?_
          intro e w7 hq
          obtain ⟨rfl, bw7⟩ := hq.below
          clear hq
          have sw7 : w6.heap.size ≤ w7.heap.size := bw7.size
          have L_14 := Lib.hid (L_10.out.same (SameIn.below bw7 (by omega)))
          clear L_10
          have L_15 := Lib.hid (L_11.out.same (SameIn.below bw7 (by omega)))
          clear L_11
          have L_16 := Lib.hid (L_12.out.same (SameIn.below bw7 (by omega)))
          clear L_12
          have BL_17 := Lib.hid (BL_13.out.trans (bw7.mono (by omega)))
          clear BL_13 bw7
          go_wp2_with fail
          refine (implFar_i _ _ 0 w7.heap.size a G3 _ (L_14.out.mono (Nat.zero_le _) (by omega)) (L_16.out.mono (Nat.zero_le _) (by omega)) (Nat.le_refl _) _ EP.out).mono ?_
          rintro e w8 ⟨rfl, bw8⟩
          have sw8 : w7.heap.size ≤ w8.heap.size := bw8.size
          have L_18 := Lib.hid (L_14.out.same (SameIn.below bw8 (by omega)))
          clear L_14
          have L_19 := Lib.hid (L_15.out.same (SameIn.below bw8 (by omega)))
          clear L_15
          have L_20 := Lib.hid (L_16.out.same (SameIn.below bw8 (by omega)))
          clear L_16
          have BL_21 := Lib.hid (BL_17.out.trans (bw8.mono (by omega)))
          clear BL_17 bw8
          go_wp2_with fail
          refine (implFar_i _ _ 0 w8.heap.size G3 b _ (L_20.out.mono (Nat.zero_le _) (by omega)) (L_19.out.mono (Nat.zero_le _) (by omega)) (Nat.le_refl _) _ EQ.out).mono ?_
          rintro e w9 ⟨rfl, bw9⟩
          have sw9 : w8.heap.size ≤ w9.heap.size := bw9.size
          have L_22 := Lib.hid (L_18.out.same (SameIn.below bw9 (by omega)))
          clear L_18
          have L_23 := Lib.hid (L_19.out.same (SameIn.below bw9 (by omega)))
          clear L_19
          have L_24 := Lib.hid (L_20.out.same (SameIn.below bw9 (by omega)))
          clear L_20
          have BL_25 := Lib.hid (BL_21.out.trans (bw9.mono (by omega)))
          clear BL_21 bw9
          go_wp2
          go_ret
          exact ⟨rfl, BL_25.out⟩
        · have HQ := Lib.hid hq
          have hD0 : ((D : Int) == 0) = false := by simp; omega
          clear hq he
          go_wp2_with fail
          refine (sameGrid_neq _ _ _ _ _ _ a b _ L_10.out L_11.out HQ.out).mono ?_
          intro e w7 hq
          obtain ⟨rfl, bw7⟩ := hq.below
          clear hq
          have sw7 : w6.heap.size ≤ w7.heap.size := bw7.size
          have L_14 := Lib.hid (L_10.out.same (SameIn.below bw7 (by omega)))
          clear L_10
          have L_15 := Lib.hid (L_11.out.same (SameIn.below bw7 (by omega)))
          clear L_11
          have L_16 := Lib.hid (L_12.out.same (SameIn.below bw7 (by omega)))
          clear L_12
          have BL_17 := Lib.hid (BL_13.out.trans (bw7.mono (by omega)))
          clear BL_13 bw7
          go_wp2_with fail
          refine (implFar_i _ _ 0 w7.heap.size a G3 _ (L_14.out.mono (Nat.zero_le _) (by omega)) (L_16.out.mono (Nat.zero_le _) (by omega)) (Nat.le_refl _) _ EP.out).mono ?_
          rintro e w8 ⟨rfl, bw8⟩
          have sw8 : w7.heap.size ≤ w8.heap.size := bw8.size
          have L_18 := Lib.hid (L_14.out.same (SameIn.below bw8 (by omega)))
          clear L_14
          have L_19 := Lib.hid (L_15.out.same (SameIn.below bw8 (by omega)))
          clear L_15
          have L_20 := Lib.hid (L_16.out.same (SameIn.below bw8 (by omega)))
          clear L_16
          have BL_21 := Lib.hid (BL_17.out.trans (bw8.mono (by omega)))
          clear BL_17 bw8
          go_wp2_with fail
          refine (implFar_i _ _ 0 w8.heap.size G3 b _ (L_20.out.mono (Nat.zero_le _) (by omega)) (L_19.out.mono (Nat.zero_le _) (by omega)) (Nat.le_refl _) _ EQ.out).mono ?_
          rintro e w9 ⟨rfl, bw9⟩
          have sw9 : w8.heap.size ≤ w9.heap.size := bw9.size
          have L_22 := Lib.hid (L_18.out.same (SameIn.below bw9 (by omega)))
          clear L_18
          have L_23 := Lib.hid (L_19.out.same (SameIn.below bw9 (by omega)))
          clear L_19
          have L_24 := Lib.hid (L_20.out.same (SameIn.below bw9 (by omega)))
          clear L_20
          have BL_25 := Lib.hid (BL_21.out.trans (bw9.mono (by omega)))
          clear BL_21 bw9
          go_wp2
          go_ret
          exact ⟨rfl, BL_25.out⟩
end Go.Proofs.Ytidlloelinmnnaa
