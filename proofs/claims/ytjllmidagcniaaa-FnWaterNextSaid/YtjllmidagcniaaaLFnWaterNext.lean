/- The law FnWaterNext of the promises: its walk. -/
import Derived.Test.YtjllmidagcniaaaDrawCe
import Derived.Test.YtjllmidagcniaaaNextE
import Derived.Test.YtjllmidagcniaaaPNear
import Derived.Test.YtjllmidagcniaaaImplH
namespace Go.Proofs.Ytjllmidagcniaaa
open Go.RowKit
set_option linter.unusedVariables false

theorem flowTo_min {M : Nat} (Z : Nat → Int) : ∀ (l : List (Ix M)) (i : Ix M), (∀ x, x ∈ l → ¬ Z x.1 < Z (flowTo Z i l).1) ∧ Z (flowTo Z i l).1 ≤ Z i.1 ∧ (flowTo Z i l = i ∨ (flowTo Z i l ∈ l ∧ Z (flowTo Z i l).1 < Z i.1))
  | [], i => ⟨fun x hx => (by cases hx), Int.le_refl _, Or.inl rfl⟩
  | x :: l, i => by
    obtain ⟨h1, h2, h3⟩ := flowTo_min Z l (if Z x.1 < Z i.1 then x else i)
    have e : flowTo Z i (x :: l) = flowTo Z (if Z x.1 < Z i.1 then x else i) l := rfl
    rw [e]
    generalize flowTo Z (if Z x.1 < Z i.1 then x else i) l = o at h1 h2 h3
    by_cases hx : Z x.1 < Z i.1
    · rw [if_pos hx] at h2 h3
      refine ⟨fun y hy => ?_, by omega, Or.inr ?_⟩
      · rcases List.mem_cons.1 hy with rfl | hy
        · omega
        · exact h1 y hy
      · rcases h3 with rfl | ⟨h4, h5⟩
        · exact ⟨List.mem_cons_self, hx⟩
        · exact ⟨List.mem_cons_of_mem _ h4, by omega⟩
    · rw [if_neg hx] at h2 h3
      refine ⟨fun y hy => ?_, h2, ?_⟩
      · rcases List.mem_cons.1 hy with rfl | hy
        · omega
        · exact h1 y hy
      · rcases h3 with h3 | ⟨h4, h5⟩
        · exact Or.inl h3
        · exact Or.inr ⟨List.mem_cons_of_mem _ h4, h5⟩
theorem flowTo_iff {M : Nat} {Z Y : Nat → Int} (h : ∀ a b : Ix M, Y a.1 < Y b.1 ↔ Z a.1 < Z b.1) : ∀ (l : List (Ix M)) (i : Ix M), flowTo Y i l = flowTo Z i l
  | [], _ => rfl
  | x :: l, i => by
    show flowTo Y (if Y x.1 < Y i.1 then x else i) l = flowTo Z (if Z x.1 < Z i.1 then x else i) l
    rw [flowTo_iff h l]
    congr 1
    by_cases e : Z x.1 < Z i.1
    · rw [if_pos e, if_pos ((h x i).2 e)]
    · rw [if_neg e, if_neg (fun k => e ((h x i).1 k))]
theorem nxt_raise (g : G) (i : Ix (g.n * g.len 0)) : nxt g.n (g.len 0) (raiseG g 1).flat i = nxt g.n (g.len 0) g.flat i := flowTo_iff (fun a b => by
  show g.z _ _ + 1 < g.z _ _ + 1 ↔ g.z _ _ < g.z _ _
  exact Int.add_lt_add_iff_right 1) _ _
theorem wnv_raise {g : G} {r c : Nat} (h : g.Cell r c) (k : (raiseG g 1).Valid) : (raiseG g 1).wnV r c = g.wnV r c := by
  have hi := wn_lt h
  rw [G.wnV_yes h ⟨_, hi⟩ (by simp), G.wnV_yes (show (raiseG g 1).Cell r c from ⟨k, h.2.1, h.2.2⟩) ⟨_, hi⟩ (by simp; rfl)]
  exact congrArg (fun x : Ix (g.n * g.len 0) => (x.1 : Int)) (nxt_raise g ⟨_, hi⟩)
theorem implWn_i (v : Value) (lo hi : Nat) (g : G) (r c : Int) (w : World) (hv : RdM lo hi w v g) (hh : hi ≤ w.heap.size) (x : Int) (h : g.wnV r c = x) :
    Calls Try.prog 41 #[v, .int .i64 r, .int .i64 c] w (IntPost x w) := by
  have := implWaterNext_any v lo hi g r c w hv hh; rwa [h] at this
theorem specWn_i (v : Value) (lo hi : Nat) (g : G) (r c : Int) (w : World) (hv : RdM lo hi w v g) (hh : hi ≤ w.heap.size) (x : Int) (h : g.wnV r c = x) :
    Calls Try.prog 42 #[v, .int .i64 r, .int .i64 c] w (IntPost x w) := by
  have := specWaterNext_any v lo hi g r c w hv hh; rwa [h] at this

set_option maxHeartbeats 4000000 in
set_option maxRecDepth 100000 in
theorem law_FnWaterNext (v : Value) (n : Nat) (w : World) (hv : RdB w.heap.size w v n) : Calls Try.prog 10 #[v] w (LawPost w) := by
  have HD := Lib.hid (draw_DrawWaterNext v n w.heap.size w hv (Nat.le_refl _))
  obtain ⟨ao, cap, cb, off, Z, rfl, hc1, hc2, _⟩ := hv
  by_cases hn : 1048576 < n
  · have hn' : (1048576 : Int) < n := by omega
    go_enter Try.func10, Try.ntmps10
    go_wp2
    go_ret
    exact ⟨rfl, Below.refl _ _⟩
  · have hn' : ¬ (1048576 : Int) < n := by omega
    go_enter Try.func10, Try.ntmps10
    go_wp2_with fail
    refine HD.out.mono ?_
    rintro e w1 ⟨vg, g, rr, cc, rfl, _, hm, hgn, hgl, hra, hcb, bw1⟩
    obtain ⟨bg, og, cg, rfl⟩ := hm.shape (by omega)
    have R_g := Lib.hid hm
    have HGL := Lib.hid hgl
    obtain ⟨hgn1, hgn5⟩ := hgn
    clear hm hgl HD
    have sw1 : w.heap.size ≤ w1.heap.size := bw1.size
    have BL := Lib.hid bw1
    clear bw1
    by_cases hok : g.Cell rr cc
    case neg =>
      have HNO := Lib.hid (G.wnV_no hok)
      clear hok
      go_wp2_with fail
      refine (implWn_i _ 0 w1.heap.size g rr cc _ (R_g.out.mono (Nat.zero_le _) (by omega)) (Nat.le_refl _) (-1) HNO.out).mono ?_
      rintro e w2 ⟨rfl, bw2⟩
      have sw2 : w1.heap.size ≤ w2.heap.size := bw2.size
      have L_1 := Lib.hid (R_g.out.same (SameIn.below bw2 (by omega)))
      clear R_g
      have BL_2 := Lib.hid (BL.out.trans (bw2.mono (by omega)))
      clear BL bw2
      go_wp2_with fail
      refine (specWn_i _ 0 w2.heap.size g rr cc _ (L_1.out.mono (Nat.zero_le _) (by omega)) (Nat.le_refl _) (-1) HNO.out).mono ?_
      rintro e w3 ⟨rfl, bw3⟩
      have sw3 : w2.heap.size ≤ w3.heap.size := bw3.size
      have L_3 := Lib.hid (L_1.out.same (SameIn.below bw3 (by omega)))
      clear L_1
      have BL_4 := Lib.hid (BL_2.out.trans (bw3.mono (by omega)))
      clear BL_2 bw3
      go_wp2
      go_ret
      exact ⟨rfl, BL_4.out⟩
    case pos =>
      obtain ⟨r', er⟩ := Int.eq_ofNat_of_zero_le hok.2.1.1
      obtain ⟨c', ec⟩ := Int.eq_ofNat_of_zero_le hok.2.2.1
      subst er ec
      have hr : r' < g.n := by have := hok.2.1.2; omega
      have hc0 : c' < g.len 0 := by have := hok.2.2.2; omega
      have hc : c' < g.len r' := by have := (hok.1.2.2 r' hr).1; omega
      have hX := (hok.1.2.2 r' hr).2 c' hc
      have HVAL := Lib.hid hok.1
      have hlt := wn_lt hok
      rw [Int.toNat_natCast, Int.toNat_natCast] at hlt
      obtain ⟨i, ei⟩ : ∃ i : Ix (g.n * g.len 0), i.1 = r' * g.len 0 + c' := ⟨⟨_, hlt⟩, rfl⟩
      have h49 := mul_le_49 hok.1.1.2 hok.1.2.1.2
      have HWN := Lib.hid (G.wnV_yes hok i ei)
      obtain ⟨o, eo⟩ : ∃ o, nxt g.n (g.len 0) g.flat i = o := ⟨_, rfl⟩
      have hmin := flowTo_min g.flat (near g.n (g.len 0) i 4) i
      rw [show flowTo g.flat i (near g.n (g.len 0) i 4) = o from eo] at hmin
      obtain ⟨hm1, hm2, hm3⟩ := hmin
      have HM1 := Lib.hid hm1
      rw [eo] at HWN
      have HWR := Lib.hid (fun (k : (raiseG g 1).Valid) => (wnv_raise hok k).trans HWN.out)
      have HRV := Lib.hid (fun (k : g.RaiseOk 1) => k.2.2)
      have hnl := near_len g.n (g.len 0) i 4
      obtain ⟨nl, enl⟩ : ∃ nl, (near g.n (g.len 0) i 4).length = nl := ⟨_, rfl⟩
      rw [enl] at hnl
      have hoo := o.2
      have hii := i.2
      have hmul0 : (r' : Int) * (g.len 0 : Int) = ((r' * g.len 0 : Nat) : Int) := (Int.natCast_mul _ _).symm
      obtain ⟨M, eM⟩ : ∃ M, r' * g.len 0 = M := ⟨_, rfl⟩
      rw [eM] at hmul0 ei
      have hmul : (r' : Int) * (g.len 0 : Int) = (M : Int) := hmul0
      have hM : M ≤ 49 := by omega
      have hsmall : 0 ≤ (r' : Int) * (g.len 0 : Int) ∧ (r' : Int) * (g.len 0 : Int) ≤ 49 := by rw [hmul]; omega
      have hsum : (M : Int) + c' = (i.1 : Int) := by omega
      have hwr1 : IntKind.i64.wrap ((r' : Int) * (g.len 0 : Int)) = (M : Int) := by rw [hmul]; exact IntWalk.i64_in _ (by omega)
      have hwr2 : IntKind.i64.wrap (M : Int) = (M : Int) := IntWalk.i64_in _ (by omega)
      clear hmul0 eM
      have HNE := Lib.hid enl
      have hrn : (0 : Int) < g.n := by omega
      have hOI : ((o.1 : Int) != (o.1 : Int)) = false := by simp
      have hO0 : ¬ (o.1 : Int) < 0 := by omega
      have hO1 : ((o.1 : Int) == (o.1 : Int)) = true := by simp
      have HOK := Lib.hid hok
      clear hok hlt eo enl hm1 ei
      go_wp2_with fail
      refine (implWn_i _ 0 w1.heap.size g r' c' _ (R_g.out.mono (Nat.zero_le _) (by omega)) (Nat.le_refl _) o.1 HWN.out).mono ?_
      rintro e w2 ⟨rfl, bw2⟩
      have sw2 : w1.heap.size ≤ w2.heap.size := bw2.size
      have L_1 := Lib.hid (R_g.out.same (SameIn.below bw2 (by omega)))
      clear R_g
      have BL_2 := Lib.hid (BL.out.trans (bw2.mono (by omega)))
      clear BL bw2
      go_wp2_with fail
      refine (specWn_i _ 0 w2.heap.size g r' c' _ (L_1.out.mono (Nat.zero_le _) (by omega)) (Nat.le_refl _) o.1 HWN.out).mono ?_
      rintro e w3 ⟨rfl, bw3⟩
      have sw3 : w2.heap.size ≤ w3.heap.size := bw3.size
      have L_3 := Lib.hid (L_1.out.same (SameIn.below bw3 (by omega)))
      clear L_1
      have BL_4 := Lib.hid (BL_2.out.trans (bw3.mono (by omega)))
      clear BL_2 bw3
      obtain ⟨ha1, ha2, ha3⟩ := L_3.out.head (by omega) (g.len 0) rfl
      go_wp2_with fail
      try rw [hmul]
      try rw [hsum]
      refine (nearOf_any _ 0 w3.heap.size g g.n (g.len 0) rfl rfl i _ (L_3.out.mono (Nat.zero_le _) (by omega)) (Nat.le_refl _) HVAL.out).mono ?_
      rintro e w4 ⟨vn, rfl, ⟨na, nc, rfl⟩, hrn2, bw4⟩
      rw [HNE.out] at hrn2 ⊢
      have Nnr := Lib.hid hrn2
      clear hrn2 ha3
      have sw4 : w3.heap.size ≤ w4.heap.size := bw4.size
      have L_5 := Lib.hid (L_3.out.same (SameIn.below bw4 (by omega)))
      clear L_3
      have BL_6 := Lib.hid (BL_4.out.trans (bw4.mono (by omega)))
      clear BL_4 bw4
      have HGW := Lib.hid (fun (W : World) (hb : Below w4.heap.size w4 W) => L_5.out.same (SameIn.below hb (by omega)))
      have HH := Lib.hid (fun (W : World) (hb : Below w4.heap.size w4 W) (x : Ix (g.n * g.len 0)) => heightOf_any _ _ _ g x.1 W (HGW.out W hb) HVAL.out x.2)
      have HNW := Lib.hid (fun (W : World) (hb : Below w4.heap.size w4 W) => Nnr.out.same (SameIn.below hb (by omega)))
      go_wp2
      go_loopw [10] (fun q wr => ∃ k : Nat, k ≤ nl ∧ q = .int .i64 k ∧ Below w4.heap.size w4 wr) (fun q _ => nl - (intOf q).toNat)
      case atStart => exact ⟨0, Nat.zero_le _, rfl, Below.refl _ _⟩
      case round =>
        obtain ⟨k, hk, rfl, hb⟩ := hrel
        have HB := Lib.hid hb
        have hszb := hb.size
        by_cases hlt : k < nl
        · have hlt' : (k : Int) < nl := by omega
          have hlk : k < (near g.n (g.len 0) i 4).length := by rw [HNE.out]; exact hlt
          obtain ⟨an, cn, bn, on, en, _, _, _, gn5, gn⟩ := HNW.out _ hb
          simp only [Value.slice.injEq] at en
          obtain ⟨rfl, _, rfl⟩ := en
          obtain ⟨rfl, _, _⟩ := gn5 (by omega)
          have q1 := gn k hlt
          rw [ixZ_at _ hlk] at q1
          have hmn := HM1.out _ (List.getElem_mem hlk)
          obtain ⟨x, ex⟩ : ∃ x, (near g.n (g.len 0) i 4)[k] = x := ⟨_, rfl⟩
          rw [ex] at q1 hmn
          have HX := Lib.hid (HH.out _ hb x)
          have hcmp : ¬ g.flat x.1 < g.flat o.1 := by omega
          have hcmp' : decide (g.flat x.1 < g.flat o.1) = false := by simpa using hcmp
          clear hb gn gn5 hmn ex hlk
          go_wp2_with fail
          refine HX.out.mono ?_
          rintro e w' ⟨rfl, n1, rfl⟩
          have HB1 := Lib.hid (below_drewN HB.out n1)
          go_wp2_with fail
          refine (HH.out _ HB1.out o).mono ?_
          rintro e w' ⟨rfl, n2, rfl⟩
          have HB2 := Lib.hid (below_drewN HB1.out n2)
          go_wp2
          go_roundw
          case rel => exact ⟨k + 1, by omega, by go_num, by rw [← World.drewN_drewN]; exact HB2.out⟩
          case measure => simp [intOf]; omega
        · obtain rfl : k = nl := by omega
          have hlt' : ¬ (k : Int) < k := by omega
          have Gr := Lib.hid (HGW.out wr hb)
          have Nr := Lib.hid (HNW.out wr hb)
          have BLr := Lib.hid (BL_6.out.trans (hb.mono (by omega)))
          clear hb HNW HH
          by_cases hro : g.RaiseOk 1
          case neg =>
            go_wp2_with fail
            refine (((implGridRaise_any _ 0 wr.heap.size g 1 _ (Gr.out.mono (Nat.zero_le _) (by omega)) (Nat.le_refl _)).mono fun _ _ hp => hp.2 hro)).mono ?_
            rintro e w5 ⟨r_7, rfl, ⟨_, _, _, rfl⟩, ow5, bw5⟩
            clear ow5
            have sw5 : wr.heap.size ≤ w5.heap.size := bw5.size
            have L_8 := Lib.hid (Gr.out.same (SameIn.below bw5 (by omega)))
            clear Gr
            have L_9 := Lib.hid (Nr.out.same (SameIn.below bw5 (by omega)))
            clear Nr
            have BL_10 := Lib.hid (BLr.out.trans (bw5.mono (by omega)))
            clear BLr bw5
            rcases hm3 with hoi | ⟨hin, hlt2⟩
            · have hb1 : ((o.1 : Int) == (i.1 : Int)) = true := by rw [hoi]; simp
              go_wp2
              go_ret
              exact ⟨rfl, BL_10.out⟩
            · have hb1 : ((o.1 : Int) == (i.1 : Int)) = false := by
                rw [beq_eq_false_iff_ne]
                intro e
                have e2 : o.1 = i.1 := by omega
                rw [e2] at hlt2
                exact absurd hlt2 (Int.lt_irrefl _)
              have hany : (near g.n (g.len 0) i 4).any (fun x => x.1 == o.1) = true := List.any_eq_true.2 ⟨o, hin, by simp⟩
              have HAN := Lib.hid hany
              have hd2 : decide (g.flat o.1 < g.flat i.1) = true := by simpa using hlt2
              clear hany hin
              go_wp2_with fail
              refine (hasInt_any _ 0 w5.heap.size (near g.n (g.len 0) i 4) o.1 _ (by rw [HNE.out]; exact (L_9.out.mono (Nat.zero_le _) (by omega))) h49 (by rw [HNE.out]; omega) (by omega)).mono ?_
              rw [HAN.out]
              rintro e w6 ⟨rfl, qw6, rfl⟩
              have bw6 := below_drewN (Below.refl w5.heap.size w5) qw6
              obtain ⟨w_w6, ew⟩ : ∃ w', w' = w5.drewN qw6 := ⟨_, rfl⟩
              rw [← ew] at bw6 ⊢
              clear ew
              have sw_w6 : w5.heap.size ≤ w_w6.heap.size := bw6.size
              have L_11 := Lib.hid (L_8.out.same (SameIn.below bw6 (by omega)))
              clear L_8
              have L_12 := Lib.hid (L_9.out.same (SameIn.below bw6 (by omega)))
              clear L_9
              have BL_13 := Lib.hid (BL_10.out.trans (bw6.mono (by omega)))
              clear BL_10 bw6
              go_wp2_with fail
              refine (heightOf_any _ 0 w_w6.heap.size g o.1 _ (L_11.out.mono (Nat.zero_le _) (by omega)) HVAL.out o.2).mono ?_
              rintro e w7 ⟨rfl, qw7, rfl⟩
              have bw7 := below_drewN (Below.refl w_w6.heap.size w_w6) qw7
              obtain ⟨w_w7, ew⟩ : ∃ w', w' = w_w6.drewN qw7 := ⟨_, rfl⟩
              rw [← ew] at bw7 ⊢
              clear ew
              have sw_w7 : w_w6.heap.size ≤ w_w7.heap.size := bw7.size
              have L_14 := Lib.hid (L_11.out.same (SameIn.below bw7 (by omega)))
              clear L_11
              have L_15 := Lib.hid (L_12.out.same (SameIn.below bw7 (by omega)))
              clear L_12
              have BL_16 := Lib.hid (BL_13.out.trans (bw7.mono (by omega)))
              clear BL_13 bw7
              go_wp2_with fail
              refine (heightOf_any _ 0 w_w7.heap.size g i.1 _ (L_14.out.mono (Nat.zero_le _) (by omega)) HVAL.out i.2).mono ?_
              rintro e w8 ⟨rfl, qw8, rfl⟩
              have bw8 := below_drewN (Below.refl w_w7.heap.size w_w7) qw8
              obtain ⟨w_w8, ew⟩ : ∃ w', w' = w_w7.drewN qw8 := ⟨_, rfl⟩
              rw [← ew] at bw8 ⊢
              clear ew
              have sw_w8 : w_w7.heap.size ≤ w_w8.heap.size := bw8.size
              have L_17 := Lib.hid (L_14.out.same (SameIn.below bw8 (by omega)))
              clear L_14
              have L_18 := Lib.hid (L_15.out.same (SameIn.below bw8 (by omega)))
              clear L_15
              have BL_19 := Lib.hid (BL_16.out.trans (bw8.mono (by omega)))
              clear BL_16 bw8
              go_wp2
              go_ret
              exact ⟨rfl, BL_19.out⟩
          case pos =>
            go_wp2_with fail
            refine (((implGridRaise_any _ 0 wr.heap.size g 1 _ (Gr.out.mono (Nat.zero_le _) (by omega)) (Nat.le_refl _)).mono fun _ _ hp => hp.1 hro)).mono ?_
            rintro e w5 ⟨r_7, rfl, ⟨_, _, _, rfl⟩, ow5, bw5⟩
            have Nw5 := Lib.hid (ow5.rd)
            clear ow5
            have sw5 : wr.heap.size ≤ w5.heap.size := bw5.size
            have L_8 := Lib.hid (Gr.out.same (SameIn.below bw5 (by omega)))
            clear Gr
            have L_9 := Lib.hid (Nr.out.same (SameIn.below bw5 (by omega)))
            clear Nr
            have BL_10 := Lib.hid (BLr.out.trans (bw5.mono (by omega)))
            clear BLr bw5
            rcases hm3 with hoi | ⟨hin, hlt2⟩
            · have hb1 : ((o.1 : Int) == (i.1 : Int)) = true := by rw [hoi]; simp
              go_wp2_with fail
              refine (implWn_i _ 0 w5.heap.size (raiseG g 1) r' c' _ (Nw5.out.mono (Nat.zero_le _) (by omega)) (Nat.le_refl _) o.1 (HWR.out (HRV.out hro))).mono ?_
              rintro e w6 ⟨rfl, bw6⟩
              have sw6 : w5.heap.size ≤ w6.heap.size := bw6.size
              have L_11 := Lib.hid (L_8.out.same (SameIn.below bw6 (by omega)))
              clear L_8
              have L_12 := Lib.hid (L_9.out.same (SameIn.below bw6 (by omega)))
              clear L_9
              have L_13 := Lib.hid (Nw5.out.same (SameIn.below bw6 (by omega)))
              clear Nw5
              have BL_14 := Lib.hid (BL_10.out.trans (bw6.mono (by omega)))
              clear BL_10 bw6
              go_wp2
              go_ret
              exact ⟨rfl, BL_14.out⟩
            · have hb1 : ((o.1 : Int) == (i.1 : Int)) = false := by
                rw [beq_eq_false_iff_ne]
                intro e
                have e2 : o.1 = i.1 := by omega
                rw [e2] at hlt2
                exact absurd hlt2 (Int.lt_irrefl _)
              have hany : (near g.n (g.len 0) i 4).any (fun x => x.1 == o.1) = true := List.any_eq_true.2 ⟨o, hin, by simp⟩
              have HAN := Lib.hid hany
              have hd2 : decide (g.flat o.1 < g.flat i.1) = true := by simpa using hlt2
              clear hany hin
              go_wp2_with fail
              refine (hasInt_any _ 0 w5.heap.size (near g.n (g.len 0) i 4) o.1 _ (by rw [HNE.out]; exact (L_9.out.mono (Nat.zero_le _) (by omega))) h49 (by rw [HNE.out]; omega) (by omega)).mono ?_
              rw [HAN.out]
              rintro e w6 ⟨rfl, qw6, rfl⟩
              have bw6 := below_drewN (Below.refl w5.heap.size w5) qw6
              obtain ⟨w_w6, ew⟩ : ∃ w', w' = w5.drewN qw6 := ⟨_, rfl⟩
              rw [← ew] at bw6 ⊢
              clear ew
              have sw_w6 : w5.heap.size ≤ w_w6.heap.size := bw6.size
              have L_11 := Lib.hid (L_8.out.same (SameIn.below bw6 (by omega)))
              clear L_8
              have L_12 := Lib.hid (L_9.out.same (SameIn.below bw6 (by omega)))
              clear L_9
              have L_13 := Lib.hid (Nw5.out.same (SameIn.below bw6 (by omega)))
              clear Nw5
              have BL_14 := Lib.hid (BL_10.out.trans (bw6.mono (by omega)))
              clear BL_10 bw6
              go_wp2_with fail
              refine (heightOf_any _ 0 w_w6.heap.size g o.1 _ (L_11.out.mono (Nat.zero_le _) (by omega)) HVAL.out o.2).mono ?_
              rintro e w7 ⟨rfl, qw7, rfl⟩
              have bw7 := below_drewN (Below.refl w_w6.heap.size w_w6) qw7
              obtain ⟨w_w7, ew⟩ : ∃ w', w' = w_w6.drewN qw7 := ⟨_, rfl⟩
              rw [← ew] at bw7 ⊢
              clear ew
              have sw_w7 : w_w6.heap.size ≤ w_w7.heap.size := bw7.size
              have L_15 := Lib.hid (L_11.out.same (SameIn.below bw7 (by omega)))
              clear L_11
              have L_16 := Lib.hid (L_12.out.same (SameIn.below bw7 (by omega)))
              clear L_12
              have L_17 := Lib.hid (L_13.out.same (SameIn.below bw7 (by omega)))
              clear L_13
              have BL_18 := Lib.hid (BL_14.out.trans (bw7.mono (by omega)))
              clear BL_14 bw7
              go_wp2_with fail
              refine (heightOf_any _ 0 w_w7.heap.size g i.1 _ (L_15.out.mono (Nat.zero_le _) (by omega)) HVAL.out i.2).mono ?_
              rintro e w8 ⟨rfl, qw8, rfl⟩
              have bw8 := below_drewN (Below.refl w_w7.heap.size w_w7) qw8
              obtain ⟨w_w8, ew⟩ : ∃ w', w' = w_w7.drewN qw8 := ⟨_, rfl⟩
              rw [← ew] at bw8 ⊢
              clear ew
              have sw_w8 : w_w7.heap.size ≤ w_w8.heap.size := bw8.size
              have L_19 := Lib.hid (L_15.out.same (SameIn.below bw8 (by omega)))
              clear L_15
              have L_20 := Lib.hid (L_16.out.same (SameIn.below bw8 (by omega)))
              clear L_16
              have L_21 := Lib.hid (L_17.out.same (SameIn.below bw8 (by omega)))
              clear L_17
              have BL_22 := Lib.hid (BL_18.out.trans (bw8.mono (by omega)))
              clear BL_18 bw8
              go_wp2_with fail
              refine (implWn_i _ 0 w_w8.heap.size (raiseG g 1) r' c' _ (L_21.out.mono (Nat.zero_le _) (by omega)) (Nat.le_refl _) o.1 (HWR.out (HRV.out hro))).mono ?_
              rintro e w9 ⟨rfl, bw9⟩
              have sw9 : w_w8.heap.size ≤ w9.heap.size := bw9.size
              have L_23 := Lib.hid (L_19.out.same (SameIn.below bw9 (by omega)))
              clear L_19
              have L_24 := Lib.hid (L_20.out.same (SameIn.below bw9 (by omega)))
              clear L_20
              have L_25 := Lib.hid (L_21.out.same (SameIn.below bw9 (by omega)))
              clear L_21
              have BL_26 := Lib.hid (BL_22.out.trans (bw9.mono (by omega)))
              clear BL_22 bw9
              go_wp2
              go_ret
              exact ⟨rfl, BL_26.out⟩
end Go.Proofs.Ytjllmidagcniaaa
