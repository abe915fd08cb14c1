/- The law FnGridSet of the promises: its walk. -/
import Derived.Test.YtjllmidagcniaaaDrawCg
import Derived.Test.YtjllmidagcniaaaImplG
import Derived.Test.YtjllmidagcniaaaSame
import Derived.Test.YtjllmidagcniaaaPHelp
namespace Go.Proofs.Ytjllmidagcniaaa
open Go.RowKit
set_option linter.unusedVariables false

theorem implAt_i (v : Value) (lo hi : Nat) (g : G) (r c : Int) (w : World) (hv : RdM lo hi w v g) (hh : hi ≤ w.heap.size) (x : Int) (h : g.atV r c = x) :
    Calls Try.prog 29 #[v, .int .i64 r, .int .i64 c] w (IntPost x w) := by
  have := implGridAt_any v lo hi g r c w hv hh; rwa [h] at this
theorem atV_yes {g : G} {r c : Nat} (h : g.Cell r c) : g.atV r c = g.z r c := by rw [G.atV, if_pos (G.cB_yes h)]; rfl

theorem _root_.Go.Calls.quiet_ht {P : Program} {f : FuncId} {args : Array Value} {w : World} {n : Nat} {z : Int}
    (h : Calls P f args (w.drewN n) (HtPost z (w.drewN n))) : Calls P f args (w.drewN n) fun e w'' => e = .returned (.int .i64 z) ∧ ∃ m, w'' = w.drewN m :=
  h.mono fun _ _ ⟨he, m, hm⟩ => ⟨he, n + m, by rw [hm, World.drewN_drewN]⟩
theorem upd_flat {g : G} {r c : Nat} (hr : r < g.n) (hc : c < g.len 0) (x : Int) (i : Nat) : (g.upd r c x).flat i = if i = r * g.len 0 + c then x else g.flat i := by
  show (if i / g.len 0 = r ∧ i % g.len 0 = c then x else g.z (i / g.len 0) (i % g.len 0)) = _
  by_cases e : i = r * g.len 0 + c
  · have := div_at r c (g.len 0) hc
    rw [if_pos e, e, if_pos ⟨this.1, this.2⟩]
  · rw [if_neg e, if_neg (fun h => e (by
      have := Nat.div_add_mod i (g.len 0)
      rw [h.1, h.2, Nat.mul_comm] at this
      exact this.symm))]
    rfl
theorem upd_back {g : G} {r c : Nat} (x : Int) : G.Eqv ((g.upd r c x).upd r c (g.z r c)) g := ⟨rfl, fun i hi => ⟨rfl, fun j hj => by
  show (if i = r ∧ j = c then g.z r c else if i = r ∧ j = c then x else g.z i j) = g.z i j
  by_cases h : i = r ∧ j = c
  · rw [if_pos h, h.1, h.2]
  · rw [if_neg h, if_neg h]⟩⟩
theorem upd_valid {g : G} {r c : Nat} {x : Int} (h : g.Valid) (hx : 0 ≤ x ∧ x ≤ 99) : (g.upd r c x).Valid := ⟨h.1, h.2.1, fun i hi => ⟨(h.2.2 i hi).1, fun j hj => by
  show 0 ≤ (if i = r ∧ j = c then x else g.z i j) ∧ (if i = r ∧ j = c then x else g.z i j) ≤ 99
  split
  · exact hx
  · exact (h.2.2 i hi).2 j hj⟩⟩

set_option maxHeartbeats 4000000 in
set_option maxRecDepth 100000 in
theorem law_FnGridSet (v : Value) (n : Nat) (w : World) (hv : RdB w.heap.size w v n) : Calls Try.prog 8 #[v] w (LawPost w) := by
  have HD := Lib.hid (draw_DrawGridSet v n w.heap.size w hv (Nat.le_refl _))
  obtain ⟨ao, cap, cb, off, Z, rfl, hc1, hc2, _⟩ := hv
  by_cases hn : 1048576 < n
  · have hn' : (1048576 : Int) < n := by omega
    go_enter Try.func8, Try.ntmps8
    go_wp2
    go_ret
    exact ⟨rfl, Below.refl _ _⟩
  · have hn' : ¬ (1048576 : Int) < n := by omega
    go_enter Try.func8, Try.ntmps8
    go_wp2_with fail
    refine HD.out.mono ?_
    rintro e w1 ⟨vg, g, rr, cc, hh, rfl, _, hm, hgn, hgl, hra, hcb, hhb, bw1⟩
    obtain ⟨bg, og, cg, rfl⟩ := hm.shape (by omega)
    have R_g := Lib.hid hm
    have HGL := Lib.hid hgl
    obtain ⟨hgn1, hgn5⟩ := hgn
    clear hm hgl HD
    have sw1 : w.heap.size ≤ w1.heap.size := bw1.size
    have BL := Lib.hid bw1
    clear bw1
    by_cases hok : g.SetOk rr cc hh
    case neg =>
      have HOK := Lib.hid hok
      clear hok
      go_wp2_with fail
      refine (implGridSet_no _ 0 w1.heap.size g rr cc hh _ (R_g.out.mono (Nat.zero_le _) (by omega)) (Nat.le_refl _) HOK.out).mono ?_
      rintro e w2 ⟨r_1, rfl, ⟨_, _, _, rfl⟩, ow2, bw2⟩
      have Nw2 := Lib.hid (ow2.rd)
      clear ow2
      have sw2 : w1.heap.size ≤ w2.heap.size := bw2.size
      have L_2 := Lib.hid (R_g.out.same (SameIn.below bw2 (by omega)))
      clear R_g
      have BL_3 := Lib.hid (BL.out.trans (bw2.mono (by omega)))
      clear BL bw2
      go_wp2_with fail
      refine (specGridSet_no _ 0 w2.heap.size g rr cc hh _ (L_2.out.mono (Nat.zero_le _) (by omega)) (Nat.le_refl _) HOK.out).mono ?_
      rintro e w3 ⟨r_4, rfl, ⟨_, _, _, rfl⟩, ow3, bw3⟩
      have Nw3 := Lib.hid (ow3)
      clear ow3
      have sw3 : w2.heap.size ≤ w3.heap.size := bw3.size
      have L_5 := Lib.hid (L_2.out.same (SameIn.below bw3 (by omega)))
      clear L_2
      have L_6 := Lib.hid (Nw2.out.same (SameIn.below bw3 (by omega)))
      clear Nw2
      have BL_7 := Lib.hid (BL_3.out.trans (bw3.mono (by omega)))
      clear BL_3 bw3
      go_wp2_with fail
      refine (sameGrid_any _ _ _ _ _ _ (G0) _ (L_6.out) (Nw3.out)).mono ?_
      intro e w4 hq
      obtain ⟨rfl, bw4⟩ := hq.below
      clear hq
      have sw4 : w3.heap.size ≤ w4.heap.size := bw4.size
      have L_8 := Lib.hid (L_5.out.same (SameIn.below bw4 (by omega)))
      clear L_5
      have L_9 := Lib.hid (L_6.out.same (SameIn.below bw4 (by omega)))
      clear L_6
      have L_10 := Lib.hid (Nw3.out.same (SameIn.below bw4 (by omega)))
      clear Nw3
      have BL_11 := Lib.hid (BL_7.out.trans (bw4.mono (by omega)))
      clear BL_7 bw4
      go_wp2_with fail
      refine (sameGrid_any _ _ _ _ _ _ (G0) _ (L_9.out) (L_10.out)).mono ?_
      intro e w5 hq
      obtain ⟨rfl, bw5⟩ := hq.below
      clear hq
      have sw5 : w4.heap.size ≤ w5.heap.size := bw5.size
      have L_12 := Lib.hid (L_8.out.same (SameIn.below bw5 (by omega)))
      clear L_8
      have L_13 := Lib.hid (L_9.out.same (SameIn.below bw5 (by omega)))
      clear L_9
      have L_14 := Lib.hid (L_10.out.same (SameIn.below bw5 (by omega)))
      clear L_10
      have BL_15 := Lib.hid (BL_11.out.trans (bw5.mono (by omega)))
      clear BL_11 bw5
      go_wp2
      go_ret
      exact ⟨rfl, BL_15.out⟩
    case pos =>
      have HOK := Lib.hid hok
      have hok2 := hok.1
      obtain ⟨r', er⟩ := Int.eq_ofNat_of_zero_le hok2.2.1.1
      obtain ⟨c', ec⟩ := Int.eq_ofNat_of_zero_le hok2.2.2.1
      subst er ec
      have hr : r' < g.n := by have := hok2.2.1.2; omega
      have hc0 : c' < g.len 0 := by have := hok2.2.2.2; omega
      have hc : c' < g.len r' := by have := (hok2.1.2.2 r' hr).1; omega
      have hX := (hok2.1.2.2 r' hr).2 c' hc
      have HVAL := Lib.hid hok2.1
      have hH := hok.2
      have h49 := mul_le_49 hok2.1.1.2 hok2.1.2.1.2
      have hC1 := hok2.1.2.1
      have HV2 := Lib.hid (upd_valid (r := r') (c := c') hok2.1 hok.2)
      have HFL := Lib.hid (upd_flat hr hc0 hh)
      have HBK := Lib.hid (upd_back (g := g) (r := r') (c := c') hh)
      have HAT := Lib.hid (show (g.upd r' c' hh).atV (r' : Int) (c' : Int) = hh from by
        rw [atV_yes (show (g.upd r' c' hh).Cell (r' : Int) (c' : Int) from ⟨HV2.out, hok2.2.1, hok2.2.2⟩)]
        show (if r' = r' ∧ c' = c' then hh else _) = hh
        rw [if_pos ⟨rfl, rfl⟩])
      have HS2 := Lib.hid (show (g.upd r' c' hh).SetOk (r' : Int) (c' : Int) (g.z r' c') from ⟨⟨HV2.out, hok2.2.1, hok2.2.2⟩, hX⟩)
      have HZF := Lib.hid (g.flat_at r' c' hc0)
      have HG2 := Lib.hid (show (g.upd r' c' hh).n = g.n ∧ (g.upd r' c' hh).len 0 = g.len 0 from ⟨rfl, rfl⟩)
      have HC1 := Lib.hid (fun v hi w h1 h2 => implGridSet_yes v 0 hi g r' c' hh w h1 h2 hok)
      have HC2 := Lib.hid (fun v hi w h1 h2 => specGridSet_yes v 0 hi g r' c' hh w h1 h2 hok)
      simp only [Int.toNat_natCast] at HC1 HC2
      obtain ⟨G2, eG2⟩ : ∃ G2, g.upd r' c' hh = G2 := ⟨_, rfl⟩
      rw [eG2] at HV2 HFL HBK HAT HS2 HG2 HC1 HC2
      have HC3 := Lib.hid (fun v hi w h1 h2 => implGridSet_yes v 0 hi G2 r' c' (g.z r' c') w h1 h2 HS2.out)
      simp only [Int.toNat_natCast] at HC3
      obtain ⟨X, eX⟩ : ∃ X, g.z r' c' = X := ⟨_, rfl⟩
      have EX := Lib.hid eX
      rw [eX] at hX HBK HZF HC3
      obtain ⟨M, eM⟩ : ∃ M, r' * g.len 0 = M := ⟨_, rfl⟩
      have hmul : (r' : Int) * (g.len 0 : Int) = (M : Int) := by rw [← eM]; exact (Int.natCast_mul _ _).symm
      have hixl := cell_lt (R := g.n) (C := g.len 0) rfl hr hc0
      rw [eM] at HFL HZF hixl
      obtain ⟨N, eN⟩ : ∃ N, g.n * g.len 0 = N := ⟨_, rfl⟩
      have EN := Lib.hid eN
      rw [eN] at h49 hixl
      have hM : M ≤ 49 := by omega
      have hsmall : 0 ≤ (r' : Int) * (g.len 0 : Int) ∧ (r' : Int) * (g.len 0 : Int) ≤ 49 := by rw [hmul]; omega
      have hwr1 : IntKind.i64.wrap ((r' : Int) * (g.len 0 : Int)) = (M : Int) := by rw [hmul]; exact IntWalk.i64_in _ (by omega)
      have hwr2 : IntKind.i64.wrap (M : Int) = (M : Int) := IntWalk.i64_in _ (by omega)
      obtain ⟨ix, eix⟩ : ∃ ix, M + c' = ix := ⟨_, rfl⟩
      have hsum : (M : Int) + c' = (ix : Int) := by omega
      have hwr3 : IntKind.i64.wrap (ix : Int) = (ix : Int) := IntWalk.i64_in _ (by omega)
      rw [eix] at HFL HZF hixl
      have hlr : (c' : Int) < g.len r' := by omega
      have hrn : (r' : Int) < g.n := by omega
      have hg0 : (0 : Int) < g.n := by omega
      have hHH : (hh == hh) = true := by simp
      clear hok hok2 eG2 eX eM eN eix
      go_wp2_with fail
      refine (HC1.out _ w1.heap.size _ (R_g.out.mono (Nat.zero_le _) (by omega)) (Nat.le_refl _)).mono ?_
      rintro e w2 ⟨r_1, rfl, ⟨_, _, _, rfl⟩, ow2, bw2⟩
      have Nw2 := Lib.hid (ow2.rd)
      clear ow2
      have sw2 : w1.heap.size ≤ w2.heap.size := bw2.size
      have L_2 := Lib.hid (R_g.out.same (SameIn.below bw2 (by omega)))
      clear R_g
      have BL_3 := Lib.hid (BL.out.trans (bw2.mono (by omega)))
      clear BL bw2
      go_wp2_with fail
      refine (HC2.out _ w2.heap.size _ (L_2.out.mono (Nat.zero_le _) (by omega)) (Nat.le_refl _)).mono ?_
      rintro e w3 ⟨r_4, rfl, ⟨_, _, _, rfl⟩, ow3, bw3⟩
      have Nw3 := Lib.hid (ow3)
      clear ow3
      have sw3 : w2.heap.size ≤ w3.heap.size := bw3.size
      have L_5 := Lib.hid (L_2.out.same (SameIn.below bw3 (by omega)))
      clear L_2
      have L_6 := Lib.hid (Nw2.out.same (SameIn.below bw3 (by omega)))
      clear Nw2
      have BL_7 := Lib.hid (BL_3.out.trans (bw3.mono (by omega)))
      clear BL_3 bw3
      go_wp2_with fail
      refine (sameGrid_any _ _ _ _ _ _ (G2) _ (L_6.out) (Nw3.out)).mono ?_
      intro e w4 hq
      obtain ⟨rfl, bw4⟩ := hq.below
      clear hq
      have sw4 : w3.heap.size ≤ w4.heap.size := bw4.size
      have L_8 := Lib.hid (L_5.out.same (SameIn.below bw4 (by omega)))
      clear L_5
      have L_9 := Lib.hid (L_6.out.same (SameIn.below bw4 (by omega)))
      clear L_6
      have L_10 := Lib.hid (Nw3.out.same (SameIn.below bw4 (by omega)))
      clear Nw3
      have BL_11 := Lib.hid (BL_7.out.trans (bw4.mono (by omega)))
      clear BL_7 bw4
      obtain ⟨bA, offA, capA, b1A, off1A, cpA, heA, p1A, p2A, ubA, ucA⟩ := L_8.out.cellAt hr hc
      simp only [Value.slice.injEq] at heA
      obtain ⟨he1A, _, he2A⟩ := heA
      simp only [Option.some.injEq, Addr.mk.injEq] at he1A
      obtain ⟨rfl, rfl, _⟩ := he1A
      clear he2A
      rw [EX.out] at p2A
      go_wp2_with fail
      refine (HC3.out _ w4.heap.size _ (L_9.out.mono (Nat.zero_le _) (by omega)) (Nat.le_refl _)).mono ?_
      rintro e w5 ⟨r_12, rfl, ⟨_, _, _, rfl⟩, ow5, bw5⟩
      have Nw5 := Lib.hid (ow5.rd)
      clear ow5
      have sw5 : w4.heap.size ≤ w5.heap.size := bw5.size
      have L_13 := Lib.hid (L_8.out.same (SameIn.below bw5 (by omega)))
      clear L_8
      have L_14 := Lib.hid (L_9.out.same (SameIn.below bw5 (by omega)))
      clear L_9
      have BL_15 := Lib.hid (BL_11.out.trans (bw5.mono (by omega)))
      clear BL_11 bw5
      clear p1A p2A
      have HGW := Lib.hid (fun (W : World) (hb : Below w5.heap.size w5 W) => L_13.out.same (SameIn.below hb (by omega)))
      have HOW := Lib.hid (fun (W : World) (hb : Below w5.heap.size w5 W) => L_14.out.same (SameIn.below hb (by omega)))
      have HXW := Lib.hid (fun (W : World) (hb : Below w5.heap.size w5 W) => Nw5.out.same (SameIn.below hb (by omega)))
      go_wp2
      go_loopw [13] (fun q wr => ∃ k : Nat, k ≤ N ∧ q = .int .i64 k ∧ Below w5.heap.size w5 wr) (fun q _ => N - (intOf q).toNat)
      case atStart => exact ⟨0, Nat.zero_le _, rfl, Below.refl _ _⟩
      case round =>
        obtain ⟨k, hk, rfl, hb⟩ := hrel
        have HB := Lib.hid hb
        have hszb := hb.size
        have hv1 := HVAL.out
        go_wp2_with fail
        refine (cellsOf_any _ 0 _ g _ ((HGW.out wr hb).mono (Nat.zero_le _) (Nat.le_refl _)) hv1).mono ?_
        rintro e w' ⟨rfl, rfl⟩
        rw [EN.out]
        clear hv1
        by_cases hlt : k < N
        · have hlt' : (k : Int) < N := by omega
          have HH1 := Lib.hid (fun n => heightOf_any _ _ _ G2 k (wr.drewN n) ((HOW.out wr hb).same (fun _ _ _ => rfl)) HV2.out (by rw [HG2.out.1, HG2.out.2, EN.out]; exact hlt))
          have HH2 := Lib.hid (fun n => heightOf_any _ _ _ g k (wr.drewN n) ((HGW.out wr hb).same (fun _ _ _ => rfl)) HVAL.out (by rw [EN.out]; exact hlt))
          obtain ⟨a0, d0, hd0⟩ := (HGW.out wr hb).head (by omega) (g.len 0) rfl
          obtain ⟨bB, offB, capB, b1B, off1B, cpB, heB, p1B, p2B, ubB, ucB⟩ := (HGW.out wr hb).cellAt hr hc
          simp only [Value.slice.injEq] at heB
          obtain ⟨he1B, _, he2B⟩ := heB
          simp only [Option.some.injEq, Addr.mk.injEq] at he1B
          obtain ⟨rfl, rfl, _⟩ := he1B
          clear he2B
          rw [EX.out] at p2B
          have hAF := HFL.out k
          obtain ⟨A, eA⟩ : ∃ A, G2.flat k = A := ⟨_, rfl⟩
          obtain ⟨E, eE⟩ : ∃ E, g.flat k = E := ⟨_, rfl⟩
          rw [eA, eE] at hAF
          rw [eA] at HH1
          have hEX : k = ix → E = X := fun e => by rw [← eE, e]; exact HZF.out
          rw [eE] at HH2
          clear hb eA eE
          by_cases hki : k = ix
          · have hk1 : ((k : Int) == (ix : Int)) = true := by rw [hki]; simp
            rw [if_pos hki] at hAF
            have hEX' := hEX hki
            subst hAF hEX'
            by_cases hhx : A = E
            · have hx1 : (A != E) = false := by simpa using hhx
              clear hhx hki hEX
              go_wp2_with fail
              go_quiet (first | (go_at_call 36; with_reducible exact Calls.quiet_ht (HH1.out _)) | (go_at_call 36; with_reducible exact Calls.quiet_ht (HH2.out _)))
              go_wp2
              go_roundw
              case rel => exact ⟨k + 1, by omega, by go_num, below_drewN HB.out _⟩
              case measure => simp [intOf]; omega
            · have hx1 : (A != E) = true := by simpa using hhx
              clear hhx hki hEX
              go_wp2_with fail
              go_quiet (first | (go_at_call 36; with_reducible exact Calls.quiet_ht (HH1.out _)) | (go_at_call 36; with_reducible exact Calls.quiet_ht (HH2.out _)))
              go_wp2
              go_roundw
              case rel => exact ⟨k + 1, by omega, by go_num, below_drewN HB.out _⟩
              case measure => simp [intOf]; omega
          · have hk1 : ((k : Int) == (ix : Int)) = false := by rw [beq_eq_false_iff_ne]; omega
            rw [if_neg hki] at hAF
            subst hAF
            have hx1 : (A != A) = false := by simp
            clear hki hEX
            go_wp2_with fail
            go_quiet (first | (go_at_call 36; with_reducible exact Calls.quiet_ht (HH1.out _)) | (go_at_call 36; with_reducible exact Calls.quiet_ht (HH2.out _)))
            go_wp2
            go_roundw
            case rel => exact ⟨k + 1, by omega, by go_num, below_drewN HB.out _⟩
            case measure => simp [intOf]; omega
        · obtain rfl : k = N := by omega
          have hlt' : ¬ (k : Int) < k := by omega
          have Gr := Lib.hid (HGW.out wr hb)
          have Or' := Lib.hid (HOW.out wr hb)
          have Xr := Lib.hid (HXW.out wr hb)
          have BLr := Lib.hid (BL_15.out.trans (hb.mono (by omega)))
          clear hb HOW HXW
          go_wp2_with fail
          refine (sameGrid_any _ _ _ _ _ _ (g) _ (Xr.out.congr HBK.out) (Gr.out)).mono ?_
          intro e w6 hq
          obtain ⟨rfl, bw6⟩ := hq.below
          clear hq
          have sw6 : wr.heap.size ≤ w6.heap.size := bw6.size
          have L_16 := Lib.hid (Gr.out.same (SameIn.below bw6 (by omega)))
          clear Gr
          have L_17 := Lib.hid (Or'.out.same (SameIn.below bw6 (by omega)))
          clear Or'
          have L_18 := Lib.hid (Xr.out.same (SameIn.below bw6 (by omega)))
          clear Xr
          have BL_19 := Lib.hid (BLr.out.trans (bw6.mono (by omega)))
          clear BLr bw6
          go_wp2_with fail
          refine (implAt_i _ 0 w6.heap.size G2 r' c' _ (L_17.out.mono (Nat.zero_le _) (by omega)) (Nat.le_refl _) hh HAT.out).mono ?_
          rintro e w7 ⟨rfl, bw7⟩
          have sw7 : w6.heap.size ≤ w7.heap.size := bw7.size
          have L_20 := Lib.hid (L_16.out.same (SameIn.below bw7 (by omega)))
          clear L_16
          have L_21 := Lib.hid (L_17.out.same (SameIn.below bw7 (by omega)))
          clear L_17
          have L_22 := Lib.hid (L_18.out.same (SameIn.below bw7 (by omega)))
          clear L_18
          have BL_23 := Lib.hid (BL_19.out.trans (bw7.mono (by omega)))
          clear BL_19 bw7
          go_wp2
          go_ret
          exact ⟨rfl, BL_23.out⟩
end Go.Proofs.Ytjllmidagcniaaa
