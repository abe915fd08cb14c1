/- The law FnBasins of the promises: its walk. -/
import Derived.Test.YtplfphpnpjjinaaPNear
import Derived.Test.YtplfphpnpjjinaaSame
import Derived.Test.YtplfphpnpjjinaaBasS
import Derived.Test.YtplfphpnpjjinaaBasE
import Derived.Test.YtplfphpnpjjinaaSinkN
import Derived.Test.YtplfphpnpjjinaaSinkE
import Derived.Test.YtplfphpnpjjinaaNextE
import Derived.Test.YtplfphpnpjjinaaDrawG
namespace Go.Proofs.Ytplfphpnpjjinaa
open Go.RowKit
set_option linter.unusedVariables false

theorem next_at (g : G) (h : g.Valid) (k r c : Nat) (hk : k < g.n * g.len 0) (hr : r < g.n) (hc : c < g.len 0) (e : k = r * g.len 0 + c) : g.wnV (r : Int) (c : Int) = (nxt g.n (g.len 0) g.flat ⟨k, hk⟩).1 :=
  G.wnV_yes ⟨h, ⟨by omega, by omega⟩, by omega, by omega⟩ ⟨k, hk⟩ e

set_option maxHeartbeats 4000000 in
set_option maxRecDepth 100000 in
theorem law_FnBasins (v : Value) (n : Nat) (w : World) (hv : RdB w.heap.size w v n) : Calls Try.prog 7 #[v] w (LawPost w) := by
  have HD := Lib.hid (draw_DrawWaterBasins v n w.heap.size w hv (Nat.le_refl _))
  obtain ⟨ao, cap, cb, off, Z, rfl, hc1, hc2, _⟩ := hv
  by_cases hn : 1048576 < n
  · have hn' : (1048576 : Int) < n := by omega
    go_enter Try.func7, Try.ntmps7
    go_wp2
    go_ret
    exact ⟨rfl, Below.refl _ _⟩
  · have hn' : ¬ (1048576 : Int) < n := by omega
    go_enter Try.func7, Try.ntmps7
    go_wp2_with fail
    refine HD.out.mono ?_
    rintro e w1 ⟨vg, g, rfl, _, hm, hgn, hgl, bw1⟩
    obtain ⟨bg, og, cg, rfl⟩ := hm.shape (by omega)
    have R_g := Lib.hid hm
    have HGL := Lib.hid hgl
    obtain ⟨hgn1, hgn5⟩ := hgn
    clear hm hgl HD
    have sw1 : w.heap.size ≤ w1.heap.size := bw1.size
    have BL := Lib.hid bw1
    clear bw1
    have hM : g.n * g.len 0 ≤ 49 := by
      have h1 := HGL.out 0 (by omega)
      have h2 : g.n * g.len 0 ≤ 5 * 9 := Nat.mul_le_mul hgn5 h1
      omega
    by_cases hval : g.Valid
    case neg =>
      have HE := Lib.hid (G.bsV_no hval)
      have HX := Lib.hid (show ((false : Bool) = true) ↔ g.Valid from ⟨fun h => (by cases h), fun h => absurd h hval⟩)
      clear hval
      go_wp2_with fail
      refine (implWaterBasins_any _ 0 w1.heap.size g _ (R_g.out.mono (Nat.zero_le _) (by omega)) (Nat.le_refl _) false HX.out).mono ?_
      rintro e w2 ⟨v_o, rfl, hl, bw2⟩
      rw [HE.out] at hl
      obtain ⟨a_o, c_o, rfl⟩ := hl.shape
      have Nw2 := Lib.hid (hl.rdI hM)
      clear hl
      have sw2 : w1.heap.size ≤ w2.heap.size := bw2.size
      have L_1 := Lib.hid (R_g.out.same (SameIn.below bw2 (by omega)))
      clear R_g
      have BL_2 := Lib.hid (BL.out.trans (bw2.mono (by omega)))
      clear BL bw2
      go_wp2_with fail
      refine (specWaterBasins_any _ 0 w2.heap.size g _ (L_1.out.mono (Nat.zero_le _) (by omega)) (Nat.le_refl _) false HX.out).mono ?_
      rintro e w3 ⟨v_p, rfl, hl, bw3⟩
      rw [HE.out] at hl
      obtain ⟨a_p, c_p, rfl⟩ := hl.shape
      have Nw3 := Lib.hid (hl.rdI hM)
      clear hl
      have sw3 : w2.heap.size ≤ w3.heap.size := bw3.size
      have L_3 := Lib.hid (L_1.out.same (SameIn.below bw3 (by omega)))
      clear L_1
      have L_4 := Lib.hid (Nw2.out.same (SameIn.below bw3 (by omega)))
      clear Nw2
      have BL_5 := Lib.hid (BL_2.out.trans (bw3.mono (by omega)))
      clear BL_2 bw3
      simp only [List.length_nil] at *
      go_wp2_with fail
      refine (sameInts_any _ _ _ _ _ _ (0) _ _ _ L_4.out Nw3.out (fun _ _ => rfl)).mono ?_
      rintro e w4 ⟨rfl, qw4, rfl⟩
      have bw4 := below_drewN (Below.refl w3.heap.size w3) qw4
      obtain ⟨w_w4, ew⟩ : ∃ w', w' = w3.drewN qw4 := ⟨_, rfl⟩
      rw [← ew] at bw4 ⊢
      clear ew
      have sw_w4 : w3.heap.size ≤ w_w4.heap.size := bw4.size
      have L_6 := Lib.hid (L_3.out.same (SameIn.below bw4 (by omega)))
      clear L_3
      have L_7 := Lib.hid (L_4.out.same (SameIn.below bw4 (by omega)))
      clear L_4
      have L_8 := Lib.hid (Nw3.out.same (SameIn.below bw4 (by omega)))
      clear Nw3
      have BL_9 := Lib.hid (BL_5.out.trans (bw4.mono (by omega)))
      clear BL_5 bw4
      go_wp2_with fail
      refine (sameInts_any _ _ _ _ _ _ (0) _ _ _ L_7.out L_8.out (fun _ _ => rfl)).mono ?_
      rintro e w5 ⟨rfl, qw5, rfl⟩
      have bw5 := below_drewN (Below.refl w_w4.heap.size w_w4) qw5
      obtain ⟨w_w5, ew⟩ : ∃ w', w' = w_w4.drewN qw5 := ⟨_, rfl⟩
      rw [← ew] at bw5 ⊢
      clear ew
      have sw_w5 : w_w4.heap.size ≤ w_w5.heap.size := bw5.size
      have L_10 := Lib.hid (L_6.out.same (SameIn.below bw5 (by omega)))
      clear L_6
      have L_11 := Lib.hid (L_7.out.same (SameIn.below bw5 (by omega)))
      clear L_7
      have L_12 := Lib.hid (L_8.out.same (SameIn.below bw5 (by omega)))
      clear L_8
      have BL_13 := Lib.hid (BL_9.out.trans (bw5.mono (by omega)))
      clear BL_9 bw5
      go_wp2
      go_ret
      exact ⟨rfl, BL_13.out⟩
    case pos =>
      have HV := Lib.hid hval
      have hZ : ∀ x, x < g.n * g.len 0 → 0 ≤ g.flat x ∧ g.flat x ≤ 99 := fun x hx => flat_okW hval hx
      have hn1 := hval.1.1
      obtain ⟨hl1, hl7⟩ := hval.2.1
      obtain ⟨E, eE⟩ : ∃ E, bsL g.n (g.len 0) g.flat (g.n * g.len 0) = E := ⟨_, rfl⟩
      obtain ⟨L, eL⟩ : ∃ L, skL g.n (g.len 0) g.flat (g.n * g.len 0) = L := ⟨_, rfl⟩
      have HE := Lib.hid (show g.bsV = E by rw [G.bsV_yes hval, eE])
      have HS := Lib.hid (show g.skV = L by rw [G.skV_yes hval, eL])
      obtain ⟨cn, ecn⟩ : ∃ cn : Nat → Nat, (fun s : Nat => cntZ (ezV g.n (g.len 0) g.flat) (s : Int) (g.n * g.len 0)) = cn := ⟨_, rfl⟩
      have HSUM := Lib.hid (show lsum L cn = g.n * g.len 0 by rw [← eL, ← ecn]; exact basin_sum hZ _ (Nat.le_refl _))
      have HSK := Lib.hid (fun (x : Ix (g.n * g.len 0)) (hx : x ∈ L) => show g.bnV (x.1 : Int) = (cn x.1 : Int) ∧ ezV g.n (g.len 0) g.flat x.1 = (x.1 : Int) by
        have h := (skL_holds.1 (eL ▸ hx)).2
        exact ⟨by rw [← ecn]; exact G.bnV_yes hval ⟨x, rfl, h⟩, ezV_sink hZ h⟩)
      have HEZ := Lib.hid (fun j (hj : j < g.n * g.len 0) => show ixZ E j = ezV g.n (g.len 0) g.flat j by rw [← eE]; exact bsZ _ _ _ hj)
      have HEL := Lib.hid (show E.length = g.n * g.len 0 by rw [← eE]; exact bsL_len _ _ _ _ (Nat.le_refl _))
      have HNX := Lib.hid (fun (i : Ix (g.n * g.len 0)) => ezV_next hZ i)
      have HNA := Lib.hid (next_at g hval)
      have hL49 : L.length ≤ 49 := by rw [← eL]; have := skL_len g.n (g.len 0) g.flat (g.n * g.len 0); omega
      obtain ⟨N, eN⟩ : ∃ N, g.n * g.len 0 = N := ⟨_, rfl⟩
      have EN := Lib.hid eN
      have hN49 : N ≤ 49 := by omega
      have HEN := Lib.hid (show E.length = N by rw [HEL.out, eN])
      have HCE := Lib.hid (fun (W : World) (hi : Nat) (h : RdM 0 hi W (.slice (some ⟨bg, og, none⟩) g.n cg) g) => show Calls Try.prog 26 #[.slice (some ⟨bg, og, none⟩) g.n cg] W (NatPost N W) from by
        rw [← EN.out]; exact cellsOf_any _ 0 hi g W h HV.out)
      obtain ⟨C, eC⟩ : ∃ C, g.len 0 = C := ⟨_, rfl⟩
      have EC := Lib.hid eC
      rw [eC] at hl1 hl7
      clear hval eL eE eN ecn hZ eC
      go_wp2_with fail
      refine (implWaterBasins_any _ 0 w1.heap.size g _ (R_g.out.mono (Nat.zero_le _) (by omega)) (Nat.le_refl _) true (by simp [HV.out])).mono ?_
      rintro e w2 ⟨v_o, rfl, hl, bw2⟩
      rw [HE.out] at hl
      have hrd := hl.rdI hM
      rw [HEN.out] at hrd
      obtain ⟨a_o, c_o, rfl⟩ : ∃ a c, v_o = .slice a N c := by
        obtain ⟨a, c, e⟩ := hl.shape
        exact ⟨a, c, by rw [e, HEN.out]⟩
      have Nw2 := Lib.hid hrd
      clear hl hrd
      have sw2 : w1.heap.size ≤ w2.heap.size := bw2.size
      have L_1 := Lib.hid (R_g.out.same (SameIn.below bw2 (by omega)))
      clear R_g
      have BL_2 := Lib.hid (BL.out.trans (bw2.mono (by omega)))
      clear BL bw2
      go_wp2_with fail
      refine (specWaterBasins_any _ 0 w2.heap.size g _ (L_1.out.mono (Nat.zero_le _) (by omega)) (Nat.le_refl _) true (by simp [HV.out])).mono ?_
      rintro e w3 ⟨v_p, rfl, hl, bw3⟩
      rw [HE.out] at hl
      have hrd := hl.rdI hM
      rw [HEN.out] at hrd
      obtain ⟨a_p, c_p, rfl⟩ : ∃ a c, v_p = .slice a N c := by
        obtain ⟨a, c, e⟩ := hl.shape
        exact ⟨a, c, by rw [e, HEN.out]⟩
      have Nw3 := Lib.hid hrd
      clear hl hrd
      have sw3 : w2.heap.size ≤ w3.heap.size := bw3.size
      have L_3 := Lib.hid (L_1.out.same (SameIn.below bw3 (by omega)))
      clear L_1
      have L_4 := Lib.hid (Nw2.out.same (SameIn.below bw3 (by omega)))
      clear Nw2
      have BL_5 := Lib.hid (BL_2.out.trans (bw3.mono (by omega)))
      clear BL_2 bw3
      go_wp2_with fail
      refine (sameInts_any _ _ _ _ _ _ (N) _ _ _ L_4.out Nw3.out (fun _ _ => rfl)).mono ?_
      rintro e w4 ⟨rfl, qw4, rfl⟩
      have bw4 := below_drewN (Below.refl w3.heap.size w3) qw4
      obtain ⟨w_w4, ew⟩ : ∃ w', w' = w3.drewN qw4 := ⟨_, rfl⟩
      rw [← ew] at bw4 ⊢
      clear ew
      have sw_w4 : w3.heap.size ≤ w_w4.heap.size := bw4.size
      have L_6 := Lib.hid (L_3.out.same (SameIn.below bw4 (by omega)))
      clear L_3
      have L_7 := Lib.hid (L_4.out.same (SameIn.below bw4 (by omega)))
      clear L_4
      have L_8 := Lib.hid (Nw3.out.same (SameIn.below bw4 (by omega)))
      clear Nw3
      have BL_9 := Lib.hid (BL_5.out.trans (bw4.mono (by omega)))
      clear BL_5 bw4
      go_wp2_with fail
      refine (implWaterSinks_any _ 0 w_w4.heap.size g _ (L_6.out.mono (Nat.zero_le _) (by omega)) (Nat.le_refl _)).mono ?_
      rintro e w5 ⟨v_s, rfl, hl, bw5⟩
      rw [HS.out] at hl
      obtain ⟨a_s, c_s, rfl⟩ := hl.shape
      have Nw5 := Lib.hid (hl.rdI hM)
      clear hl
      have sw5 : w_w4.heap.size ≤ w5.heap.size := bw5.size
      have L_10 := Lib.hid (L_6.out.same (SameIn.below bw5 (by omega)))
      clear L_6
      have L_11 := Lib.hid (L_7.out.same (SameIn.below bw5 (by omega)))
      clear L_7
      have BL_12 := Lib.hid (BL_9.out.trans (bw5.mono (by omega)))
      clear BL_9 bw5
      have HSUM2 := Lib.hid (fun k => show lsum (L.take k) cn ≤ 49 from Nat.le_trans (lsum_take_le L cn k) (by rw [HSUM.out]; exact hM))
      go_wp2
      go_loopw [9, 10] (fun a b wr => ∃ k : Nat, k ≤ L.length ∧ b = .int .i64 k ∧ a = .int .i64 (lsum (L.take k) cn : Nat) ∧ Below w5.heap.size w5 wr) (fun _ b _ => L.length - (intOf b).toNat)
      case atStart => exact ⟨0, Nat.zero_le _, rfl, rfl, Below.refl _ _⟩
      case round =>
        obtain ⟨k, hk, rfl, rfl, hbk⟩ := hrel
        have HR := Lib.hid (L_10.out.same (SameIn.below hbk (by omega)))
        have HO := Lib.hid (L_11.out.same (SameIn.below hbk (by omega)))
        have HSI := Lib.hid (Nw5.out.same (SameIn.below hbk (by omega)))
        have HB := Lib.hid hbk
        have hsk := hbk.size
        clear hbk
        by_cases hlt : k < L.length
        case pos =>
          have hlt' : (k : Int) < L.length := by omega
          have HQ := Lib.hid (lsum_take L cn hlt)
          obtain ⟨x, ex⟩ : ∃ x, L[k] = x := ⟨_, rfl⟩
          have hxm : x ∈ L := by rw [← ex]; exact List.getElem_mem hlt
          obtain ⟨hx1, hx2⟩ := HSK.out x hxm
          have hxN : x.1 < N := by rw [← EN.out]; exact x.2
          obtain ⟨bs, os, rfl, p1, _, rs1, rs2, _, rs4⟩ := HSI.out.at'' hlt (x.1 : Int) (by rw [ixZ_at L hlt, ex])
          obtain ⟨bo, oo, rfl, p2, _, ro1, ro2, _, ro4⟩ := HO.out.at'' hxN (x.1 : Int) (by rw [HEZ.out x.1 x.2, hx2])
          have HP1 := Lib.hid p1
          have HP2 := Lib.hid p2
          rw [ex] at HQ
          have hq1 := HSUM2.out k
          have hq2 := HSUM2.out (k + 1)
          rw [HQ.out] at hq2
          obtain ⟨xi, exi⟩ : ∃ xi, x.1 = xi := ⟨_, rfl⟩
          rw [exi] at p1 p2 HP1 HP2 hx1 hxN hq2 HQ rs1 rs2 ro1 ro2
          have HX1 := Lib.hid hx1
          have hxE' : (xi : Int) < N := by omega
          have bnds : bs < wr.heap.size ∧ bo < wr.heap.size := ⟨World.block_lt_of_cell? _ _ p1, World.block_lt_of_cell? _ _ p2⟩
          obtain ⟨bnd1, bnd2⟩ := bnds
          clear hx1 hx2 ex hxm exi p2
          go_wp2_with fail
          refine (implWaterBasin_any _ 0 wr.heap.size g xi _ (HR.out.mono (Nat.zero_le _) (by omega)) (Nat.le_refl _)).mono ?_
          rintro e w9 ⟨rfl, b9⟩
          have HB9 := Lib.hid (HB.out.trans (b9.mono hsk))
          have p3 := (b9.cell (p := ⟨bs, os + k, none⟩) bnd1).trans HP1.out
          have p4 := (b9.cell (p := ⟨bo, oo + xi, none⟩) bnd2).trans HP2.out
          clear b9 p1
          rw [HX1.out]
          have hw : IntKind.i64.wrap (((lsum (L.take k) cn : Nat) : Int) + ((cn xi : Nat) : Int)) = ((lsum (L.take (k + 1)) cn : Nat) : Int) := by
            rw [IntWalk.i64_in _ (by omega), HQ.out]; omega
          have hne : ((xi : Int) != xi) = false := by simp
          clear hq1 hq2
          go_wp2_with fail
          go_quiet (fail)
          go_wp2
          go_roundw
          case rel => exact ⟨k + 1, by omega, by go_num, rfl, below_drewN HB9.out _⟩
          case measure => simp [intOf]; omega
        case neg =>
          have hge : ¬ (k : Int) < L.length := by omega
          have HTK := Lib.hid (show lsum (L.take k) cn = N by rw [List.take_of_length_le (by omega), HSUM.out, EN.out])
          obtain ⟨a1, c1, h1⟩ := HR.out.headW hn1 C EC.out
          have hlk := HSUM2.out k
          have BW := Lib.hid (BL_12.out.trans (HB.out.mono (by omega)))
          have swr : w.heap.size ≤ wr.heap.size := by omega
          rw [HTK.out]
          clear HB
          generalize wr = wo at *
          go_wp2
          clear h1
          go_loopw [12] (fun b wr2 => ∃ j : Nat, j ≤ N ∧ b = .int .i64 j ∧ Below wo.heap.size wo wr2) (fun b _ => N - (intOf b).toNat)
          case atStart => exact ⟨0, Nat.zero_le _, rfl, Below.refl _ _⟩
          case round =>
            obtain ⟨j, hj, rfl, hbj⟩ := hrel
            have HR2 := Lib.hid (HR.out.same (SameIn.below hbj (by omega)))
            have HO2 := Lib.hid (HO.out.same (SameIn.below hbj (by omega)))
            have HB2 := Lib.hid hbj
            have hsj := hbj.size
            clear hbj
            by_cases hjl : j < N
            case pos =>
              have hjl2 : (j : Int) < N := by omega
              obtain ⟨r, er⟩ : ∃ r, r = j / C := ⟨_, rfl⟩
              obtain ⟨c, ec⟩ : ∃ c, c = j % C := ⟨_, rfl⟩
              have t1 : (j : Int) / (C : Int) = (r : Int) := by rw [er]; exact (Int.natCast_ediv _ _).symm
              have t2 : (j : Int) % (C : Int) = (c : Int) := by rw [ec]; exact (Int.natCast_emod _ _).symm
              have hr49 : r ≤ j := by rw [er]; exact Nat.div_le_self _ _
              have hc7 : c < C := by rw [ec]; exact Nat.mod_lt _ (by omega)
              have hrn : r < g.n := by rw [er]; exact (Nat.div_lt_iff_lt_mul (by omega)).2 (by rw [← EC.out, EN.out]; exact hjl)
              have hjN : j < g.n * g.len 0 := by rw [EN.out]; exact hjl
              obtain ⟨x, ex⟩ : ∃ x, nxt g.n (g.len 0) g.flat ⟨j, hjN⟩ = x := ⟨_, rfl⟩
              have HWN := Lib.hid (show g.wnV (r : Int) (c : Int) = (x.1 : Int) by rw [← ex]; exact HNA.out j r c hjN hrn (by rw [EC.out]; exact hc7) (by rw [EC.out, er, ec, Nat.mul_comm]; exact (Nat.div_add_mod j C).symm))
              have hxe : ezV g.n (g.len 0) g.flat x.1 = ezV g.n (g.len 0) g.flat j := by rw [← ex]; exact HNX.out ⟨j, hjN⟩
              have hxN : x.1 < N := by rw [← EN.out]; exact x.2
              obtain ⟨z, ez⟩ : ∃ z, ezV g.n (g.len 0) g.flat j = z := ⟨_, rfl⟩
              obtain ⟨bo, oo, rfl, p1, _, ro1, ro2, _, ro4⟩ := HO2.out.at'' hjl z (by rw [HEZ.out j hjN, ez])
              obtain ⟨bo', oo', e', p2, _⟩ := HO2.out.at'' hxN z (by rw [HEZ.out x.1 x.2, hxe, ez])
              simp only [Option.some.injEq, Addr.mk.injEq, and_true] at e'
              obtain ⟨rfl, rfl⟩ := e'
              obtain ⟨xi, exi⟩ : ∃ xi, x.1 = xi := ⟨_, rfl⟩
              rw [exi] at p2 HWN hxN
              have hxi' : (xi : Int) < N := by omega
              have P1 := Lib.hid p1
              have P2 := Lib.hid p2
              have bnd := World.block_lt_of_cell? _ _ p1
              clear hrn ex hxe ez exi er ec p1 p2
              have h3' : ¬ (C : Int) = 0 := by omega
              have h3'' : ((C : Int) == 0) = false := by rw [beq_eq_false_iff_ne]; omega
              have h4 : (j : Int) ≤ 48 := by omega
              have h5 : (r : Int) ≤ 48 := by omega
              have h6 : (c : Int) ≤ 7 := by omega
              have h7 : (0 : Int) < C := by omega
              have hq1 : IntKind.i64.wrap ((j : Int).tdiv (C : Int)) = (r : Int) := (IntWalk.i64_quo _ _ ⟨by omega, by omega, by omega⟩).trans t1
              have hq2 : (j : Int).tmod (C : Int) = (c : Int) := (IntWalk.rem_in _ _ (by omega)).trans t2
              have hq3 : IntKind.i64.wrap ((j : Int).tmod (C : Int)) = (c : Int) := by rw [hq2]; exact IntWalk.i64_in _ (by omega)
              have h3n : ¬ C = 0 := by omega
              have hqd : IntKind.i64.wrap ((j : Int) / (C : Int)) = (r : Int) := by rw [t1]; exact IntWalk.i64_in _ (by omega)
              have hzz : (z != z) = false := by simp
              clear t1
              have hS : wr.drew.cell? ⟨bo, oo + xi, none⟩ = some (.int .i64 z) ∧ wr.drew.cell? ⟨bo, oo + j, none⟩ = some (.int .i64 z) := ⟨P2.out, P1.out⟩
              have HHS := Lib.hid hS
              clear hS
              go_wp2_with fail
              go_region_held3 (fun w' => w'.cell? ⟨bo, oo + xi, none⟩ = some (.int .i64 z) ∧ w'.cell? ⟨bo, oo + j, none⟩ = some (.int .i64 z)) (first | with_reducible exact HHS.out | with_reducible exact s0 | go_keep)
                ((go_at_call 35; (refine (implWaterNext_any _ 0 wr.heap.size g r c wr.drew ((HR2.out.same (w' := wr.drew) (fun _ _ _ => rfl)).mono (Nat.zero_le _) (by omega)) (Nat.le_refl _)).mono ?_); rintro e w5 ⟨rfl, hb5⟩; rw [HWN.out]; have hbu := hb5.undrew; have s0 : w5.cell? ⟨bo, oo + xi, none⟩ = some (.int .i64 z) ∧ w5.cell? ⟨bo, oo + j, none⟩ = some (.int .i64 z) := ⟨(hbu.cell (p := ⟨bo, oo + xi, none⟩) bnd).trans P2.out, (hbu.cell (p := ⟨bo, oo + j, none⟩) bnd).trans P1.out⟩; have HB5 := Lib.hid hbu; clear hb5 hbu))
              all_goals go_wp2
              all_goals go_roundw
              all_goals first
                | exact ⟨j + 1, by omega, by go_num, HB2.out.trans (HB5.out.mono hsj)⟩
                | (simp [intOf]; omega)
            case neg =>
              have hjn : ¬ (j : Int) < N := by omega
              go_wp2_with fail
              refine (HCE.out _ _ (HR2.out.mono (Nat.zero_le _) (Nat.le_refl _))).mono ?_
              rintro e w90 ⟨rfl, rfl⟩
              have hnn : ((N : Int) == (N : Int)) = true := by simp
              go_wp2_with fail
              refine (HCE.out _ _ (HR2.out.mono (Nat.zero_le _) (Nat.le_refl _))).mono ?_
              rintro e w91 ⟨rfl, rfl⟩
              go_wp2
              go_ret
              exact ⟨rfl, BW.out.trans (HB2.out.mono swr)⟩
end Go.Proofs.Ytplfphpnpjjinaa

