/- The law FnNumbers of the promises: its walk. -/
import Derived.Test.YtplfphpnpjjinaaPNear
import Derived.Test.YtplfphpnpjjinaaSame
import Derived.Test.YtplfphpnpjjinaaRegI
import Derived.Test.YtplfphpnpjjinaaRegE
import Derived.Test.YtplfphpnpjjinaaRegS
import Derived.Test.YtplfphpnpjjinaaDrawH
namespace Go.Proofs.Ytplfphpnpjjinaa
open Go.RowKit
set_option linter.unusedVariables false

theorem num_next (R C : Nat) (Z : Nat → Int) (lv : Int) (i : Nat) : numZ R C Z lv i ≤ rgN R C Z lv i ∧ (numZ R C Z lv i = rgN R C Z lv i → rgN R C Z lv (i + 1) = rgN R C Z lv i + 1) ∧ (numZ R C Z lv i ≠ rgN R C Z lv i → rgN R C Z lv (i + 1) = rgN R C Z lv i) ∧ ((numZ R C Z lv i = -1) ↔ Z i < lv) ∧ -1 ≤ numZ R C Z lv i := by
  by_cases h : lv ≤ Z i
  · rw [numZ_yes h]
    have h1 := cmZ_le R C Z lv i
    have h2 := rgN_mono R C Z lv h1
    refine ⟨by omega, fun e => ?_, fun e => ?_, ⟨fun e => by omega, fun e => by omega⟩, by omega⟩
    · refine rgN_yes h ?_
      apply Classical.byContradiction
      intro hne
      have h3 := rgN_yes (R := R) (C := C) (cm_land (R := R) (C := C) h) (cmZ_idem R C Z lv i)
      have h4 := rgN_mono R C Z lv (a := cmZ R C Z lv i + 1) (b := i) (by omega)
      omega
    · refine rgN_no (fun k => e ?_)
      rw [k.2]
  · rw [numZ_no h]
    exact ⟨by omega, fun e => by omega, fun _ => rgN_no (fun k => h k.1), ⟨fun _ => by omega, fun _ => rfl⟩, by omega⟩
theorem num_near {R C : Nat} {Z : Nat → Int} {lv : Int} {i x : Ix (R * C)} (hx : x ∈ near R C i 4) (h1 : 0 ≤ numZ R C Z lv i.1) (h2 : 0 ≤ numZ R C Z lv x.1) : numZ R C Z lv x.1 = numZ R C Z lv i.1 := by
  have l1 : lv ≤ Z i.1 := by
    apply Classical.byContradiction
    intro h; rw [numZ_no h] at h1; omega
  have l2 : lv ≤ Z x.1 := by
    apply Classical.byContradiction
    intro h; rw [numZ_no h] at h2; omega
  rw [numZ_yes l1, numZ_yes l2, cm_adj (show Adj R C Z lv i x from ⟨hx, l1, l2⟩)]

set_option maxHeartbeats 4000000 in
set_option maxRecDepth 100000 in
theorem law_FnNumbers (v : Value) (n : Nat) (w : World) (hv : RdB w.heap.size w v n) : Calls Try.prog 5 #[v] w (LawPost w) := by
  have HD := Lib.hid (draw_DrawLevelNumbers v n w.heap.size w hv (Nat.le_refl _))
  obtain ⟨ao, cap, cb, off, Z, rfl, hc1, hc2, _⟩ := hv
  by_cases hn : 1048576 < n
  · have hn' : (1048576 : Int) < n := by omega
    go_enter Try.func5, Try.ntmps5
    go_wp2
    go_ret
    exact ⟨rfl, Below.refl _ _⟩
  · have hn' : ¬ (1048576 : Int) < n := by omega
    go_enter Try.func5, Try.ntmps5
    go_wp2_with fail
    refine HD.out.mono ?_
    rintro e w1 ⟨vg, g, lv, rfl, _, hm, hgn, hgl, ⟨hk1, hk2⟩, bw1⟩
    obtain ⟨bg, og, cg, rfl⟩ := hm.shape (by omega)
    have R_g := Lib.hid hm
    obtain ⟨hgn1, hgn5⟩ := hgn
    clear hm hgl HD
    have sw1 : w.heap.size ≤ w1.heap.size := bw1.size
    have BL := Lib.hid bw1
    clear bw1
    by_cases hok : g.LvOk lv
    case neg =>
      have HE := Lib.hid (G.lvB_no hok)
      have HZ := Lib.hid (G.nmN_no hok)
      clear hok
      go_wp2_with fail
      refine (implLevelNumbers_any _ 0 w1.heap.size g lv _ (R_g.out.mono (Nat.zero_le _) (by omega)) (Nat.le_refl _)).mono ?_
      rintro e w2 ⟨v_o, rfl, _, hl, bw2⟩
      rw [HZ.out] at hl
      rw [HE.out]
      obtain ⟨a_o, c_o, rfl⟩ := hl.shapeN
      have Nw2 := Lib.hid hl.rd
      clear hl
      have sw2 : w1.heap.size ≤ w2.heap.size := bw2.size
      have L_1 := Lib.hid (R_g.out.same (SameIn.below bw2 (by omega)))
      clear R_g
      have BL_2 := Lib.hid (BL.out.trans (bw2.mono (by omega)))
      clear BL bw2
      go_wp2_with fail
      refine (specLevelNumbers_any _ 0 w2.heap.size g lv _ (L_1.out.mono (Nat.zero_le _) (by omega)) (Nat.le_refl _)).mono ?_
      rintro e w3 ⟨v_p, rfl, _, hl, bw3⟩
      rw [HZ.out] at hl
      rw [HE.out]
      obtain ⟨a_p, c_p, rfl⟩ := hl.shapeN
      have Nw3 := Lib.hid hl.rd
      clear hl
      have sw3 : w2.heap.size ≤ w3.heap.size := bw3.size
      have L_3 := Lib.hid (L_1.out.same (SameIn.below bw3 (by omega)))
      clear L_1
      have L_4 := Lib.hid (Nw2.out.same (SameIn.below bw3 (by omega)))
      clear Nw2
      have BL_5 := Lib.hid (BL_2.out.trans (bw3.mono (by omega)))
      clear BL_2 bw3
      go_wp2_with fail
      refine (sameInts_any _ _ _ _ _ _ (0) _ _ _ L_4.out Nw3.out (fun _ _ => rfl)).mono ?_
      rintro e w4 ⟨rfl, qw4, rfl⟩
      have bw4 := below_drewN (Below.refl w3.heap.size w3) qw4
      obtain ⟨w_w4, ew⟩ : ∃ w', w' = w3.drewN qw4 := ⟨_, rfl⟩
      rw [← ew] at bw4 ⊢
      clear ew
      have sw_w4 : w3.heap.size ≤ w_w4.heap.size := bw4.size
      have L_6 := Lib.hid (L_3.out.same (SameIn.below bw4 (by omega)))
      clear L_3
      have L_7 := Lib.hid (L_4.out.same (SameIn.below bw4 (by omega)))
      clear L_4
      have L_8 := Lib.hid (Nw3.out.same (SameIn.below bw4 (by omega)))
      clear Nw3
      have BL_9 := Lib.hid (BL_5.out.trans (bw4.mono (by omega)))
      clear BL_5 bw4
      go_wp2_with fail
      refine (sameInts_any _ _ _ _ _ _ (0) _ _ _ L_7.out L_8.out (fun _ _ => rfl)).mono ?_
      rintro e w5 ⟨rfl, qw5, rfl⟩
      have bw5 := below_drewN (Below.refl w_w4.heap.size w_w4) qw5
      obtain ⟨w_w5, ew⟩ : ∃ w', w' = w_w4.drewN qw5 := ⟨_, rfl⟩
      rw [← ew] at bw5 ⊢
      clear ew
      have sw_w5 : w_w4.heap.size ≤ w_w5.heap.size := bw5.size
      have L_10 := Lib.hid (L_6.out.same (SameIn.below bw5 (by omega)))
      clear L_6
      have L_11 := Lib.hid (L_7.out.same (SameIn.below bw5 (by omega)))
      clear L_7
      have L_12 := Lib.hid (L_8.out.same (SameIn.below bw5 (by omega)))
      clear L_8
      have BL_13 := Lib.hid (BL_9.out.trans (bw5.mono (by omega)))
      clear BL_9 bw5
      go_wp2
      go_ret
      exact ⟨rfl, BL_13.out⟩
    case pos =>
      have HV := Lib.hid hok.1
      have HE := Lib.hid (G.lvB_yes hok)
      have h49 := mul_le_49 hok.1.1.2 hok.1.2.1.2
      have HZ := Lib.hid (G.nmN_yes hok)
      obtain ⟨R, eR⟩ : ∃ R, g.n = R := ⟨_, rfl⟩
      obtain ⟨C, eC⟩ : ∃ C, g.len 0 = C := ⟨_, rfl⟩
      have HRG := Lib.hid (show g.rgV lv = (rgN R C g.flat lv (R * C) : Nat) by rw [G.rgV_yes hok, eR, eC])
      have HNR := Lib.hid (fun (i : Ix (R * C)) (W : World) (hi : Nat) (hR : RdM 0 hi W (.slice (some ⟨bg, og, none⟩) g.n cg) g) (hs : hi ≤ W.heap.size) => nearOf_any _ 0 hi g R C eR eC i W hR hs hok.1)
      have HHT := Lib.hid (fun (i : Ix (R * C)) (W : World) (hi : Nat) (hR : RdM 0 hi W (.slice (some ⟨bg, og, none⟩) g.n cg) g) => heightOf_any _ 0 hi g i.1 W hR hok.1 (by have := i.2; rw [eR, eC]; exact this))
      have HCE := Lib.hid (fun (W : World) (hi : Nat) (hR : RdM 0 hi W (.slice (some ⟨bg, og, none⟩) g.n cg) g) => show Calls Try.prog 26 #[.slice (some ⟨bg, og, none⟩) g.n cg] W (NatPost (R * C) W) from by rw [← eR, ← eC]; exact cellsOf_any _ 0 hi g W hR hok.1)
      rw [eR, eC] at h49
      have HNN := Lib.hid (fun i => num_next R C g.flat lv i)
      obtain ⟨N, eN⟩ : ∃ N, R * C = N := ⟨_, rfl⟩
      have EN := Lib.hid eN
      have HRL := Lib.hid (fun k (hk : k ≤ 49) => show rgN R C g.flat lv k ≤ 49 from Nat.le_trans (rgN_le R C g.flat lv k) hk)
      rw [eN] at h49 HRG HCE
      have EGN := Lib.hid (show g.n * g.len 0 = N by rw [eR, eC, eN])
      have EZN := Lib.hid (show numZ g.n (g.len 0) g.flat lv = numZ R C g.flat lv by rw [eR, eC])
      clear hok eR eC eN
      go_wp2_with fail
      refine (implLevelNumbers_any _ 0 w1.heap.size g lv _ (R_g.out.mono (Nat.zero_le _) (by omega)) (Nat.le_refl _)).mono ?_
      rintro e w2 ⟨v_o, rfl, _, hl, bw2⟩
      rw [HZ.out, EGN.out, EZN.out] at hl
      rw [HE.out]
      obtain ⟨a_o, c_o, rfl⟩ := hl.shapeN
      have Nw2 := Lib.hid hl.rd
      clear hl
      have sw2 : w1.heap.size ≤ w2.heap.size := bw2.size
      have L_1 := Lib.hid (R_g.out.same (SameIn.below bw2 (by omega)))
      clear R_g
      have BL_2 := Lib.hid (BL.out.trans (bw2.mono (by omega)))
      clear BL bw2
      go_wp2_with fail
      refine (specLevelNumbers_any _ 0 w2.heap.size g lv _ (L_1.out.mono (Nat.zero_le _) (by omega)) (Nat.le_refl _)).mono ?_
      rintro e w3 ⟨v_p, rfl, _, hl, bw3⟩
      rw [HZ.out, EGN.out, EZN.out] at hl
      rw [HE.out]
      obtain ⟨a_p, c_p, rfl⟩ := hl.shapeN
      have Nw3 := Lib.hid hl.rd
      clear hl
      have sw3 : w2.heap.size ≤ w3.heap.size := bw3.size
      have L_3 := Lib.hid (L_1.out.same (SameIn.below bw3 (by omega)))
      clear L_1
      have L_4 := Lib.hid (Nw2.out.same (SameIn.below bw3 (by omega)))
      clear Nw2
      have BL_5 := Lib.hid (BL_2.out.trans (bw3.mono (by omega)))
      clear BL_2 bw3
      go_wp2_with fail
      refine (sameInts_any _ _ _ _ _ _ (N) _ _ _ L_4.out Nw3.out (fun _ _ => rfl)).mono ?_
      rintro e w4 ⟨rfl, qw4, rfl⟩
      have bw4 := below_drewN (Below.refl w3.heap.size w3) qw4
      obtain ⟨w_w4, ew⟩ : ∃ w', w' = w3.drewN qw4 := ⟨_, rfl⟩
      rw [← ew] at bw4 ⊢
      clear ew
      have sw_w4 : w3.heap.size ≤ w_w4.heap.size := bw4.size
      have L_6 := Lib.hid (L_3.out.same (SameIn.below bw4 (by omega)))
      clear L_3
      have L_7 := Lib.hid (L_4.out.same (SameIn.below bw4 (by omega)))
      clear L_4
      have L_8 := Lib.hid (Nw3.out.same (SameIn.below bw4 (by omega)))
      clear Nw3
      have BL_9 := Lib.hid (BL_5.out.trans (bw4.mono (by omega)))
      clear BL_5 bw4
      go_wp2
      go_loopw [9, 10, 11, 12] (fun a b x1 x2 wr => ∃ k : Nat, k ≤ N ∧ b = .int .i64 k ∧ a = .int .i64 (rgN R C g.flat lv k : Nat) ∧ Below w_w4.heap.size w_w4 wr) (fun _ b _ _ _ => N - (intOf b).toNat)
      case atStart => exact ⟨0, Nat.zero_le _, rfl, rfl, Below.refl _ _⟩
      case round =>
        obtain ⟨k, hk, rfl, rfl, hbk⟩ := hrel
        have HR := Lib.hid ((L_6.out.same (SameIn.below hbk (by omega))).mono (Nat.zero_le _) (Nat.le_refl _))
        have HO := Lib.hid (L_7.out.same (SameIn.below hbk (by omega)))
        have HB := Lib.hid hbk
        have hsk := hbk.size
        clear hbk
        have hq1 := HRL.out k (by omega)
        by_cases hlt : k < N
        case pos =>
          have hlt' : (k : Int) < N := by omega
          have hltR : k < R * C := by rw [EN.out]; exact hlt
          obtain ⟨z, ez⟩ : ∃ z, g.flat k = z := ⟨_, rfl⟩
          have HCK := Lib.hid (fun W hi h => ez ▸ HHT.out ⟨k, hltR⟩ W hi h)
          have HNK := Lib.hid (HNR.out ⟨k, hltR⟩)
          have HNE := Lib.hid (fun (x : Ix (R * C)) (hx : x ∈ near R C ⟨k, hltR⟩ 4) => num_near (Z := g.flat) (lv := lv) hx)
          have hl4 := near_len R C ⟨k, hltR⟩ 4
          obtain ⟨t1, t2, t3, t4, t5⟩ := HNN.out k
          obtain ⟨ao, cp, b, off, e1, i2, i3, i4, i5, i6⟩ := HO.out
          have q1 := i6 k hlt
          have I6 := Lib.hid i6
          simp only [Value.slice.injEq] at e1
          obtain ⟨rfl, _, rfl⟩ := e1
          obtain ⟨rfl, _, _⟩ := i5 (by omega)
          obtain ⟨m, em⟩ : ∃ m, numZ R C g.flat lv k = m := ⟨_, rfl⟩
          obtain ⟨q, eq⟩ : ∃ q, rgN R C g.flat lv k = q := ⟨_, rfl⟩
          have EM := Lib.hid em
          rw [em] at t1 t2 t3 t4 t5 q1
          rw [eq] at t1 t2 t3 hq1 ⊢
          have Q1 := Lib.hid q1
          have hnx : ∃ nx : Nat, rgN R C g.flat lv (k + 1) = nx ∧ (((m == (q : Int)) = true ∧ nx = q + 1) ∨ ((m == (q : Int)) = false ∧ nx = q)) := by
            by_cases e : m = (q : Int)
            · exact ⟨_, t2 e, Or.inl ⟨by simp [e], rfl⟩⟩
            · exact ⟨_, t3 e, Or.inr ⟨by simp [e], rfl⟩⟩
          obtain ⟨nx, enx, hnx⟩ := hnx
          have ENX := Lib.hid enx
          have hb4 : ((m == -1) = true ∧ decide (z < lv) = true) ∨ ((m == -1) = false ∧ decide (z < lv) = false) := by
            rw [← ez]
            by_cases e : g.flat k < lv
            · exact Or.inl ⟨by rw [t4.2 e]; rfl, decide_eq_true e⟩
            · exact Or.inr ⟨by rw [beq_eq_false_iff_ne]; exact fun h => e (t4.1 h), decide_eq_false e⟩
          have ht1 : decide ((q : Int) < m) = false := by simp <;> omega
          clear em eq t2 t3 t4 ez enx i4 i5 i6
          rcases hnx with ⟨hmq, hnx⟩ | ⟨hmq, hnx⟩ <;> rcases hb4 with ⟨hb4, hb5⟩ | ⟨hb4, hb5⟩
          · go_wp2_with fail
            go_region_held3 (fun w' => w'.cell? ⟨b, off + k, none⟩ = some (.int .i64 m)) (first | go_keep | exact z0 | exact Q1.out)
              ((go_at_call 24; (refine (HCK.out wr.drew _ (HR.out.same (w' := wr.drew) (fun _ _ _ => rfl))).mono ?_); rintro e w8 ⟨rfl, m8, rfl⟩; have z0 : (wr.drew.drewN m8).cell? ⟨b, off + k, none⟩ = some (.int .i64 m) := Q1.out))
            go_wp2_with fail
            refine (HNK.out _ _ (HR.out.same (w' := wr.drewN (1 + m8)) (fun _ _ _ => rfl)) (show _ ≤ wr.heap.size by omega)).mono ?_
            rintro e w2 ⟨r, rfl, ⟨a, c, rfl⟩, hr, hb2⟩
            have hb2' : Below wr.heap.size wr w2 := (below_drewN (Below.refl wr.heap.size wr) (1 + m8)).trans hb2
            have HRI := Lib.hid hr
            have Q2 := Lib.hid (fun (j : Nat) (hj : j < N) => (hb2'.cell (p := ⟨b, off + j, none⟩) (show b < wr.heap.size by omega)).trans (I6.out j hj))
            have HB2 := Lib.hid (HB.out.trans (hb2'.mono hsk))
            have hs2 := hb2'.size
            clear hr hb2 hb2' HNK HR
            generalize near R C ⟨k, hltR⟩ 4 = l at HRI HNE hl4 ⊢
            go_wp2
            go_loopw [12] (fun kk wr2 => ∃ j m : Nat, j ≤ l.length ∧ kk = .int .i64 j ∧ wr2 = w2.drewN m) (fun kk _ => l.length - (intOf kk).toNat)
            case atStart => exact ⟨0, 0, Nat.zero_le _, rfl, rfl⟩
            case round =>
              obtain ⟨j, mm, hj, rfl, rfl⟩ := hrel
              by_cases hjl : j < l.length
              case pos =>
                have hjl' : (j : Int) < l.length := by omega
                obtain ⟨ao, cpn, bn, offn, e1, j2, j3, j4, j5, j6⟩ := HRI.out
                have p1 := j6 j hjl
                rw [ixZ_at l hjl] at p1
                simp only [Value.slice.injEq] at e1
                obtain ⟨rfl, _, rfl⟩ := e1
                obtain ⟨rfl, _, _⟩ := j5 (by omega)
                have HXE := Lib.hid (HNE.out l[j] (List.getElem_mem hjl))
                obtain ⟨x, ex⟩ : ∃ x, (l[j]).1 = x := ⟨_, rfl⟩
                have hxN : x < N := by rw [← ex, ← EN.out]; exact (l[j]).2
                rw [ex] at p1 HXE
                have p2 := Q2.out x hxN
                have p3 := Q2.out k hlt
                obtain ⟨y, ey⟩ : ∃ y, numZ R C g.flat lv x = y := ⟨_, rfl⟩
                rw [ey] at p2 HXE
                rw [EM.out] at p3 HXE
                have hxN' : (x : Int) < N := by omega
                clear ex ey j4 j5 j6
                have h3 : (decide (0 ≤ m) = false) ∨ (decide (0 ≤ m) = true ∧ decide (0 ≤ y) = false) ∨ (decide (0 ≤ m) = true ∧ decide (0 ≤ y) = true ∧ (y != m) = false) := by
                  by_cases c1 : 0 ≤ m
                  · by_cases c2 : 0 ≤ y
                    · exact Or.inr (Or.inr ⟨by simp [c1], by simp [c2], by simp [HXE.out c1 c2]⟩)
                    · exact Or.inr (Or.inl ⟨by simp [c1], by simp <;> omega⟩)
                  · exact Or.inl (by simp <;> omega)
                clear HXE
                rcases h3 with h3 | ⟨h3, h4⟩ | ⟨h3, h4, h5⟩
                all_goals
                  go_wp2_with fail
                  go_quiet (fail)
                  go_wp2
                  go_roundw
                  case rel => exact ⟨j + 1, _, by omega, by go_num, rfl⟩
                  case measure => simp [intOf]; omega
              case neg =>
                have ej : ¬ (j : Int) < l.length := by omega
                have hw : IntKind.i64.wrap ((q : Int) + 1) = ((q + 1 : Nat) : Int) := by rw [IntWalk.i64_in _ (by omega)]; omega
                go_wp2
                go_roundw
                case rel => exact ⟨k + 1, by omega, by go_num, by simp [ENX.out, hnx], below_drewN HB2.out _⟩
                case measure => simp [intOf]; omega
          · go_wp2_with fail
            go_region_held3 (fun w' => w'.cell? ⟨b, off + k, none⟩ = some (.int .i64 m)) (first | go_keep | exact z0 | exact Q1.out)
              ((go_at_call 24; (refine (HCK.out wr.drew _ (HR.out.same (w' := wr.drew) (fun _ _ _ => rfl))).mono ?_); rintro e w8 ⟨rfl, m8, rfl⟩; have z0 : (wr.drew.drewN m8).cell? ⟨b, off + k, none⟩ = some (.int .i64 m) := Q1.out))
            go_wp2_with fail
            refine (HNK.out _ _ (HR.out.same (w' := wr.drewN (1 + m8)) (fun _ _ _ => rfl)) (show _ ≤ wr.heap.size by omega)).mono ?_
            rintro e w2 ⟨r, rfl, ⟨a, c, rfl⟩, hr, hb2⟩
            have hb2' : Below wr.heap.size wr w2 := (below_drewN (Below.refl wr.heap.size wr) (1 + m8)).trans hb2
            have HRI := Lib.hid hr
            have Q2 := Lib.hid (fun (j : Nat) (hj : j < N) => (hb2'.cell (p := ⟨b, off + j, none⟩) (show b < wr.heap.size by omega)).trans (I6.out j hj))
            have HB2 := Lib.hid (HB.out.trans (hb2'.mono hsk))
            have hs2 := hb2'.size
            clear hr hb2 hb2' HNK HR
            generalize near R C ⟨k, hltR⟩ 4 = l at HRI HNE hl4 ⊢
            go_wp2
            go_loopw [12] (fun kk wr2 => ∃ j m : Nat, j ≤ l.length ∧ kk = .int .i64 j ∧ wr2 = w2.drewN m) (fun kk _ => l.length - (intOf kk).toNat)
            case atStart => exact ⟨0, 0, Nat.zero_le _, rfl, rfl⟩
            case round =>
              obtain ⟨j, mm, hj, rfl, rfl⟩ := hrel
              by_cases hjl : j < l.length
              case pos =>
                have hjl' : (j : Int) < l.length := by omega
                obtain ⟨ao, cpn, bn, offn, e1, j2, j3, j4, j5, j6⟩ := HRI.out
                have p1 := j6 j hjl
                rw [ixZ_at l hjl] at p1
                simp only [Value.slice.injEq] at e1
                obtain ⟨rfl, _, rfl⟩ := e1
                obtain ⟨rfl, _, _⟩ := j5 (by omega)
                have HXE := Lib.hid (HNE.out l[j] (List.getElem_mem hjl))
                obtain ⟨x, ex⟩ : ∃ x, (l[j]).1 = x := ⟨_, rfl⟩
                have hxN : x < N := by rw [← ex, ← EN.out]; exact (l[j]).2
                rw [ex] at p1 HXE
                have p2 := Q2.out x hxN
                have p3 := Q2.out k hlt
                obtain ⟨y, ey⟩ : ∃ y, numZ R C g.flat lv x = y := ⟨_, rfl⟩
                rw [ey] at p2 HXE
                rw [EM.out] at p3 HXE
                have hxN' : (x : Int) < N := by omega
                clear ex ey j4 j5 j6
                have h3 : (decide (0 ≤ m) = false) ∨ (decide (0 ≤ m) = true ∧ decide (0 ≤ y) = false) ∨ (decide (0 ≤ m) = true ∧ decide (0 ≤ y) = true ∧ (y != m) = false) := by
                  by_cases c1 : 0 ≤ m
                  · by_cases c2 : 0 ≤ y
                    · exact Or.inr (Or.inr ⟨by simp [c1], by simp [c2], by simp [HXE.out c1 c2]⟩)
                    · exact Or.inr (Or.inl ⟨by simp [c1], by simp <;> omega⟩)
                  · exact Or.inl (by simp <;> omega)
                clear HXE
                rcases h3 with h3 | ⟨h3, h4⟩ | ⟨h3, h4, h5⟩
                all_goals
                  go_wp2_with fail
                  go_quiet (fail)
                  go_wp2
                  go_roundw
                  case rel => exact ⟨j + 1, _, by omega, by go_num, rfl⟩
                  case measure => simp [intOf]; omega
              case neg =>
                have ej : ¬ (j : Int) < l.length := by omega
                have hw : IntKind.i64.wrap ((q : Int) + 1) = ((q + 1 : Nat) : Int) := by rw [IntWalk.i64_in _ (by omega)]; omega
                go_wp2
                go_roundw
                case rel => exact ⟨k + 1, by omega, by go_num, by simp [ENX.out, hnx], below_drewN HB2.out _⟩
                case measure => simp [intOf]; omega
          · go_wp2_with fail
            go_region_held3 (fun w' => w'.cell? ⟨b, off + k, none⟩ = some (.int .i64 m)) (first | go_keep | exact z0 | exact Q1.out)
              ((go_at_call 24; (refine (HCK.out wr.drew _ (HR.out.same (w' := wr.drew) (fun _ _ _ => rfl))).mono ?_); rintro e w8 ⟨rfl, m8, rfl⟩; have z0 : (wr.drew.drewN m8).cell? ⟨b, off + k, none⟩ = some (.int .i64 m) := Q1.out))
            go_wp2_with fail
            refine (HNK.out _ _ (HR.out.same (w' := wr.drewN (1 + m8)) (fun _ _ _ => rfl)) (show _ ≤ wr.heap.size by omega)).mono ?_
            rintro e w2 ⟨r, rfl, ⟨a, c, rfl⟩, hr, hb2⟩
            have hb2' : Below wr.heap.size wr w2 := (below_drewN (Below.refl wr.heap.size wr) (1 + m8)).trans hb2
            have HRI := Lib.hid hr
            have Q2 := Lib.hid (fun (j : Nat) (hj : j < N) => (hb2'.cell (p := ⟨b, off + j, none⟩) (show b < wr.heap.size by omega)).trans (I6.out j hj))
            have HB2 := Lib.hid (HB.out.trans (hb2'.mono hsk))
            have hs2 := hb2'.size
            clear hr hb2 hb2' HNK HR
            generalize near R C ⟨k, hltR⟩ 4 = l at HRI HNE hl4 ⊢
            go_wp2
            go_loopw [12] (fun kk wr2 => ∃ j m : Nat, j ≤ l.length ∧ kk = .int .i64 j ∧ wr2 = w2.drewN m) (fun kk _ => l.length - (intOf kk).toNat)
            case atStart => exact ⟨0, 0, Nat.zero_le _, rfl, rfl⟩
            case round =>
              obtain ⟨j, mm, hj, rfl, rfl⟩ := hrel
              by_cases hjl : j < l.length
              case pos =>
                have hjl' : (j : Int) < l.length := by omega
                obtain ⟨ao, cpn, bn, offn, e1, j2, j3, j4, j5, j6⟩ := HRI.out
                have p1 := j6 j hjl
                rw [ixZ_at l hjl] at p1
                simp only [Value.slice.injEq] at e1
                obtain ⟨rfl, _, rfl⟩ := e1
                obtain ⟨rfl, _, _⟩ := j5 (by omega)
                have HXE := Lib.hid (HNE.out l[j] (List.getElem_mem hjl))
                obtain ⟨x, ex⟩ : ∃ x, (l[j]).1 = x := ⟨_, rfl⟩
                have hxN : x < N := by rw [← ex, ← EN.out]; exact (l[j]).2
                rw [ex] at p1 HXE
                have p2 := Q2.out x hxN
                have p3 := Q2.out k hlt
                obtain ⟨y, ey⟩ : ∃ y, numZ R C g.flat lv x = y := ⟨_, rfl⟩
                rw [ey] at p2 HXE
                rw [EM.out] at p3 HXE
                have hxN' : (x : Int) < N := by omega
                clear ex ey j4 j5 j6
                have h3 : (decide (0 ≤ m) = false) ∨ (decide (0 ≤ m) = true ∧ decide (0 ≤ y) = false) ∨ (decide (0 ≤ m) = true ∧ decide (0 ≤ y) = true ∧ (y != m) = false) := by
                  by_cases c1 : 0 ≤ m
                  · by_cases c2 : 0 ≤ y
                    · exact Or.inr (Or.inr ⟨by simp [c1], by simp [c2], by simp [HXE.out c1 c2]⟩)
                    · exact Or.inr (Or.inl ⟨by simp [c1], by simp <;> omega⟩)
                  · exact Or.inl (by simp <;> omega)
                clear HXE
                rcases h3 with h3 | ⟨h3, h4⟩ | ⟨h3, h4, h5⟩
                all_goals
                  go_wp2_with fail
                  go_quiet (fail)
                  go_wp2
                  go_roundw
                  case rel => exact ⟨j + 1, _, by omega, by go_num, rfl⟩
                  case measure => simp [intOf]; omega
              case neg =>
                have ej : ¬ (j : Int) < l.length := by omega
                have hw : IntKind.i64.wrap ((q : Int) + 1) = ((q + 1 : Nat) : Int) := by rw [IntWalk.i64_in _ (by omega)]; omega
                go_wp2
                go_roundw
                case rel => exact ⟨k + 1, by omega, by go_num, by simp [ENX.out, hnx], below_drewN HB2.out _⟩
                case measure => simp [intOf]; omega
          · go_wp2_with fail
            go_region_held3 (fun w' => w'.cell? ⟨b, off + k, none⟩ = some (.int .i64 m)) (first | go_keep | exact z0 | exact Q1.out)
              ((go_at_call 24; (refine (HCK.out wr.drew _ (HR.out.same (w' := wr.drew) (fun _ _ _ => rfl))).mono ?_); rintro e w8 ⟨rfl, m8, rfl⟩; have z0 : (wr.drew.drewN m8).cell? ⟨b, off + k, none⟩ = some (.int .i64 m) := Q1.out))
            go_wp2_with fail
            refine (HNK.out _ _ (HR.out.same (w' := wr.drewN (1 + m8)) (fun _ _ _ => rfl)) (show _ ≤ wr.heap.size by omega)).mono ?_
            rintro e w2 ⟨r, rfl, ⟨a, c, rfl⟩, hr, hb2⟩
            have hb2' : Below wr.heap.size wr w2 := (below_drewN (Below.refl wr.heap.size wr) (1 + m8)).trans hb2
            have HRI := Lib.hid hr
            have Q2 := Lib.hid (fun (j : Nat) (hj : j < N) => (hb2'.cell (p := ⟨b, off + j, none⟩) (show b < wr.heap.size by omega)).trans (I6.out j hj))
            have HB2 := Lib.hid (HB.out.trans (hb2'.mono hsk))
            have hs2 := hb2'.size
            clear hr hb2 hb2' HNK HR
            generalize near R C ⟨k, hltR⟩ 4 = l at HRI HNE hl4 ⊢
            go_wp2
            go_loopw [12] (fun kk wr2 => ∃ j m : Nat, j ≤ l.length ∧ kk = .int .i64 j ∧ wr2 = w2.drewN m) (fun kk _ => l.length - (intOf kk).toNat)
            case atStart => exact ⟨0, 0, Nat.zero_le _, rfl, rfl⟩
            case round =>
              obtain ⟨j, mm, hj, rfl, rfl⟩ := hrel
              by_cases hjl : j < l.length
              case pos =>
                have hjl' : (j : Int) < l.length := by omega
                obtain ⟨ao, cpn, bn, offn, e1, j2, j3, j4, j5, j6⟩ := HRI.out
                have p1 := j6 j hjl
                rw [ixZ_at l hjl] at p1
                simp only [Value.slice.injEq] at e1
                obtain ⟨rfl, _, rfl⟩ := e1
                obtain ⟨rfl, _, _⟩ := j5 (by omega)
                have HXE := Lib.hid (HNE.out l[j] (List.getElem_mem hjl))
                obtain ⟨x, ex⟩ : ∃ x, (l[j]).1 = x := ⟨_, rfl⟩
                have hxN : x < N := by rw [← ex, ← EN.out]; exact (l[j]).2
                rw [ex] at p1 HXE
                have p2 := Q2.out x hxN
                have p3 := Q2.out k hlt
                obtain ⟨y, ey⟩ : ∃ y, numZ R C g.flat lv x = y := ⟨_, rfl⟩
                rw [ey] at p2 HXE
                rw [EM.out] at p3 HXE
                have hxN' : (x : Int) < N := by omega
                clear ex ey j4 j5 j6
                have h3 : (decide (0 ≤ m) = false) ∨ (decide (0 ≤ m) = true ∧ decide (0 ≤ y) = false) ∨ (decide (0 ≤ m) = true ∧ decide (0 ≤ y) = true ∧ (y != m) = false) := by
                  by_cases c1 : 0 ≤ m
                  · by_cases c2 : 0 ≤ y
                    · exact Or.inr (Or.inr ⟨by simp [c1], by simp [c2], by simp [HXE.out c1 c2]⟩)
                    · exact Or.inr (Or.inl ⟨by simp [c1], by simp <;> omega⟩)
                  · exact Or.inl (by simp <;> omega)
                clear HXE
                rcases h3 with h3 | ⟨h3, h4⟩ | ⟨h3, h4, h5⟩
                all_goals
                  go_wp2_with fail
                  go_quiet (fail)
                  go_wp2
                  go_roundw
                  case rel => exact ⟨j + 1, _, by omega, by go_num, rfl⟩
                  case measure => simp [intOf]; omega
              case neg =>
                have ej : ¬ (j : Int) < l.length := by omega
                have hw : IntKind.i64.wrap ((q : Int) + 1) = ((q + 1 : Nat) : Int) := by rw [IntWalk.i64_in _ (by omega)]; omega
                go_wp2
                go_roundw
                case rel => exact ⟨k + 1, by omega, by go_num, by simp [ENX.out, hnx], below_drewN HB2.out _⟩
                case measure => simp [intOf]; omega
        case neg =>
          have hge : ¬ (k : Int) < N := by omega
          obtain rfl : k = N := by omega
          have hx9 : ((rgN R C g.flat lv k : Int) == (rgN R C g.flat lv k : Int)) = true := by simp
          go_wp2_with fail
          refine (implLevelRegions_any _ 0 wr.heap.size g lv _ (HR.out.mono (Nat.zero_le _) (by omega)) (Nat.le_refl _)).mono ?_
          rintro e w9 ⟨rfl, b9⟩
          have HB9 := Lib.hid (HB.out.trans (b9.mono hsk))
          have HR9 := Lib.hid (HR.out.same (SameIn.below b9 (by omega)))
          clear b9
          rw [HRG.out]
          go_wp2_with fail
          refine (HCE.out _ _ HR9.out).mono ?_
          rintro e w90 ⟨rfl, rfl⟩
          go_wp2
          go_ret
          exact ⟨rfl, BL_9.out.trans (HB9.out.mono (by omega))⟩
end Go.Proofs.Ytplfphpnpjjinaa

