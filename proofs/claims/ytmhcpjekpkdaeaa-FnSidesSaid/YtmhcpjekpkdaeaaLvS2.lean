/- Sides, corners, the greatest level and the sum in the model, by contract. -/
import Derived.Test.YtmhcpjekpkdaeaaLvS
namespace Go.Proofs.Ytmhcpjekpkdaeaa
open Go.RowKit
set_option linter.unusedVariables false

theorem _root_.Go.Calls.quiet_hg {P : Program} {f : FuncId} {args : Array Value} {w : World} {n : Nat} {z : Int}
    (h : Calls P f args (w.drewN n) (HgPost z (w.drewN n))) : Calls P f args (w.drewN n) fun e w'' => e = .returned (.int .i64 z) ∧ ∃ m, w'' = w.drewN m :=
  h.mono fun _ _ ⟨he, m, hm⟩ => ⟨he, n + m, by rw [hm, World.drewN_drewN]⟩

set_option maxHeartbeats 1000000 in
set_option maxRecDepth 20000 in
theorem specLevelGreatest_any (v : Value) (lo hi : Nat) (g : G) (w : World) (hv : RdM lo hi w v g) (m : Int) (hm : (g.Valid ∧ m = mx g.flat (g.n * g.len 0)) ∨ (¬ g.Valid ∧ m = -1)) :
    Calls Try.prog 11 #[v] w (IntPost m w) := by
  rcases hm with ⟨h, rfl⟩ | ⟨h, rfl⟩
  · have HC := Lib.hid (specGridRange_yes v lo hi g w hv h)
    clear hv h
    go_enter Try.func11, Try.ntmps11
    go_wp2_with fail
    refine HC.out.mono ?_
    rintro e w1 ⟨rfl, hb⟩
    have HB := Lib.hid hb
    clear hb
    go_wp2
    go_ret
    exact ⟨rfl, HB.out⟩
  · have HC := Lib.hid (specGridRange_no v lo hi g w hv h)
    clear hv h
    go_enter Try.func11, Try.ntmps11
    go_wp2_with fail
    refine HC.out.mono ?_
    rintro e w1 ⟨rfl, hb⟩
    have HB := Lib.hid hb
    clear hb
    go_wp2
    go_ret
    exact ⟨rfl, HB.out⟩

set_option maxHeartbeats 4000000 in
set_option maxRecDepth 100000 in
theorem specLevelSides_any (v : Value) (lo hi : Nat) (g : G) (lv : Int) (w : World) (hv : RdM lo hi w v g) (hh : hi ≤ w.heap.size) :
    Calls Try.prog 27 #[v, .int .i64 lv] w (IntPost (g.sdV lv) w) := by
  have HC := Lib.hid (l3Ok_any v lo hi g lv w hv)
  by_cases h : g.LvOk lv
  case neg =>
    have HB := Lib.hid (G.lvB_no h)
    have HA := Lib.hid (G.sdV_no h)
    clear hv h
    go_enter Try.func27, Try.ntmps27
    go_wp2_with fail
    refine HC.out.mono ?_
    rintro e w1 ⟨rfl, n1, rfl⟩
    rw [HB.out]
    go_wp2
    go_ret
    exact ⟨ret_int HA.out.symm, below_drewN (Below.refl _ _) _⟩
  case pos =>
    have HB := Lib.hid (G.lvB_yes h)
    have HA := Lib.hid (G.sdV_yes h)
    have HV := Lib.hid hv
    have HH := Lib.hid h.1
    have h49 := mul_le_49 h.1.1.2 h.1.2.1.2
    obtain ⟨b0, off0, cap0, rfl⟩ := hv.shapeW h.1.1.1
    obtain ⟨N, eN⟩ : ∃ N, g.n * g.len 0 = N := ⟨_, rfl⟩
    have EN := Lib.hid eN
    rw [eN] at h49
    clear hv h eN
    go_enter Try.func27, Try.ntmps27
    go_wp2_with fail
    refine HC.out.mono ?_
    rintro e w1 ⟨rfl, n1, rfl⟩
    rw [HB.out]
    go_wp2
    go_loopw [5, 6] (fun o k wr => ∃ kk : Nat, kk ≤ N ∧ k = .int .i64 kk ∧ o = .int .i64 (sidesN g.n (g.len 0) g.flat lv kk) ∧ Below w.heap.size w wr) (fun _ k _ => N - (intOf k).toNat)
    case atStart => exact ⟨0, Nat.zero_le _, rfl, rfl, below_drewN (Below.refl _ _) _⟩
    case round =>
      obtain ⟨kk, hk, rfl, rfl, hb⟩ := hrel
      have HVR := Lib.hid (HV.out.same (SameIn.below hb hh))
      have HB1 := Lib.hid hb
      have hle := sidesN_le g.n (g.len 0) g.flat lv kk
      have hsz := hb.size
      clear hb
      by_cases hlt : kk < N
      · have hlt' : (kk : Int) < N := by omega
        obtain ⟨i, hi'⟩ : ∃ i : Ix (g.n * g.len 0), i.1 = kk := ⟨⟨kk, by rw [EN.out]; exact hlt⟩, rfl⟩
        have HSD := Lib.hid (show sidesN g.n (g.len 0) g.flat lv (kk + 1) = sidesN g.n (g.len 0) g.flat lv kk + sdL g.flat lv i (near g.n (g.len 0) i 4) by rw [← hi']; simp only [sidesN]; rw [sdAt_at])
        obtain ⟨m, em⟩ : ∃ m, sidesN g.n (g.len 0) g.flat lv kk = m := ⟨_, rfl⟩
        rw [em] at hle HSD ⊢
        have HNR := Lib.hid (l2Near_any _ lo hi g g.n (g.len 0) rfl rfl i wr HVR.out (Nat.le_trans hh hsz) HH.out)
        rw [hi'] at HNR
        have hnl := near_len g.n (g.len 0) i 4
        have HI := Lib.hid hi'
        clear em hi'
        go_wp2_with fail
        refine (l2Cells_any _ lo hi g _ HVR.out HH.out).mono ?_
        rintro e w2 ⟨rfl, rfl⟩
        rw [EN.out]
        go_wp2_with fail
        refine HNR.out.mono ?_
        rintro e w4 ⟨v4, rfl, ⟨a4, c4, rfl⟩, hrd, hb4⟩
        have HB4 := Lib.hid (HB1.out.trans (hb4.mono hsz))
        obtain ⟨ao, cap, b, off, e1, h2, h3, h4, h5, h6⟩ := hrd
        simp only [Value.slice.injEq] at e1
        obtain ⟨rfl, _, rfl⟩ := e1
        obtain ⟨L, eL⟩ : ∃ L, near g.n (g.len 0) i 4 = L := ⟨_, rfl⟩
        rw [eL] at HSD h2 h4 h5 h6 hnl ⊢
        have hs4 := hb4.size
        have H5 := Lib.hid h5
        have H6 := Lib.hid h6
        clear hb4 h4 h5 h6 eL
        go_wp2
        go_loopw [5, 8] (fun o j wx => ∃ jj : Nat, jj ≤ L.length ∧ j = .int .i64 jj ∧ o = .int .i64 ((m : Int) + sdL g.flat lv i (L.take jj)) ∧ Below w4.heap.size w4 wx) (fun _ j _ => L.length - (intOf j).toNat)
        case atStart => exact ⟨0, Nat.zero_le _, rfl, by simp [sdL], Below.refl _ _⟩
        case round =>
          obtain ⟨jj, hj, rfl, rfl, hbx⟩ := hrel
          have hll := sdL_le g.flat lv i (L.take jj)
          have hlt4 : (L.take jj).length ≤ 4 := by rw [List.length_take]; omega
          have HBX := Lib.hid hbx
          by_cases hjl : jj < L.length
          · have hjl' : (jj : Int) < L.length := by omega
            obtain ⟨rfl, _, hblt⟩ := H5.out (by omega)
            have c1 := (hbx.cell (p := ⟨b, off + jj, none⟩) hblt).trans (H6.out jj hjl)
            rw [ixZ_at _ hjl] at c1
            have HT := Lib.hid (show sdL g.flat lv i (L.take (jj + 1)) = sdL g.flat lv i (L.take jj) + (if i.1 < L[jj].1 ∧ lv ≤ g.flat i.1 ∧ lv ≤ g.flat L[jj].1 then 1 else 0) by
              rw [List.take_succ_eq_append_getElem hjl, sdL_snoc])
            have hxl := L[jj].2
            obtain ⟨x, ex⟩ : ∃ x, L[jj].1 = x := ⟨_, rfl⟩
            rw [ex] at c1 HT hxl
            rw [HI.out] at HT
            have hcon : ∀ (n j : Nat) (_ : j < g.n * g.len 0), Calls Try.prog 47 #[.slice (some ⟨b0, off0, none⟩) g.n cap0, .int .i64 (j : Nat)] (wr.drewN n) (HgPost (g.flat j) (wr.drewN n)) := fun n j hj =>
              l2Height_any _ lo hi g j (wr.drewN n) (((HV.out.same (SameIn.below HB4.out hh)).same (SameIn.below hbx (Nat.le_trans hh (by have := HB4.out.size; omega)))).same (fun _ _ _ => rfl)) HH.out hj
            have HG := Lib.hid hcon
            have J1 := Lib.hid hxl
            have J2 := Lib.hid (show kk < g.n * g.len 0 by rw [EN.out]; exact hlt)
            generalize sdL g.flat lv i (L.take jj) = q at hll HT ⊢
            clear hbx ex hcon hxl
            by_cases hlx : kk < x
            · have hd : decide ((kk : Int) < (x : Int)) = true := by simp; omega
              have hd2 : decide ((kk : Nat) < x) = true := by simp; omega
              by_cases hz : lv ≤ g.flat kk ∧ lv ≤ g.flat x
              · have HT' := Lib.hid (show sdL g.flat lv i (L.take (jj + 1)) = q + 1 by rw [HT.out, if_pos ⟨hlx, hz⟩])
                have hdm : decide (lv ≤ min (g.flat kk) (g.flat x)) = true := by simp; omega
                go_wp2
                go_quiet ((go_at_call 47; exact Calls.quiet_hg (HG.out _ _ (by first | exact J1.out | exact J2.out))))
                go_wp2
                go_roundw
                case rel => exact ⟨jj + 1, by omega, by go_num, by rw [HT'.out]; go_num, below_drewN HBX.out _⟩
                case measure => simp [intOf]; omega
              · have HT' := Lib.hid (show sdL g.flat lv i (L.take (jj + 1)) = q by rw [HT.out, if_neg (fun h => hz h.2)]; rfl)
                have hdm : decide (lv ≤ min (g.flat kk) (g.flat x)) = false := by simp; omega
                go_wp2
                go_quiet ((go_at_call 47; exact Calls.quiet_hg (HG.out _ _ (by first | exact J1.out | exact J2.out))))
                go_wp2
                go_roundw
                case rel => exact ⟨jj + 1, by omega, by go_num, by rw [HT'.out], below_drewN HBX.out _⟩
                case measure => simp [intOf]; omega
            · have HT' := Lib.hid (show sdL g.flat lv i (L.take (jj + 1)) = q by rw [HT.out, if_neg (fun h => hlx h.1)]; rfl)
              have hd : decide ((kk : Int) < (x : Int)) = false := by simp; omega
              have hd2 : decide ((kk : Nat) < x) = false := by simp; omega
              go_wp2
              go_quiet (fail)
              go_wp2
              go_roundw
              case rel => exact ⟨jj + 1, by omega, by go_num, by rw [HT'.out], below_drewN HBX.out _⟩
              case measure => simp [intOf]; omega
          · have ej : jj = L.length := by omega
            have HT := Lib.hid (show (m : Int) + sdL g.flat lv i (L.take jj) = ((sidesN g.n (g.len 0) g.flat lv (kk + 1) : Nat) : Int) by rw [HSD.out, ej, List.take_length]; omega)
            rw [HT.out]
            clear hbx ej
            go_wp2
            go_roundw
            case rel => exact ⟨kk + 1, by omega, by go_num, rfl, HB4.out.trans (HBX.out.mono (by have := HB4.out.size; omega))⟩
            case measure => simp [intOf]; omega
      · have ek : kk = N := by omega
        have HA2 := Lib.hid (show ((sidesN g.n (g.len 0) g.flat lv kk : Nat) : Int) = g.sdV lv by rw [HA.out, ek, EN.out])
        have hge' : ¬ (kk : Int) < N := by omega
        clear ek
        rw [HA2.out]
        go_wp2_with fail
        refine (l2Cells_any _ lo hi g _ HVR.out HH.out).mono ?_
        rintro e w2 ⟨rfl, rfl⟩
        rw [EN.out]
        go_wp2
        go_ret
        exact ⟨rfl, HB1.out⟩

end Go.Proofs.Ytmhcpjekpkdaeaa
