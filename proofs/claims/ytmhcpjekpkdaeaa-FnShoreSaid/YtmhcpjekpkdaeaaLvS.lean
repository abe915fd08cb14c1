/- Land, shore, sides, corners and their sum in the model, by contract. -/
import Derived.Test.YtmhcpjekpkdaeaaWSpec
import Derived.Test.YtmhcpjekpkdaeaaLongS
import Derived.Test.YtmhcpjekpkdaeaaLvM
import Derived.Test.YtmhcpjekpkdaeaaRange
import Derived.Lib.MinMax
namespace Go.Proofs.Ytmhcpjekpkdaeaa
open Go.RowKit
set_option linter.unusedVariables false

noncomputable def G.lvB (g : G) (lv : Int) : Bool := @decide (g.LvOk lv) (Classical.propDecidable _)
theorem G.lvB_yes {g : G} {lv : Int} (h : g.LvOk lv) : g.lvB lv = true := by simp [G.lvB, h]
theorem G.lvB_no {g : G} {lv : Int} (h : ¬ g.LvOk lv) : g.lvB lv = false := by simp [G.lvB, h]

set_option maxHeartbeats 1000000 in
set_option maxRecDepth 20000 in
theorem l3Ok_any (v : Value) (lo hi : Nat) (g : G) (lv : Int) (w : World) (hv : RdM lo hi w v g) :
    Calls Try.prog 45 #[v, .int .i64 lv] w (EqPost (g.lvB lv) w) := by
  have HV := Lib.hid (specValid_any v lo hi g w hv)
  by_cases h : g.Valid
  case neg =>
    have HB := Lib.hid (G.vB_no h)
    have HC := Lib.hid (G.lvB_no (g := g) (lv := lv) (fun hc => h hc.1))
    clear hv h
    go_enter Try.func45, Try.ntmps45
    go_wp2_with fail
    refine HV.out.mono ?_
    rintro e w1 ⟨rfl, n1, rfl⟩
    rw [HB.out]
    go_wp2
    go_ret
    exact eq_post HC.out _ _
  case pos =>
    have HB := Lib.hid (G.vB_yes h)
    by_cases hl : 0 ≤ lv ∧ lv ≤ 99
    case neg =>
      have HC := Lib.hid (G.lvB_no (g := g) (lv := lv) (fun hc => hl hc.2))
      have HL := Lib.hid hl
      clear hv h hl
      go_enter Try.func45, Try.ntmps45
      go_wp2_with fail
      refine HV.out.mono ?_
      rintro e w1 ⟨rfl, n1, rfl⟩
      rw [HB.out]
      go_wp2_with fail
      refine (l6In_no _ _ _ _ (by have := HL.out; omega)).mono ?_
      rintro e w' ⟨rfl, rfl⟩
      go_wp2
      go_ret
      exact eq_post HC.out _ _
    case pos =>
      have HC := Lib.hid (G.lvB_yes (g := g) (lv := lv) ⟨h, hl⟩)
      obtain ⟨hl1, hl2⟩ := hl
      clear hv h
      go_enter Try.func45, Try.ntmps45
      go_wp2_with fail
      refine HV.out.mono ?_
      rintro e w1 ⟨rfl, n1, rfl⟩
      rw [HB.out]
      go_wp2_with fail
      refine (l6In_yes _ _ _ _ hl1 hl2).mono ?_
      rintro e w' ⟨rfl, rfl⟩
      go_wp2
      go_ret
      exact eq_post HC.out _ _

set_option maxHeartbeats 2000000 in
set_option maxRecDepth 100000 in
theorem specLevelLand_any (v : Value) (lo hi : Nat) (g : G) (lv : Int) (w : World) (hv : RdM lo hi w v g) (hh : hi ≤ w.heap.size) :
    Calls Try.prog 15 #[v, .int .i64 lv] w (IntPost (g.ldV lv) w) := by
  have HC := Lib.hid (l3Ok_any v lo hi g lv w hv)
  by_cases h : g.LvOk lv
  case neg =>
    have HB := Lib.hid (G.lvB_no h)
    have HA := Lib.hid (G.ldV_no h)
    clear hv h
    go_enter Try.func15, Try.ntmps15
    go_wp2_with fail
    refine HC.out.mono ?_
    rintro e w1 ⟨rfl, n1, rfl⟩
    rw [HB.out]
    go_wp2
    go_ret
    exact ⟨ret_int HA.out.symm, below_drewN (Below.refl _ _) _⟩
  case pos =>
    have HB := Lib.hid (G.lvB_yes h)
    have HA := Lib.hid (G.ldV_yes h)
    have HV := Lib.hid hv
    have HH := Lib.hid h.1
    have h49 := mul_le_49 h.1.1.2 h.1.2.1.2
    obtain ⟨b0, off0, cap0, rfl⟩ := hv.shapeW h.1.1.1
    obtain ⟨N, eN⟩ : ∃ N, g.n * g.len 0 = N := ⟨_, rfl⟩
    have EN := Lib.hid eN
    rw [eN] at h49
    clear hv h eN
    go_enter Try.func15, Try.ntmps15
    go_wp2_with fail
    refine HC.out.mono ?_
    rintro e w1 ⟨rfl, n1, rfl⟩
    rw [HB.out]
    go_wp2
    go_loopw [5, 6] (fun o k wr => ∃ kk : Nat, kk ≤ N ∧ k = .int .i64 kk ∧ o = .int .i64 (landN g.flat lv kk) ∧ Below w.heap.size w wr) (fun _ k _ => N - (intOf k).toNat)
    case atStart => exact ⟨0, Nat.zero_le _, rfl, rfl, below_drewN (Below.refl _ _) _⟩
    case round =>
      obtain ⟨kk, hk, rfl, rfl, hb⟩ := hrel
      have HVR := Lib.hid (HV.out.same (SameIn.below hb hh))
      have HB1 := Lib.hid hb
      have hle := landN_le g.flat lv kk
      clear hb
      by_cases hlt : kk < N
      · have hlt' : (kk : Int) < N := by omega
        have HG := Lib.hid (l2Height_any _ lo hi g kk wr HVR.out HH.out (by rw [EN.out]; exact hlt))
        obtain ⟨z, ez⟩ : ∃ z, g.flat kk = z := ⟨_, rfl⟩
        rw [ez] at HG
        have HY := Lib.hid (fun (hz : lv ≤ z) => landN_yes (Z := g.flat) (lv := lv) (k := kk) (by rw [ez]; exact hz))
        have HNO := Lib.hid (fun (hz : z < lv) => landN_no (Z := g.flat) (lv := lv) (k := kk) (by rw [ez]; omega))
        generalize landN g.flat lv kk = m at hle HY HNO ⊢
        clear ez
        go_wp2_with fail
        refine (l2Cells_any _ lo hi g _ HVR.out HH.out).mono ?_
        rintro e w2 ⟨rfl, rfl⟩
        rw [EN.out]
        go_wp2_with fail
        refine HG.out.mono ?_
        rintro e w3 ⟨rfl, n3, rfl⟩
        by_cases hz : lv ≤ z
        · have HY' := Lib.hid (HY.out hz)
          clear HNO
          go_wp2
          go_roundw
          case rel => exact ⟨kk + 1, by omega, by go_num, by rw [HY'.out]; go_num, below_drewN HB1.out _⟩
          case measure => simp [intOf]; omega
        · have HN' := Lib.hid (HNO.out (by omega))
          clear HNO
          go_wp2
          go_roundw
          case rel => exact ⟨kk + 1, by omega, by go_num, by rw [HN'.out], below_drewN HB1.out _⟩
          case measure => simp [intOf]; omega
      · have ek : kk = N := by omega
        have HA2 := Lib.hid (show ((landN g.flat lv kk : Nat) : Int) = g.ldV lv by rw [HA.out, ek, EN.out])
        have hge' : ¬ (kk : Int) < N := by omega
        clear ek
        rw [HA2.out]
        go_wp2_with fail
        refine (l2Cells_any _ lo hi g _ HVR.out HH.out).mono ?_
        rintro e w2 ⟨rfl, rfl⟩
        rw [EN.out]
        go_wp2
        go_ret
        exact ⟨rfl, HB1.out⟩

set_option maxHeartbeats 4000000 in
set_option maxRecDepth 100000 in
theorem specLevelShore_any (v : Value) (lo hi : Nat) (g : G) (lv : Int) (w : World) (hv : RdM lo hi w v g) (hh : hi ≤ w.heap.size) :
    Calls Try.prog 31 #[v, .int .i64 lv] w (IntPost (g.shV lv) w) := by
  have HC := Lib.hid (l3Ok_any v lo hi g lv w hv)
  by_cases h : g.LvOk lv
  case neg =>
    have HB := Lib.hid (G.lvB_no h)
    have HA := Lib.hid (G.shV_no h)
    clear hv h
    go_enter Try.func31, Try.ntmps31
    go_wp2_with fail
    refine HC.out.mono ?_
    rintro e w1 ⟨rfl, n1, rfl⟩
    rw [HB.out]
    go_wp2
    go_ret
    exact ⟨ret_int HA.out.symm, below_drewN (Below.refl _ _) _⟩
  case pos =>
    have HB := Lib.hid (G.lvB_yes h)
    have HA := Lib.hid (G.shV_yes h)
    have HV := Lib.hid hv
    have HH := Lib.hid h.1
    have h49 := mul_le_49 h.1.1.2 h.1.2.1.2
    obtain ⟨b0, off0, cap0, rfl⟩ := hv.shapeW h.1.1.1
    obtain ⟨N, eN⟩ : ∃ N, g.n * g.len 0 = N := ⟨_, rfl⟩
    have EN := Lib.hid eN
    rw [eN] at h49
    clear hv h eN
    go_enter Try.func31, Try.ntmps31
    go_wp2_with fail
    refine HC.out.mono ?_
    rintro e w1 ⟨rfl, n1, rfl⟩
    rw [HB.out]
    go_wp2
    go_loopw [5, 6] (fun o k wr => ∃ kk : Nat, kk ≤ N ∧ k = .int .i64 kk ∧ o = .int .i64 (shoreN g.n (g.len 0) g.flat lv kk) ∧ Below w.heap.size w wr) (fun _ k _ => N - (intOf k).toNat)
    case atStart => exact ⟨0, Nat.zero_le _, rfl, rfl, below_drewN (Below.refl _ _) _⟩
    case round =>
      obtain ⟨kk, hk, rfl, rfl, hb⟩ := hrel
      have HVR := Lib.hid (HV.out.same (SameIn.below hb hh))
      have HB1 := Lib.hid hb
      have hle := shoreN_le g.n (g.len 0) g.flat lv kk
      have hsz := hb.size
      clear hb
      by_cases hlt : kk < N
      · have hlt' : (kk : Int) < N := by omega
        have HG := Lib.hid (l2Height_any _ lo hi g kk wr HVR.out HH.out (by rw [EN.out]; exact hlt))
        obtain ⟨i, hi'⟩ : ∃ i : Ix (g.n * g.len 0), i.1 = kk := ⟨⟨kk, by rw [EN.out]; exact hlt⟩, rfl⟩
        obtain ⟨z, ez⟩ : ∃ z, g.flat kk = z := ⟨_, rfl⟩
        rw [ez] at HG
        have HY := Lib.hid (fun (hz : lv ≤ z) => shoreN_yes (R := g.n) (C := g.len 0) (Z := g.flat) (lv := lv) (k := kk) (by rw [ez]; exact hz))
        have HNO := Lib.hid (fun (hz : z < lv) => shoreN_no (R := g.n) (C := g.len 0) (Z := g.flat) (lv := lv) (k := kk) (by rw [ez]; omega))
        have HNB := Lib.hid (nbl_at (lv := lv) (Z := g.flat) i)
        rw [hi'] at HNB
        obtain ⟨m, em⟩ : ∃ m, shoreN g.n (g.len 0) g.flat lv kk = m := ⟨_, rfl⟩
        rw [em] at hle HY HNO ⊢
        clear ez em
        go_wp2_with fail
        refine (l2Cells_any _ lo hi g _ HVR.out HH.out).mono ?_
        rintro e w2 ⟨rfl, rfl⟩
        rw [EN.out]
        go_wp2_with fail
        refine HG.out.mono ?_
        rintro e w3 ⟨rfl, n3, rfl⟩
        by_cases hz : lv ≤ z
        · have HY' := Lib.hid (HY.out hz)
          have HNR := Lib.hid (l2Near_any _ lo hi g g.n (g.len 0) rfl rfl i (wr.drewN n3) (HVR.out.same (fun _ _ _ => rfl)) (Nat.le_trans hh hsz) HH.out)
          rw [hi'] at HNR
          have hnl := near_len g.n (g.len 0) i 4
          have hz' : ¬ z < lv := by omega
          clear HNO HY hi'
          go_wp2_with fail
          refine HNR.out.mono ?_
          rintro e w4 ⟨v4, rfl, ⟨a4, c4, rfl⟩, hrd, hb4⟩
          have HB4 := Lib.hid (HB1.out.trans ((below_drewN (Below.refl _ _) n3).trans (hb4.mono (by simpa using hsz))))
          have HRD := Lib.hid hrd
          obtain ⟨ao, cap, b, off, e1, h2, h3, h4, h5, h6⟩ := hrd
          simp only [Value.slice.injEq] at e1
          obtain ⟨rfl, _, rfl⟩ := e1
          obtain ⟨L, eL⟩ : ∃ L, near g.n (g.len 0) i 4 = L := ⟨_, rfl⟩
          rw [eL] at HNB h2 h4 h5 h6 HRD hnl ⊢
          have hs4 := hb4.size
          have H5 := Lib.hid h5
          have H6 := Lib.hid h6
          clear hb4 h4 h5 h6 eL
          go_wp2
          go_loopw [5, 8] (fun o j wx => ∃ jj : Nat, jj ≤ L.length ∧ j = .int .i64 jj ∧ o = .int .i64 ((m : Int) + 4 - landL g.flat lv (L.take jj)) ∧ Below w4.heap.size w4 wx) (fun _ j _ => L.length - (intOf j).toNat)
          case atStart => exact ⟨0, Nat.zero_le _, rfl, by simp [landL], Below.refl _ _⟩
          case round =>
            obtain ⟨jj, hj, rfl, rfl, hbx⟩ := hrel
            have hll := landL_le g.flat lv (L.take jj)
            have hlt4 : (L.take jj).length ≤ 4 := by rw [List.length_take]; omega
            have HBX := Lib.hid hbx
            by_cases hjl : jj < L.length
            · have hjl' : (jj : Int) < L.length := by omega
              obtain ⟨rfl, _, hblt⟩ := H5.out (by omega)
              have c1 := (hbx.cell (p := ⟨b, off + jj, none⟩) hblt).trans (H6.out jj hjl)
              rw [ixZ_at _ hjl] at c1
              have HT := Lib.hid (show landL g.flat lv (L.take (jj + 1)) = landL g.flat lv (L.take jj) + (if lv ≤ g.flat L[jj].1 then 1 else 0) by
                rw [List.take_succ_eq_append_getElem hjl, landL_snoc])
              have hxl := L[jj].2
              obtain ⟨x, ex⟩ : ∃ x, L[jj].1 = x := ⟨_, rfl⟩
              rw [ex] at c1 HT hxl
              have HG2 := Lib.hid (l2Height_any _ lo hi g x wr ((HV.out.same (SameIn.below HB4.out hh)).same (SameIn.below hbx (Nat.le_trans hh (by have := HB4.out.size; omega)))) HH.out hxl)
              obtain ⟨z2, ez2⟩ : ∃ z, g.flat x = z := ⟨_, rfl⟩
              rw [ez2] at HG2 HT
              generalize landL g.flat lv (L.take jj) = q at hll HT ⊢
              clear hbx ex hxl ez2
              go_wp2_with fail
              refine HG2.out.mono ?_
              rintro e w5 ⟨rfl, n5, rfl⟩
              by_cases hz2 : lv ≤ z2
              · have HT' := Lib.hid (show landL g.flat lv (L.take (jj + 1)) = q + 1 by rw [HT.out, if_pos hz2])
                go_wp2
                go_roundw
                case rel => exact ⟨jj + 1, by omega, by go_num, by rw [HT'.out]; go_num, below_drewN HBX.out _⟩
                case measure => simp [intOf]; omega
              · have HT' := Lib.hid (show landL g.flat lv (L.take (jj + 1)) = q by rw [HT.out, if_neg hz2]; rfl)
                go_wp2
                go_roundw
                case rel => exact ⟨jj + 1, by omega, by go_num, by rw [HT'.out], below_drewN HBX.out _⟩
                case measure => simp [intOf]; omega
            · have ej : jj = L.length := by omega
              have HT := Lib.hid (show (m : Int) + 4 - landL g.flat lv (L.take jj) = ((shoreN g.n (g.len 0) g.flat lv (kk + 1) : Nat) : Int) by rw [HY'.out, HNB.out, ej, List.take_length])
              rw [HT.out]
              clear hbx ej
              go_wp2
              go_roundw
              case rel => exact ⟨kk + 1, by omega, by go_num, rfl, HB4.out.trans (HBX.out.mono (by have := HB4.out.size; omega))⟩
              case measure => simp [intOf]; omega
        · have HN' := Lib.hid (HNO.out (by omega))
          have hz' : z < lv := by omega
          clear HNO
          go_wp2
          go_roundw
          case rel => exact ⟨kk + 1, by omega, by go_num, by rw [HN'.out], below_drewN HB1.out _⟩
          case measure => simp [intOf]; omega
      · have ek : kk = N := by omega
        have HA2 := Lib.hid (show ((shoreN g.n (g.len 0) g.flat lv kk : Nat) : Int) = g.shV lv by rw [HA.out, ek, EN.out])
        have hge' : ¬ (kk : Int) < N := by omega
        clear ek
        rw [HA2.out]
        go_wp2_with fail
        refine (l2Cells_any _ lo hi g _ HVR.out HH.out).mono ?_
        rintro e w2 ⟨rfl, rfl⟩
        rw [EN.out]
        go_wp2
        go_ret
        exact ⟨rfl, HB1.out⟩

end Go.Proofs.Ytmhcpjekpkdaeaa
