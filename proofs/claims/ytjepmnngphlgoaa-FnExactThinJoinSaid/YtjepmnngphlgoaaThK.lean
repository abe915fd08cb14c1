/- Two thinned lines joined, in the model. -/
import Derived.Test.YtjepmnngphlgoaaThE
namespace Go.Proofs.Ytjepmnngphlgoaa
open Go.RowKit
set_option linter.unusedVariables false

theorem jn_first (Y Y2 : Nat → Int) (n m : Nat) : fnL (jnF n m Y Y2) m = fnL Y m := by
  apply List.ext_getElem?
  intro i
  by_cases h : i < m
  · rw [fnL_at _ _ i h, fnL_at _ _ i h]
    unfold jnF
    rw [if_pos h]
  · rw [List.getElem?_eq_none (by rw [fnL_len]; omega), List.getElem?_eq_none (by rw [fnL_len]; omega)]

set_option maxHeartbeats 4000000 in
set_option maxRecDepth 20000 in
theorem specThinJoin_any (v u v2 u2 : Value) (lo hi lo2 hi2 lo3 hi3 lo4 hi4 n m n2 m2 : Nat) (Z Y Z2 Y2 : Nat → Int) (w : World) (hv : RdI lo hi w v n Z) (hu : RdI lo2 hi2 w u m Y) (hv2 : RdI lo3 hi3 w v2 n2 Z2) (hu2 : RdI lo4 hi4 w u2 m2 Y2)
    (hh1 : hi ≤ w.heap.size) (hh2 : hi2 ≤ w.heap.size) (hh3 : hi3 ≤ w.heap.size) (hh4 : hi4 ≤ w.heap.size) (hn : n ≤ 1048576) (hm : m ≤ 1048576) (hn2 : n2 ≤ 1048576) (hm2 : m2 ≤ 1048576) :
    Calls Try.prog 38 #[v, u, v2, u2] w (NbPost (jnB n Z m Y n2 Z2 m2 Y2) (jnV n Z m Y n2 Z2 m2 Y2) w) := by
  have HV1 := Lib.hid (fun (q : Nat) => (specThinValid_any v u lo hi lo2 hi2 n m Z Y (w.drewN q) (hv.same (fun _ _ _ => rfl)) (hu.same (fun _ _ _ => rfl)) hn hm).mono (fun _ _ (h : SmPost _ _ _ _) => (⟨h.1, h.2.symm⟩ : _ = Ending.returned (.bool (thB n Z m Y)) ∧ _ = w.drewN q)))
  have HV2 := Lib.hid (fun (q : Nat) => (specThinValid_any v2 u2 lo3 hi3 lo4 hi4 n2 m2 Z2 Y2 (w.drewN q) (hv2.same (fun _ _ _ => rfl)) (hu2.same (fun _ _ _ => rfl)) hn2 hm2).mono (fun _ _ (h : SmPost _ _ _ _) => (⟨h.1, h.2.symm⟩ : _ = Ending.returned (.bool (thB n2 Z2 m2 Y2)) ∧ _ = w.drewN q)))
  have HL0 := Lib.hid (fun (q : Nat) => nums_lit (w.drewN q))
  have HB0 := Lib.hid (fun (q : Nat) => (below_drewN (Below.refl w.heap.size w) q).alloc (Nat.le_refl _) (.cells #[] 3))
  by_cases h : ThOk n Z m Y
  · rw [thB_yes h] at HV1
    by_cases h2 : ThOk n2 Z2 m2 Y2
    · rw [thB_yes h2] at HV2
      have hn20 := h.1.1.2
      have hn1 := h.1.1.1
      have hn220 := h2.1.1.2
      have hn21 := h2.1.1.1
      have hmn := h.len
      have hm1 := h.2.1
      have hmn2 := h2.len
      have hm21 := h2.2.1
      obtain ⟨b1, off1, cap1, rfl, hcap1, _, hbh1, hc1⟩ := hv.open (by omega)
      obtain ⟨b2, off2, cap2, rfl, hcap2, _, hbh2, hc2⟩ := hv2.open (by omega)
      have c1 := hc1 (n - 1) (by omega)
      have c2 : w.cell? ⟨b2, off2, none⟩ = some (.int .i64 (Z2 0)) := hc2 0 (by omega)
      obtain ⟨s, es⟩ : ∃ s, s = n - 1 := ⟨_, rfl⟩
      have hws : IntKind.i64.wrap ((n : Int) - 1) = (s : Int) := by rw [es, show ((n - 1 : Nat) : Int) = (n : Int) - 1 by omega]; exact IntWalk.i64_in _ (by omega)
      have hsn : (s : Int) < n := by omega
      have hsn' : s < n := by omega
      have hn20' : (0 : Int) < n2 := by omega
      rw [← es] at c1
      obtain ⟨za, eza⟩ : ∃ za, Z s = za := ⟨_, rfl⟩
      obtain ⟨zb, ezb⟩ : ∃ zb, Z2 0 = zb := ⟨_, rfl⟩
      rw [eza] at c1
      rw [ezb] at c2
      have hwn : IntKind.i64.wrap ((n : Int) + n2) = (n : Int) + n2 := IntWalk.i64_in _ (by omega)
      have hwn2 : IntKind.i64.wrap ((n : Int) + n2 - 1) = (n : Int) + n2 - 1 := IntWalk.i64_in _ (by omega)
      by_cases hs : n + n2 ≤ 21
      · have hs' : ¬ (20 : Int) < (n : Int) + n2 - 1 := by omega
        have hsd : decide ((20 : Int) < (n : Int) + n2 - 1) = false := by simp; omega
        by_cases hz : za = zb
        · have hj : JnOk n Z m Y n2 Z2 m2 Y2 := ⟨h, h2, hs, by rw [← es, eza, ezb]; exact hz⟩
          rw [jnB_yes hj, jnV_yes hj]
          have hb0 : (za != zb) = false := by simp [hz]
          obtain ⟨i0, hi0, hz0, hz1, hz2⟩ := info_parts Try.infoI
          obtain ⟨b3, off3, cap3, rfl, hcap3, _, hbh3, hc3⟩ := hu.open (by omega)
          obtain ⟨b4, off4, cap4, rfl, hcap4, _, hbh4, hc4⟩ := hu2.open (by omega)
          have HC3 := Lib.hid (fun (W : World) (hb : Below w.heap.size w W) (x : Nat) (hx : x < m) => (hb.cell (p := ⟨b3, off3 + x, none⟩) (by show b3 < _; omega)).trans (hc3 x hx))
          have HC4 := Lib.hid (fun (W : World) (hb : Below w.heap.size w W) (x : Nat) (hx : x < m2) => (hb.cell (p := ⟨b4, off4 + x, none⟩) (by show b4 < _; omega)).trans (hc4 x hx))
          have hYr := Lib.hid (fun i (hi : i < m2) => (show 0 ≤ Y2 i ∧ Y2 i ≤ 100 from by have := h2.range i hi; omega))
          have HFI := Lib.hid (jn_first Y Y2 n m)
          clear hv hu hv2 hu2 h h2 hj hc1 hc2 hc3 hc4 es eza ezb hz
          go_enter Try.func38, Try.ntmps38
          go_wp2_with fail
          go_quiet (first | (go_at_call 14; with_reducible exact Calls.quiet_of_same (HV1.out _)) | (go_at_call 14; with_reducible exact Calls.quiet_of_same (HV2.out _)))
          have HLX := Lib.hid (HL0.out nq)
          have HBX := Lib.hid (HB0.out nq)
          go_wp2_with (first | (at_builtin; refine wpList_append_own _ rfl _ _ 22 rfl w.heap.size 3 i0 (.int .i64 0) 1 8 Try.underlying22 hi0 hz0 hz1 hz2 rfl (by decide) _ 0 [] rfl HLX.out ⟨b3, off3, none⟩ m cap3 (nsV (fnL Y m)) rfl (fz_len _ _) (fz_news (fun j hj => HC3.out _ HBX.out j hj)) (fz_one _ _) (by unfold maxLen; omega) (by omega) HBX.out.size ?_; intro v' w4 hown4 hg4 _; have HB4 := Lib.hid (HBX.out.grown hg4 HBX.out.size (fun k hk => (HLX.out.lt k hk).1)); have HL4 := Lib.hid (show Nums w.heap.size w4 v' (fnL (jnF n m Y Y2) (m + 0)) from by rw [Nat.add_zero, HFI.out]; have h9 := hown4; rw [Nat.zero_add] at h9; unfold Nums; rw [fnL_len]; simpa using h9); clear hown4 hg4))
          go_loopw [10, 11] (fun o c wr => ∃ (k : Nat) (x : Value), k + 1 ≤ m2 ∧ c = .int .i64 ((k + 1 : Nat) : Int) ∧ x = o ∧ Nums w.heap.size wr x (fnL (jnF n m Y Y2) (m + k)) ∧ Below w.heap.size w wr) (fun _ c _ => m2 - (intOf c).toNat)
          case atStart => exact ⟨0, _, by omega, by go_num, rfl, HL4.out, HB4.out⟩
          case round =>
            obtain ⟨k, x, hk, rfl, rfl, hli, hb⟩ := hrel
            have HLI := Lib.hid hli
            have HB5 := Lib.hid hb
            have hs5 := hb.size
            clear hli hb
            by_cases hlt : k + 1 < m2
            · have hlt' : (k : Int) + 1 < m2 := by omega
              have h0t1 : 0 ≤ (k : Int) + 1 := by omega
              have htn : ((k : Int) + 1).toNat = k + 1 := by omega
              have c4 := HC4.out _ HB5.out (k + 1) hlt
              obtain ⟨hy1, hy2⟩ := hYr.out (k + 1) hlt
              have HS := Lib.hid (show fnL (jnF n m Y Y2) (m + (k + 1)) = fnL (jnF n m Y Y2) (m + k) ++ [Y2 (k + 1) + (n : Int) - 1] by
                show fnL (jnF n m Y Y2) (m + k) ++ [jnF n m Y Y2 (m + k)] = _
                congr 2
                unfold jnF
                rw [if_neg (by omega), show m + k - m + 1 = k + 1 by omega]
                omega)
              have hln := Nat.le_of_eq (fnL_len (jnF n m Y Y2) (m + k))
              obtain ⟨L, eL⟩ : ∃ L, fnL (jnF n m Y Y2) (m + k) = L := ⟨_, rfl⟩
              obtain ⟨y, ey⟩ : ∃ y, Y2 (k + 1) = y := ⟨_, rfl⟩
              rw [eL] at HLI HS hln
              rw [ey] at c4 hy1 hy2 HS
              have hw1 : IntKind.i64.wrap (y + (n : Int)) = y + (n : Int) := IntWalk.i64_in _ (by omega)
              have hw2 : IntKind.i64.wrap (y + (n : Int) - 1) = y + (n : Int) - 1 := IntWalk.i64_in _ (by omega)
              clear eL ey
              go_wp2_with (first | (at_builtin; refine wpList_append_own _ rfl _ _ 22 rfl w.heap.size 3 i0 (.int .i64 0) 1 8 Try.underlying22 hi0 hz0 hz1 hz2 rfl (by decide) _ L.length (nsV L) rfl (HLI.out.alloc _) ⟨wr.heap.size, 0, none⟩ 1 1 [.int .i64 (y + (n : Int) - 1)] rfl rfl (World.news_of_block (cs := #[.int .i64 (y + (n : Int) - 1)]) (t := 3) (fr := (0, 0)) (heap_alloc_new wr _)) (by simp [Value.oneCell']) (by unfold maxLen; omega) (by omega) (by simp; omega) ?_; intro v'' w5 hown5 hg5 _))
              have HB6 := Lib.hid ((HB5.out.alloc HB5.out.size (.cells #[.int .i64 (y + (n : Int) - 1)] 3)).grown hg5 (by simp; have := HB5.out.size; omega) (fun k hk => (HLI.out.lt k hk).1))
              have HL6 := Lib.hid (nums_push (L := L) (x := y + (n : Int) - 1) hown5)
              clear hown5 hg5
              go_wp2
              go_roundw
              case rel => exact ⟨k + 1, _, by omega, by go_num, rfl, by rw [HS.out]; exact HL6.out, HB6.out⟩
              case measure => simp [intOf]; omega
            · have hlt' : ¬ (k : Int) + 1 < m2 := by omega
              have HFN := Lib.hid (show fnL (jnF n m Y Y2) (m + k) = fnL (jnF n m Y Y2) (m + m2 - 1) by rw [show m + m2 - 1 = m + k by omega])
              go_wp2
              go_ret2
              exact NbPost.mk' rfl HFN.out.symm HLI.out HB5.out
        · have hj : ¬ JnOk n Z m Y n2 Z2 m2 Y2 := fun g => hz (by have := g.2.2.2; rw [← es, eza, ezb] at this; exact this)
          rw [jnB_no hj, jnV_no hj]
          have hb0 : (za != zb) = true := by rw [bne_iff_ne]; exact hz
          obtain ⟨ua, uc, rfl⟩ := hu.shape
          obtain ⟨ub, ud, rfl⟩ := hu2.shape
          clear hv hu hv2 hu2 h h2 hj hc1 hc2 es eza ezb hz
          go_enter Try.func38, Try.ntmps38
          go_wp2_with fail
          go_quiet (first | (go_at_call 14; with_reducible exact Calls.quiet_of_same (HV1.out _)) | (go_at_call 14; with_reducible exact Calls.quiet_of_same (HV2.out _)))
          have HLX := Lib.hid (HL0.out nq)
          have HBX := Lib.hid (HB0.out nq)
          go_wp2
          go_ret2
          exact NbPost.mk' rfl rfl HLX.out HBX.out
      · have hj : ¬ JnOk n Z m Y n2 Z2 m2 Y2 := fun g => hs g.2.2.1
        rw [jnB_no hj, jnV_no hj]
        have hs' : (20 : Int) < (n : Int) + n2 - 1 := by omega
        have hsd : decide ((20 : Int) < (n : Int) + n2 - 1) = true := by simp; omega
        obtain ⟨ua, uc, rfl⟩ := hu.shape
        obtain ⟨ub, ud, rfl⟩ := hu2.shape
        clear hv hu hv2 hu2 h h2 hj hc1 hc2 es eza ezb
        go_enter Try.func38, Try.ntmps38
        go_wp2_with fail
        go_quiet (first | (go_at_call 14; with_reducible exact Calls.quiet_of_same (HV1.out _)) | (go_at_call 14; with_reducible exact Calls.quiet_of_same (HV2.out _)))
        have HLX := Lib.hid (HL0.out nq)
        have HBX := Lib.hid (HB0.out nq)
        go_wp2
        go_ret2
        exact NbPost.mk' rfl rfl HLX.out HBX.out
    · rw [thB_no h2] at HV2
      have hj : ¬ JnOk n Z m Y n2 Z2 m2 Y2 := fun g => h2 g.2.1
      rw [jnB_no hj, jnV_no hj]
      obtain ⟨va, vc, rfl⟩ := hv.shape
      obtain ⟨vb, vd, rfl⟩ := hv2.shape
      obtain ⟨ua, uc, rfl⟩ := hu.shape
      obtain ⟨ub, ud, rfl⟩ := hu2.shape
      clear hv hu hv2 hu2 h h2 hj
      go_enter Try.func38, Try.ntmps38
      go_wp2_with fail
      go_quiet (first | (go_at_call 14; with_reducible exact Calls.quiet_of_same (HV1.out _)) | (go_at_call 14; with_reducible exact Calls.quiet_of_same (HV2.out _)))
      have HLX := Lib.hid (HL0.out nq)
      have HBX := Lib.hid (HB0.out nq)
      go_wp2
      go_ret2
      exact NbPost.mk' rfl rfl HLX.out HBX.out
  · rw [thB_no h] at HV1
    have hj : ¬ JnOk n Z m Y n2 Z2 m2 Y2 := fun g => h g.1
    rw [jnB_no hj, jnV_no hj]
    obtain ⟨va, vc, rfl⟩ := hv.shape
    obtain ⟨vb, vd, rfl⟩ := hv2.shape
    obtain ⟨ua, uc, rfl⟩ := hu.shape
    obtain ⟨ub, ud, rfl⟩ := hu2.shape
    clear hv hu hv2 hu2 h hj
    go_enter Try.func38, Try.ntmps38
    go_wp2_with fail
    go_quiet ((go_at_call 14; with_reducible exact Calls.quiet_of_same (HV1.out _)))
    have HLX := Lib.hid (HL0.out nq)
    have HBX := Lib.hid (HB0.out nq)
    go_wp2
    go_ret2
    exact NbPost.mk' rfl rfl HLX.out HBX.out

end Go.Proofs.Ytjepmnngphlgoaa
