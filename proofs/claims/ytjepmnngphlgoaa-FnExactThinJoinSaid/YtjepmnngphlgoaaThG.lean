/- Two thinned lines joined: the program's function and the model's. -/
import Derived.Test.YtjepmnngphlgoaaThF
import Derived.Test.YtjepmnngphlgoaaThE
namespace Go.Proofs.Ytjepmnngphlgoaa
open Go.RowKit
set_option linter.unusedVariables false

theorem fnL_split (f : Nat → Int) (m : Nat) (hm : 1 ≤ m) : fnL f m = fnL f (m - 1) ++ [f (m - 1)] := by
  obtain ⟨t, rfl⟩ : ∃ t, m = t + 1 := ⟨m - 1, by omega⟩
  rfl
theorem fnL_cons (f : Nat → Int) (m : Nat) (hm : 1 ≤ m) : fnL f m = f 0 :: fnL (fun i => f (i + 1)) (m - 1) := by
  apply List.ext_getElem?
  intro i
  cases i with
  | zero => rw [fnL_at _ _ 0 (by omega)]; rfl
  | succ i =>
    rw [List.getElem?_cons_succ]
    by_cases h : i < m - 1
    · rw [fnL_at _ _ i h, fnL_at _ _ (i + 1) (by omega)]
    · rw [List.getElem?_eq_none (by rw [fnL_len]; omega), List.getElem?_eq_none (by rw [fnL_len]; omega)]
theorem jn_list (Y Y2 : Nat → Int) (n m m2 : Nat) (hm : 1 ≤ m) (hm2 : 1 ≤ m2) (hl : Y (m - 1) = (n : Int) - 1) :
    fnL Y (m - 1) ++ ((n : Int) - 1) :: (fnL (fun i => Y2 (i + 1)) (m2 - 1)).map (· + ((n : Int) - 1)) = fnL (jnF n m Y Y2) (m + m2 - 1) := by
  apply List.ext_getElem?
  intro i
  by_cases h : i < m - 1
  · rw [List.getElem?_append_left (by rw [fnL_len]; exact h), fnL_at _ _ i h, fnL_at _ _ i (by omega)]
    unfold jnF
    rw [if_pos (by omega)]
  · rw [List.getElem?_append_right (by rw [fnL_len]; omega), fnL_len]
    by_cases h1 : i = m - 1
    · subst h1
      rw [Nat.sub_self, fnL_at _ _ _ (by omega)]
      unfold jnF
      rw [if_pos (by omega), hl]; rfl
    · obtain ⟨j, rfl⟩ : ∃ j, i = m + j := ⟨i - m, by omega⟩
      rw [show m + j - (m - 1) = j + 1 by omega, List.getElem?_cons_succ, List.getElem?_map]
      by_cases h2 : j < m2 - 1
      · rw [fnL_at _ _ j h2, fnL_at _ _ _ (by omega)]
        unfold jnF
        rw [if_neg (by omega), show m + j - m + 1 = j + 1 by omega]; rfl
      · rw [List.getElem?_eq_none (by rw [fnL_len]; omega), List.getElem?_eq_none (by rw [fnL_len]; omega)]; rfl

set_option maxHeartbeats 4000000 in
set_option maxRecDepth 20000 in
theorem implThinJoin_any (v u v2 u2 : Value) (lo hi lo2 hi2 lo3 hi3 lo4 hi4 n m n2 m2 : Nat) (Z Y Z2 Y2 : Nat → Int) (w : World) (hv : RdI lo hi w v n Z) (hu : RdI lo2 hi2 w u m Y) (hv2 : RdI lo3 hi3 w v2 n2 Z2) (hu2 : RdI lo4 hi4 w u2 m2 Y2)
    (hh1 : hi ≤ w.heap.size) (hh2 : hi2 ≤ w.heap.size) (hh3 : hi3 ≤ w.heap.size) (hh4 : hi4 ≤ w.heap.size) (hm : m ≤ 1048576) (hm2 : m2 ≤ 1048576) :
    Calls Try.prog 39 #[v, u, v2, u2] w (NbPost (jnB n Z m Y n2 Z2 m2 Y2) (jnV n Z m Y n2 Z2 m2 Y2) w) := by
  by_cases h : ThOk n Z m Y
  · have HT := Lib.hid (thinningOf_yes v u lo hi lo2 hi2 n m Z Y w hv hu hh2 h)
    by_cases h2 : ThOk n2 Z2 m2 Y2
    · have HT2 := Lib.hid (fun (W : World) (hb : Below w.heap.size w W) => thinningOf_yes v2 u2 lo3 hi3 lo4 hi4 n2 m2 Z2 Y2 W (hv2.same (SameIn.below hb hh3)) (hu2.same (SameIn.below hb hh4)) (Nat.le_trans hh4 hb.size) h2)
      have hn20 := h.1.1.2
      have hn1 := h.1.1.1
      have hn220 := h2.1.1.2
      have hn21 := h2.1.1.1
      have hmn := h.len
      have hm1 := h.2.1
      have hmn2 := h2.len
      have hm21 := h2.2.1
      obtain ⟨b1, off1, cap1, rfl, hcap1, _, hbh1, hc1⟩ := hv.open (by omega)
      obtain ⟨b2, off2, cap2, rfl, hcap2, _, hbh2, hc2⟩ := hv2.open (by omega)
      have hbw1 : b1 < w.heap.size := by omega
      have hbw2 : b2 < w.heap.size := by omega
      have HC1 := Lib.hid (fun (W : World) (hb : Below w.heap.size w W) => (hb.cell (p := ⟨b1, off1 + (n - 1), none⟩) hbw1).trans (hc1 (n - 1) (by omega)))
      have HC2 := Lib.hid (fun (W : World) (hb : Below w.heap.size w W) => (hb.cell (p := ⟨b2, off2, none⟩) hbw2).trans (hc2 0 (by omega)))
      obtain ⟨s, es⟩ : ∃ s, s = n - 1 := ⟨_, rfl⟩
      have hws : IntKind.i64.wrap ((n : Int) - 1) = (s : Int) := by rw [es, show ((n - 1 : Nat) : Int) = (n : Int) - 1 by omega]; exact IntWalk.i64_in _ (by omega)
      have hsn : (s : Int) < n := by omega
      have hsn' : s < n := by omega
      have hn20' : (0 : Int) < n2 := by omega
      rw [← es] at HC1
      obtain ⟨za, eza⟩ : ∃ za, Z s = za := ⟨_, rfl⟩
      obtain ⟨zb, ezb⟩ : ∃ zb, Z2 0 = zb := ⟨_, rfl⟩
      rw [eza] at HC1
      rw [ezb] at HC2
      have hwn : IntKind.i64.wrap ((n : Int) + n2) = (n : Int) + n2 := IntWalk.i64_in _ (by omega)
      have hwn2 : IntKind.i64.wrap ((n : Int) + n2 - 1) = (n : Int) + n2 - 1 := IntWalk.i64_in _ (by omega)
      have hlast : Y (m - 1) = (n : Int) - 1 := h.2.2.2.1
      have hYr := Lib.hid (fun i (hi : i < m2 - 1) => (show 0 ≤ Y2 (i + 1) ∧ Y2 (i + 1) ≤ 100 from by have := h2.range (i + 1) (by omega); omega))
      by_cases hs : n + n2 ≤ 21
      · have hs' : ¬ (20 : Int) < (n : Int) + n2 - 1 := by omega
        have hsd : decide ((20 : Int) < (n : Int) + n2 - 1) = false := by simp; omega
        by_cases hz : za = zb
        · have hj : JnOk n Z m Y n2 Z2 m2 Y2 := ⟨h, h2, hs, by rw [← es, eza, ezb]; exact hz⟩
          rw [jnB_yes hj, jnV_yes hj]
          have hb0 : (za != zb) = false := by simp [hz]
          have HJL := Lib.hid (jn_list Y Y2 n m m2 hm1 hm21 hlast)
          have HSP := Lib.hid (show fnL Y m = fnL Y (m - 1) ++ [(n : Int) - 1] by rw [fnL_split Y m hm1, hlast])
          have HCO := Lib.hid (fnL_cons Y2 m2 hm21)
          have hl100 : (fnL (jnF n m Y Y2) (m + m2 - 1)).length ≤ 100 := by rw [fnL_len]; omega
          obtain ⟨ua, uc, rfl⟩ := hu.shape
          obtain ⟨ub, ud, rfl⟩ := hu2.shape
          clear hv hu hv2 hu2 h h2 hj hc1 hc2 es eza ezb hlast hz
          go_enter Try.func39, Try.ntmps39
          go_wp2_with fail
          refine HT.out.mono ?_
          rintro e w1 ⟨x, rfl, hk, hb⟩
          have HB1 := Lib.hid hb
          have HK1 := Lib.hid hk
          have HT3 := Lib.hid (HT2.out w1 hb)
          obtain ⟨xq, rfl⟩ := hk.ptr
          clear hk hb
          go_wp2_with fail
          refine HT3.out.mono ?_
          rintro e w2 ⟨x2, rfl, hk, hb⟩
          have HK1b := Lib.hid (HK1.out.below hb (Nat.le_refl _))
          have HB2 := Lib.hid (HB1.out.trans (hb.mono HB1.out.size))
          have HJ := Lib.hid (fun (q : Nat) => (by
            have k1 := Kn.keep (w' := w2.drewN q) _ HK1b.out (fun _ _ _ _ _ h => h)
            have k2 := Kn.keep (w' := w2.drewN q) _ hk (fun _ _ _ _ _ h => h)
            rw [HSP.out] at k1
            rw [HCO.out] at k2
            have h9 := join_any (.pointer xq) x2 (fnL Y (m - 1)) ((n : Int) - 1) (Y2 0) (fnL (fun i => Y2 (i + 1)) (m2 - 1)) w.heap.size w1.heap.size w2.heap.size (w2.drewN q) k1 k2 HB2.out.size HB1.out.size (by rw [fnL_len]; omega) (by rw [fnL_len]; omega) (by omega)
              (fun i hi => by rw [fnL_len] at hi; rw [fnL_z _ _ i hi]; exact hYr.out i hi)
            rw [HJL.out] at h9
            exact h9 : Calls Try.prog 59 #[.pointer xq, x2] (w2.drewN q) (JoPost (.pointer xq) (fnL (jnF n m Y Y2) (m + m2 - 1)) w.heap.size (w2.drewN q))))
          have c1 := HC1.out w2 HB2.out
          have c2 := HC2.out w2 HB2.out
          obtain ⟨xq2, rfl⟩ := hk.ptr
          clear hk hb
          go_wp2
          go_quiet (fail)
          have HB3 := Lib.hid (below_drewN HB2.out nq)
          go_wp2_with fail
          refine (HJ.out nq).mono ?_
          rintro e w3 ⟨⟨r, rfl⟩, hch, hb⟩
          have HPT := Lib.hid (points_any _ _ w3 hch hl100)
          have HB4 := Lib.hid (HB3.out.trans hb)
          clear hch hb
          go_wp2_with fail
          refine HPT.out.mono ?_
          rintro e w4 ⟨y, rfl, hnu, hb⟩
          have HNU := Lib.hid (hnu.down HB4.out.size)
          have HB5 := Lib.hid (HB4.out.trans (hb.mono HB4.out.size))
          obtain ⟨ya, yc, rfl⟩ := hnu.shape
          clear hnu hb
          go_wp2
          go_ret2
          exact NbPost.mk' rfl rfl HNU.out HB5.out
        · have hj : ¬ JnOk n Z m Y n2 Z2 m2 Y2 := fun g => hz (by have := g.2.2.2; rw [← es, eza, ezb] at this; exact this)
          rw [jnB_no hj, jnV_no hj]
          have hb0 : (za != zb) = true := by rw [bne_iff_ne]; exact hz
          obtain ⟨ua, uc, rfl⟩ := hu.shape
          obtain ⟨ub, ud, rfl⟩ := hu2.shape
          clear hv hu hv2 hu2 h h2 hj hc1 hc2 es eza ezb hlast hz
          go_enter Try.func39, Try.ntmps39
          go_wp2_with fail
          refine HT.out.mono ?_
          rintro e w1 ⟨x, rfl, hk, hb⟩
          have HB1 := Lib.hid hb
          have HT3 := Lib.hid (HT2.out w1 hb)
          obtain ⟨xq, rfl⟩ := hk.ptr
          clear hk hb
          go_wp2_with fail
          refine HT3.out.mono ?_
          rintro e w2 ⟨x2, rfl, hk, hb⟩
          have HB2 := Lib.hid (HB1.out.trans (hb.mono HB1.out.size))
          have c1 := HC1.out w2 HB2.out
          have c2 := HC2.out w2 HB2.out
          obtain ⟨xq2, rfl⟩ := hk.ptr
          clear hk hb
          go_wp2
          go_quiet (fail)
          have HB3 := Lib.hid (below_drewN HB2.out nq)
          go_wp2
          go_ret2
          exact NbPost.mk' rfl rfl (nums_none _ _) HB3.out
      · have hj : ¬ JnOk n Z m Y n2 Z2 m2 Y2 := fun g => hs g.2.2.1
        rw [jnB_no hj, jnV_no hj]
        have hs' : (20 : Int) < (n : Int) + n2 - 1 := by omega
        have hsd : decide ((20 : Int) < (n : Int) + n2 - 1) = true := by simp; omega
        obtain ⟨ua, uc, rfl⟩ := hu.shape
        obtain ⟨ub, ud, rfl⟩ := hu2.shape
        clear hv hu hv2 hu2 h h2 hj hc1 hc2 es eza ezb hlast
        go_enter Try.func39, Try.ntmps39
        go_wp2_with fail
        refine HT.out.mono ?_
        rintro e w1 ⟨x, rfl, hk, hb⟩
        have HB1 := Lib.hid hb
        have HT3 := Lib.hid (HT2.out w1 hb)
        obtain ⟨xq, rfl⟩ := hk.ptr
        clear hk hb
        go_wp2_with fail
        refine HT3.out.mono ?_
        rintro e w2 ⟨x2, rfl, hk, hb⟩
        have HB2 := Lib.hid (HB1.out.trans (hb.mono HB1.out.size))
        obtain ⟨xq2, rfl⟩ := hk.ptr
        clear hk hb
        go_wp2
        go_quiet (fail)
        have HB3 := Lib.hid (below_drewN HB2.out nq)
        go_wp2
        go_ret2
        exact NbPost.mk' rfl rfl (nums_none _ _) HB3.out
    · have hj : ¬ JnOk n Z m Y n2 Z2 m2 Y2 := fun g => h2 g.2.1
      rw [jnB_no hj, jnV_no hj]
      have HT2 := Lib.hid (fun (W : World) (hb : Below w.heap.size w W) => thinningOf_no v2 u2 lo3 hi3 lo4 hi4 n2 m2 Z2 Y2 W (hv2.same (SameIn.below hb hh3)) (hu2.same (SameIn.below hb hh4)) hm2 h2)
      obtain ⟨va, vc, rfl⟩ := hv.shape
      obtain ⟨vb, vd, rfl⟩ := hv2.shape
      obtain ⟨ua, uc, rfl⟩ := hu.shape
      obtain ⟨ub, ud, rfl⟩ := hu2.shape
      clear hv hu hv2 hu2 h h2 hj
      go_enter Try.func39, Try.ntmps39
      go_wp2_with fail
      refine HT.out.mono ?_
      rintro e w1 ⟨x, rfl, hk, hb⟩
      have HB1 := Lib.hid hb
      have HT3 := Lib.hid (HT2.out w1 hb)
      obtain ⟨xq, rfl⟩ := hk.ptr
      clear hk hb
      go_wp2_with fail
      refine HT3.out.mono ?_
      rintro e w2 ⟨rfl, hb⟩
      have HB2 := Lib.hid (HB1.out.trans (hb.mono HB1.out.size))
      clear hb
      go_wp2
      go_ret2
      exact NbPost.mk' rfl rfl (nums_none _ _) HB2.out
  · have hj : ¬ JnOk n Z m Y n2 Z2 m2 Y2 := fun g => h g.1
    rw [jnB_no hj, jnV_no hj]
    have HT := Lib.hid (thinningOf_no v u lo hi lo2 hi2 n m Z Y w hv hu hm h)
    obtain ⟨va, vc, rfl⟩ := hv.shape
    obtain ⟨ua, uc, rfl⟩ := hu.shape
    by_cases h2 : ThOk n2 Z2 m2 Y2
    · have HT2 := Lib.hid (fun (W : World) (hb : Below w.heap.size w W) => thinningOf_yes v2 u2 lo3 hi3 lo4 hi4 n2 m2 Z2 Y2 W (hv2.same (SameIn.below hb hh3)) (hu2.same (SameIn.below hb hh4)) (Nat.le_trans hh4 hb.size) h2)
      obtain ⟨vb, vd, rfl⟩ := hv2.shape
      obtain ⟨ub, ud, rfl⟩ := hu2.shape
      clear hv hu hv2 hu2 h h2 hj
      go_enter Try.func39, Try.ntmps39
      go_wp2_with fail
      refine HT.out.mono ?_
      rintro e w1 ⟨rfl, hb⟩
      have HB1 := Lib.hid hb
      have HT3 := Lib.hid (HT2.out w1 hb)
      clear hb
      go_wp2_with fail
      refine HT3.out.mono ?_
      rintro e w2 ⟨x2, rfl, hk, hb⟩
      have HB2 := Lib.hid (HB1.out.trans (hb.mono HB1.out.size))
      obtain ⟨xq2, rfl⟩ := hk.ptr
      clear hk hb
      go_wp2
      go_ret2
      exact NbPost.mk' rfl rfl (nums_none _ _) HB2.out
    · have HT2 := Lib.hid (fun (W : World) (hb : Below w.heap.size w W) => thinningOf_no v2 u2 lo3 hi3 lo4 hi4 n2 m2 Z2 Y2 W (hv2.same (SameIn.below hb hh3)) (hu2.same (SameIn.below hb hh4)) hm2 h2)
      obtain ⟨vb, vd, rfl⟩ := hv2.shape
      obtain ⟨ub, ud, rfl⟩ := hu2.shape
      clear hv hu hv2 hu2 h h2 hj
      go_enter Try.func39, Try.ntmps39
      go_wp2_with fail
      refine HT.out.mono ?_
      rintro e w1 ⟨rfl, hb⟩
      have HB1 := Lib.hid hb
      have HT3 := Lib.hid (HT2.out w1 hb)
      clear hb
      go_wp2_with fail
      refine HT3.out.mono ?_
      rintro e w2 ⟨rfl, hb⟩
      have HB2 := Lib.hid (HB1.out.trans (hb.mono HB1.out.size))
      clear hb
      go_wp2
      go_ret2
      exact NbPost.mk' rfl rfl (nums_none _ _) HB2.out

end Go.Proofs.Ytjepmnngphlgoaa
