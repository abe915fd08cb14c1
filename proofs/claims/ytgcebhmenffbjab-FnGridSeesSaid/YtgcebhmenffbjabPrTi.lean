/- Profiles tilted, in the model and in the program. -/
import Derived.Test.YtgcebhmenffbjabPrB
namespace Go.Proofs.Ytgcebhmenffbjab
open Go.RowKit
set_option linter.unusedVariables false

def TlOk (n : Nat) (z : Nat → Int) (t : Int) : Prop := PrOk n z ∧ (-10 ≤ t ∧ t ≤ 10) ∧ PrOk n (tilZ z t)
noncomputable def tlB (n : Nat) (z : Nat → Int) (t : Int) : Bool := @decide (TlOk n z t) (Classical.propDecidable _)
theorem tlB_yes {n : Nat} {z : Nat → Int} {t : Int} (h : TlOk n z t) : tlB n z t = true := by simp [tlB, h]
theorem tlB_no {n : Nat} {z : Nat → Int} {t : Int} (h : ¬ TlOk n z t) : tlB n z t = false := by simp [tlB, h]
open Classical in
noncomputable def tlN (n : Nat) (z : Nat → Int) (t : Int) : Nat := if TlOk n z t then n else 0
theorem tlN_yes {n : Nat} {z : Nat → Int} {t : Int} (h : TlOk n z t) : tlN n z t = n := by unfold tlN; rw [if_pos h]
theorem tlN_no {n : Nat} {z : Nat → Int} {t : Int} (h : ¬ TlOk n z t) : tlN n z t = 0 := by unfold tlN; rw [if_neg h]
theorem tlN_le (n : Nat) (z : Nat → Int) (t : Int) : tlN n z t ≤ n := by
  by_cases h : TlOk n z t
  · rw [tlN_yes h]; exact Nat.le_refl _
  · rw [tlN_no h]; omega
theorem til_rng {n : Nat} {z : Nat → Int} {t : Int} (h : PrOk n z) (h1 : -10 ≤ t) (h2 : t ≤ 10) (i : Nat) (hi : i < n) : (-40000 ≤ (i : Int) * t ∧ (i : Int) * t ≤ 40000) ∧ -40000 ≤ tilZ z t i ∧ tilZ z t i ≤ 40099 := by
  have hm := mul_rng (i : Int) t (by omega) (by have := h.1.2; omega) (by omega) (by omega)
  have hz := h.2 i hi
  unfold tilZ
  omega

set_option maxHeartbeats 4000000 in
set_option maxRecDepth 20000 in
theorem specProfileTilt_any (v : Value) (lo hi n : Nat) (Z : Nat → Int) (t : Int) (w : World) (hv : RdI lo hi w v n Z) (hh : hi ≤ w.heap.size) :
    Calls Try.prog 39 #[v, .int .i64 t] w (LsPost (tlB n Z t) (tlN n Z t) (tilZ Z t) w) := by
  have hb0 := (Below.refl w.heap.size w).alloc (Nat.le_refl _) (.cells #[] 3)
  have HB0 := Lib.hid hb0
  have HL0 := Lib.hid (nums_lit w)
  have HV := Lib.hid (fun (W : World) (hb : Below w.heap.size w W) => specProfileValid_any v lo hi n Z W (hv.same (SameIn.below hb hh)))
  have HV0 := Lib.hid (specProfileValid_any _ _ _ 0 (nsZ []) _ ((nums_lit w).rdI (fun x hx => by simp at hx)))
  have HL1 := Lib.hid (show Nums w.heap.size ((w.alloc (.cells #[] 3)).alloc (.cells #[] 3)) (.slice (some ⟨w.heap.size + 1, 0, none⟩) 0 0) [] from by
    have h := nums_lit (w.alloc (.cells #[] 3))
    rw [World.size_alloc] at h
    exact ownsRow_low h (by omega))
  have HP0 := Lib.hid (prB_no (n := 0) (z := nsZ []) (fun h => by have := h.1.1; omega))
  obtain ⟨i0, hi0, hz0, hz1, hz2⟩ := info_parts Try.infoI
  by_cases hok : PrOk n Z
  · have HP := Lib.hid (prB_yes hok)
    have hn20 := hok.1.2
    have hn1 := hok.1.1
    have hn0 : (0 : Int) < n := by omega
    by_cases ht : -10 ≤ t ∧ t ≤ 10
    · obtain ⟨ht1, ht2⟩ := ht
      have HR := Lib.hid (fun i (hi : i < n) => til_rng hok ht1 ht2 i hi)
      have HOK := Lib.hid (fnL_ok (f := tilZ Z t) (k := n) (fun i hi => by have := (HR.out i hi).2; omega))
      have HZ := Lib.hid hok.2
      have HOKK := Lib.hid hok
      obtain ⟨b, off, cap, rfl, hcap, _, hbh, hc⟩ := hv.open (by omega)
      have HC := Lib.hid (fun (W : World) (hb : Below w.heap.size w W) (x : Nat) (hx : x < n) => (hb.cell (p := ⟨b, off + x, none⟩) (by show b < _; omega)).trans (hc x hx))
      clear hv hok hb0 hc
      go_enter Try.func39, Try.ntmps39
      go_wp2
      go_loopw [6, 7] (fun o c wr => ∃ (kk : Nat) (u : Value), kk ≤ n ∧ c = .int .i64 kk ∧ u = o ∧ Nums w.heap.size wr u (fnL (tilZ Z t) kk) ∧ Below w.heap.size w wr) (fun _ c _ => n - (intOf c).toNat)
      case atStart => exact ⟨0, _, Nat.zero_le _, rfl, rfl, HL0.out, HB0.out⟩
      case round =>
        obtain ⟨kk, u, hk, rfl, rfl, hli, hb⟩ := hrel
        have HB1 := Lib.hid hb
        have HLI := Lib.hid hli
        have hln := fnL_len (tilZ Z t) kk
        clear hb hli
        by_cases hlt : kk < n
        · have hlt' : (kk : Int) < n := by omega
          have c1 := HC.out _ HB1.out kk hlt
          obtain ⟨⟨m1, m2⟩, _, _⟩ := HR.out kk hlt
          obtain ⟨z1, z2⟩ := HZ.out kk hlt
          have HL := Lib.hid (show fnL (tilZ Z t) (kk + 1) = fnL (tilZ Z t) kk ++ [Z kk + kk * t] from rfl)
          obtain ⟨L, eL⟩ : ∃ L, fnL (tilZ Z t) kk = L := ⟨_, rfl⟩
          obtain ⟨z, ez⟩ : ∃ z, Z kk = z := ⟨_, rfl⟩
          obtain ⟨P, eP⟩ : ∃ P, (kk : Int) * t = P := ⟨_, rfl⟩
          rw [eL] at HLI HL hln
          rw [ez] at HL c1 z1 z2
          rw [eP] at HL m1 m2
          have hlk : L.length ≤ 20 := by omega
          clear eL ez hln
          go_wp2_with fail
          refine (HV.out _ HB1.out).mono ?_
          rintro e w2 ⟨rfl, rfl⟩
          rw [HP.out]
          go_wp2_with fail
          refine (l6In_yes _ _ _ _ ht1 ht2).mono ?_
          rintro e w2 ⟨rfl, rfl⟩
          have HB3 := HB1
          have HLN := HLI
          go_wp2_with (first | (at_builtin; refine wpList_append_own _ rfl _ _ 23 rfl w.heap.size 3 i0 (.int .i64 0) 1 8 Try.underlying23 hi0 hz0 hz1 hz2 rfl (by decide) _ L.length (nsV L) rfl (HLN.out.alloc _) ⟨wr.heap.size, 0, none⟩ 1 1 [.int .i64 (z + P)] rfl rfl (World.news_of_block (cs := #[.int .i64 (z + P)]) (t := 3) (fr := (0, 0)) (heap_alloc_new wr _)) (by simp [Value.oneCell']) (by unfold maxLen; omega) (by omega) (by have := HB1.out.size; simp; omega) ?_; intro v' w4 hown4 hg4 _))
          have HB4 := Lib.hid ((HB1.out.alloc HB1.out.size (.cells #[.int .i64 (z + P)] 3)).grown hg4 (by simp; have := HB3.out.size; omega) (fun k hk => (HLN.out.lt k hk).1))
          have HL4 := Lib.hid (nums_push (L := L) (x := (z + P)) hown4)
          clear hown4 hg4 HLN
          go_wp2
          go_roundw
          case rel => exact ⟨kk + 1, _, by omega, by go_num, rfl, by rw [HL.out]; exact HL4.out, HB4.out⟩
          case measure => simp [intOf]; omega
        · obtain rfl : kk = n := by omega
          have HVO := Lib.hid (specProfileValid_any u w.heap.size wr.heap.size kk (tilZ Z t) wr (by
            have h := HLI.out.rdI HOK.out
            rw [hln] at h
            exact h.congr (fun i hi => fnL_z _ _ i hi)))
          obtain ⟨ua, uc, rfl⟩ := HLI.out.shape
          rw [hln] at HLI HVO
          by_cases hg : PrOk kk (tilZ Z t)
          · have HQ := Lib.hid (prB_yes hg)
            have HT : TlOk kk Z t := ⟨HOKK.out, ⟨ht1, ht2⟩, hg⟩
            have HA := Lib.hid (tlB_yes HT)
            have HN := Lib.hid (tlN_yes HT)
            clear hg HT
            go_wp2_with fail
            refine HVO.out.mono ?_
            rintro e w2 ⟨rfl, rfl⟩
            rw [HQ.out]
            go_wp2
            go_ret2
            exact LsPost.mk' HA.out (by rw [HN.out]; exact hln) (fun i hi => fnL_z _ _ i (by rw [HN.out] at hi; exact hi)) HOK.out HLI.out HB1.out
          · have HQ := Lib.hid (prB_no hg)
            have HA := Lib.hid (tlB_no (n := kk) (z := Z) (t := t) (fun h => hg h.2.2))
            have HN := Lib.hid (tlN_no (n := kk) (z := Z) (t := t) (fun h => hg h.2.2))
            clear hg
            go_wp2_with fail
            refine HVO.out.mono ?_
            rintro e w2 ⟨rfl, rfl⟩
            rw [HQ.out]
            go_wp2
            go_ret2
            exact LsPost.mk' (l := []) HA.out (by rw [HN.out]; rfl) (fun i hi => by rw [HN.out] at hi; omega) (fun x hx => by simp at hx) (ownsRow_low (nums_lit wr) HB1.out.size) (HB1.out.alloc HB1.out.size _)
    · have HA := Lib.hid (tlB_no (n := n) (z := Z) (t := t) (fun h => ht h.2.1))
      have HN := Lib.hid (tlN_no (n := n) (z := Z) (t := t) (fun h => ht h.2.1))
      obtain ⟨va, vc, rfl⟩ := hv.shape
      clear hv hok hb0
      go_enter Try.func39, Try.ntmps39
      go_wp2
      refine wp_loop_rounds 1 ?_
      rw [rounds_succ]
      go_wp2_with fail
      refine (HV.out _ HB0.out).mono ?_
      rintro e w2 ⟨rfl, rfl⟩
      rw [HP.out]
      go_wp2_with fail
      refine (l6In_no _ _ _ _ (by omega)).mono ?_
      rintro e w2 ⟨rfl, rfl⟩
      go_wp2_with fail
      refine HV0.out.mono ?_
      rintro e w2 ⟨rfl, rfl⟩
      rw [HP0.out]
      go_wp2
      go_ret2
      exact LsPost.mk' (l := []) HA.out (by rw [HN.out]; rfl) (fun i hi => by rw [HN.out] at hi; omega) (fun x hx => by simp at hx) HL1.out (HB0.out.alloc HB0.out.size _)
  · have HP := Lib.hid (prB_no hok)
    have HA := Lib.hid (tlB_no (n := n) (z := Z) (t := t) (fun h => hok h.1))
    have HN := Lib.hid (tlN_no (n := n) (z := Z) (t := t) (fun h => hok h.1))
    obtain ⟨va, vc, rfl⟩ := hv.shape
    clear hv hok hb0
    by_cases h0 : n = 0
    · subst h0
      go_enter Try.func39, Try.ntmps39
      go_wp2
      refine wp_loop_rounds 1 ?_
      rw [rounds_succ]
      go_wp2_with fail
      refine HV0.out.mono ?_
      rintro e w2 ⟨rfl, rfl⟩
      rw [HP0.out]
      go_wp2
      go_ret2
      exact LsPost.mk' (l := []) HA.out (by rw [HN.out]; rfl) (fun i hi => by rw [HN.out] at hi; omega) (fun x hx => by simp at hx) HL1.out (HB0.out.alloc HB0.out.size _)
    · have h0' : (0 : Int) < (n : Int) := by omega
      go_enter Try.func39, Try.ntmps39
      go_wp2
      refine wp_loop_rounds 1 ?_
      rw [rounds_succ]
      go_wp2_with fail
      refine (HV.out _ HB0.out).mono ?_
      rintro e w2 ⟨rfl, rfl⟩
      rw [HP.out]
      go_wp2_with fail
      refine HV0.out.mono ?_
      rintro e w2 ⟨rfl, rfl⟩
      rw [HP0.out]
      go_wp2
      go_ret2
      exact LsPost.mk' (l := []) HA.out (by rw [HN.out]; rfl) (fun i hi => by rw [HN.out] at hi; omega) (fun x hx => by simp at hx) HL1.out (HB0.out.alloc HB0.out.size _)

set_option maxHeartbeats 4000000 in
set_option maxRecDepth 20000 in
theorem implProfileTilt_any (v : Value) (lo hi n : Nat) (Z : Nat → Int) (t : Int) (w : World) (hv : RdI lo hi w v n Z) (hh : hi ≤ w.heap.size) :
    Calls Try.prog 38 #[v, .int .i64 t] w (LgPost (tlB n Z t) (tlN n Z t) (tilZ Z t) w) := by
  by_cases hok : PrOk n Z
  · have HC := Lib.hid (profileOf_yes v lo hi n Z w hv hok)
    have hn20 := hok.1.2
    have hn1 := hok.1.1
    by_cases ht : -10 ≤ t ∧ t ≤ 10
    · obtain ⟨ht1, ht2⟩ := ht
      have ht1' : ¬ t < -10 := by omega
      have ht2' : ¬ 10 < t := by omega
      have HR := Lib.hid (fun i (hi : i < n) => til_rng hok ht1 ht2 i hi)
      have HCL := Lib.hid (clone_any v lo hi n Z w hv hok hh)
      have HOKK := Lib.hid hok
      have HZ := Lib.hid hok.2
      obtain ⟨va, vc, rfl⟩ := hv.shape
      clear hv hok
      go_enter Try.func38, Try.ntmps38
      go_wp2_with fail
      refine HC.out.mono ?_
      rintro e w1 ⟨rfl, rfl⟩
      go_wp2_with fail
      refine HCL.out.mono ?_
      rintro e w2 ⟨u, rfl, _, how, hb2⟩
      have HB2 := Lib.hid hb2
      rcases how with ⟨rfl, h0⟩ | ⟨b, N, cap, F, rfl, k1, k2, k3, k4, k5, k6, k7, k8⟩
      · omega
      have HROW := Lib.hid k3
      have HF := Lib.hid k7
      clear hb2 k3 k7 k8
      go_wp2
      go_loopw [29] (fun c wr => ∃ kk : Nat, kk ≤ n ∧ c = .int .i64 kk ∧ wr.rowIs b 3 N (fun x => if x < kk then .int .i64 (tilZ Z t x) else F x) ∧ Chg b (b + 1) w2 wr ∧ wr.heap.size = w2.heap.size) (fun c _ => n - (intOf c).toNat)
      case atStart => exact ⟨0, Nat.zero_le _, rfl, HROW.out.congr (fun j _ => by simp), Chg.refl _ _ _, rfl⟩
      case round =>
        obtain ⟨kk, hk, rfl, hrow, hchg, hsz⟩ := hrel
        have HCH := Lib.hid hchg
        have HSZ := Lib.hid hsz
        clear hchg hsz
        by_cases hlt : kk < n
        · have hlt' : (kk : Int) < n := by omega
          obtain ⟨⟨m1, m2⟩, _, _⟩ := HR.out kk hlt
          obtain ⟨z1, z2⟩ := HZ.out kk hlt
          have c1 : wr.cell? ⟨b, kk, none⟩ = some (.int .i64 (Z kk)) := by
            have h := hrow.cell (i := kk) (by omega)
            rw [if_neg (by omega), HF.out kk hlt] at h
            exact h
          have f1 : wr.frozen? ⟨b, kk, none⟩ = false := hrow.frozen kk
          have HRW := Lib.hid ((hrow.set kk (.int .i64 (Z kk + kk * t))).congr (g := fun x => if x < kk + 1 then .int .i64 (tilZ Z t x) else F x) (fun x hx => by
            by_cases e : x = kk
            · subst e; rw [if_pos rfl, if_pos (by omega)]; rfl
            · rw [if_neg e]
              by_cases e2 : x < kk
              · rw [if_pos e2, if_pos (by omega)]
              · rw [if_neg e2, if_neg (by omega)]))
          have HCC := Lib.hid (HCH.out.setCell (p := ⟨b, kk, none⟩) (Nat.le_refl _) (Nat.lt_succ_self _) (.int .i64 (Z kk + kk * t)))
          obtain ⟨z, ez⟩ : ∃ z, Z kk = z := ⟨_, rfl⟩
          obtain ⟨P, eP⟩ : ∃ P, (kk : Int) * t = P := ⟨_, rfl⟩
          rw [ez] at c1 z1 z2 HRW HCC
          rw [eP] at m1 m2 HRW HCC
          clear hrow ez
          go_wp2
          go_roundw
          case rel => exact ⟨kk + 1, by omega, by go_num, HRW.out, HCC.out, by simpa [World.setCell] using HSZ.out⟩
          case measure => simp [intOf]; omega
        · obtain rfl : kk = n := by omega
          have hs2 := HB2.out.size
          have HB3 := Lib.hid (HB2.out.trans (HCH.out.below (by omega) (by omega)))
          have HOW := Lib.hid (show OwI w.heap.size wr.heap.size wr (.slice (some ⟨b, 0, none⟩) kk cap) kk (tilZ Z t) from
            Or.inr ⟨b, N, cap, _, rfl, k1, by rw [HSZ.out]; exact k2, hrow, k4, k5, k6, fun i hi => by rw [if_pos hi], fun i hi => by have := (HR.out i hi).2; omega⟩)
          have HVO := Lib.hid (implProfileValid_any _ w.heap.size wr.heap.size kk (tilZ Z t) wr HOW.out.rd)
          clear hrow
          by_cases hg : PrOk kk (tilZ Z t)
          · have HQ := Lib.hid (prB_yes hg)
            have HT : TlOk kk Z t := ⟨HOKK.out, ⟨ht1, ht2⟩, hg⟩
            have HA := Lib.hid (tlB_yes HT)
            have HN := Lib.hid (tlN_yes HT)
            clear hg HT
            go_wp2_with fail
            refine HVO.out.mono ?_
            rintro e w3 ⟨rfl, rfl⟩
            rw [HQ.out]
            go_wp2
            go_ret2
            exact ⟨_, by rw [HA.out]; rfl, ⟨_, _, _, rfl⟩, by rw [HN.out]; exact HOW.out, HB3.out⟩
          · have HQ := Lib.hid (prB_no hg)
            have HA := Lib.hid (tlB_no (n := kk) (z := Z) (t := t) (fun h => hg h.2.2))
            have HN := Lib.hid (tlN_no (n := kk) (z := Z) (t := t) (fun h => hg h.2.2))
            clear hg
            go_wp2_with fail
            refine HVO.out.mono ?_
            rintro e w3 ⟨rfl, rfl⟩
            rw [HQ.out]
            go_wp2
            go_ret2
            exact ⟨_, by rw [HA.out]; rfl, ⟨_, _, _, rfl⟩, by rw [HN.out]; exact OwI.none _ _ _ _, HB3.out⟩
    · have HA := Lib.hid (tlB_no (n := n) (z := Z) (t := t) (fun h => ht h.2.1))
      have HN := Lib.hid (tlN_no (n := n) (z := Z) (t := t) (fun h => ht h.2.1))
      obtain ⟨va, vc, rfl⟩ := hv.shape
      clear hv hok
      by_cases ht1 : t < -10
      · go_enter Try.func38, Try.ntmps38
        go_wp2_with fail
        refine HC.out.mono ?_
        rintro e w1 ⟨rfl, rfl⟩
        go_wp2
        go_ret2
        exact ⟨_, by rw [HA.out]; rfl, ⟨_, _, _, rfl⟩, by rw [HN.out]; exact OwI.none _ _ _ _, Below.refl _ _⟩
      · have ht2 : 10 < t := by omega
        clear ht
        go_enter Try.func38, Try.ntmps38
        go_wp2_with fail
        refine HC.out.mono ?_
        rintro e w1 ⟨rfl, rfl⟩
        go_wp2
        go_ret2
        exact ⟨_, by rw [HA.out]; rfl, ⟨_, _, _, rfl⟩, by rw [HN.out]; exact OwI.none _ _ _ _, Below.refl _ _⟩
  · have HA := Lib.hid (tlB_no (n := n) (z := Z) (t := t) (fun h => hok h.1))
    have HN := Lib.hid (tlN_no (n := n) (z := Z) (t := t) (fun h => hok h.1))
    have HC := Lib.hid (profileOf_no v lo hi n Z w hv hok)
    obtain ⟨va, vc, rfl⟩ := hv.shape
    clear hv hok
    go_enter Try.func38, Try.ntmps38
    go_wp2_with fail
    refine HC.out.mono ?_
    rintro e w1 ⟨rfl, rfl⟩
    go_wp2
    go_ret2
    exact ⟨_, by rw [HA.out]; rfl, ⟨_, _, _, rfl⟩, by rw [HN.out]; exact OwI.none _ _ _ _, Below.refl _ _⟩

end Go.Proofs.Ytgcebhmenffbjab
