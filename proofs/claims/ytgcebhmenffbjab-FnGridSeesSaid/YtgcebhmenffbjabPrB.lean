/- Profiles turned over and tilted, in the model and in the program. -/
import Derived.Test.YtgcebhmenffbjabPrR
import Derived.Test.YtgcebhmenffbjabPrV
namespace Go.Proofs.Ytgcebhmenffbjab
open Go.RowKit
set_option linter.unusedVariables false

open Classical in
noncomputable def bkN (n : Nat) (z : Nat → Int) : Nat := if PrOk n z then n else 0
theorem bkN_yes {n : Nat} {z : Nat → Int} (h : PrOk n z) : bkN n z = n := by unfold bkN; rw [if_pos h]
theorem bkN_no {n : Nat} {z : Nat → Int} (h : ¬ PrOk n z) : bkN n z = 0 := by unfold bkN; rw [if_neg h]
theorem bkN_le (n : Nat) (z : Nat → Int) : bkN n z ≤ n := by
  by_cases h : PrOk n z
  · rw [bkN_yes h]; exact Nat.le_refl _
  · rw [bkN_no h]; omega
theorem rev_ok {n : Nat} {z : Nat → Int} (h : PrOk n z) : PrOk n (revZ (n - 1) z) := ⟨h.1, fun i hi => h.2 _ (by omega)⟩

theorem LsPost.mk' {b b' : Bool} {n : Nat} {Z : Nat → Int} {w w' : World} {v : Value} {l : List Int} (eb : b = b') (hl : l.length = n) (hz : ∀ i, i < n → nsZ l i = Z i) (hok : NsOk l) (h : Nums w.heap.size w' v l) (hb : Below w.heap.size w w') : LsPost b n Z w (.returned (.tuple #[v, .bool b'])) w' := by
  obtain ⟨a, c, rfl⟩ := h.shape
  have hr := h.rdI hok
  rw [hl] at hr
  exact ⟨_, by rw [eb, hl], ⟨_, _, _, rfl⟩, hr.congr hz, hb⟩

set_option maxHeartbeats 4000000 in
set_option maxRecDepth 20000 in
theorem specProfileBack_any (v : Value) (lo hi n : Nat) (Z : Nat → Int) (w : World) (hv : RdI lo hi w v n Z) (hh : hi ≤ w.heap.size) :
    Calls Try.prog 35 #[v] w (LsPost (prB n Z) (bkN n Z) (revZ (n - 1) Z) w) := by
  have hb0 := (Below.refl w.heap.size w).alloc (Nat.le_refl _) (.cells #[] 3)
  have HB0 := Lib.hid hb0
  have HL0 := Lib.hid (nums_lit w)
  have HV := Lib.hid (fun (W : World) (hb : Below w.heap.size w W) => specProfileValid_any v lo hi n Z W (hv.same (SameIn.below hb hh)))
  obtain ⟨i0, hi0, hz0, hz1, hz2⟩ := info_parts Try.infoI
  by_cases hok : PrOk n Z
  · have HP := Lib.hid (prB_yes hok)
    have HA := Lib.hid (bkN_yes hok)
    have HOK := Lib.hid (fnL_ok (f := revZ (n - 1) Z) (k := n) (fun i hi => by have := (rev_ok hok).2 i hi; omega))
    have hn20 := hok.1.2
    have hn1 := hok.1.1
    obtain ⟨b, off, cap, rfl, hcap, _, hbh, hc⟩ := hv.open (by omega)
    have HC := Lib.hid (fun (W : World) (hb : Below w.heap.size w W) (x : Nat) (hx : x < n) => (hb.cell (p := ⟨b, off + x, none⟩) (by show b < _; omega)).trans (hc x hx))
    clear hv hok hb0 hc
    go_enter Try.func35, Try.ntmps35
    go_wp2
    go_loopw [4, 5] (fun o c wr => ∃ (kk : Nat) (J : Int) (u : Value), kk ≤ n ∧ J + 1 + kk = n ∧ c = .int .i64 J ∧ u = o ∧ Nums w.heap.size wr u (fnL (revZ (n - 1) Z) kk) ∧ Below w.heap.size w wr) (fun _ c _ => (intOf c + 1).toNat)
    case atStart => exact ⟨0, (n : Int) - 1, _, Nat.zero_le _, by omega, rfl, rfl, HL0.out, HB0.out⟩
    case round =>
      obtain ⟨kk, J, u, hk, hJ, rfl, rfl, hli, hb⟩ := hrel
      have HB1 := Lib.hid hb
      have HLI := Lib.hid hli
      have hln := fnL_len (revZ (n - 1) Z) kk
      clear hb hli
      by_cases hlt : kk < n
      · obtain ⟨q, rfl⟩ : ∃ q : Nat, J = q := ⟨J.toNat, by omega⟩
        have hq : q + 1 + kk = n := by omega
        have HQ := Lib.hid hq
        have hqn : (q : Int) < n := by omega
        have hq0 : (0 : Int) ≤ q := by omega
        have c1 := HC.out _ HB1.out q (by omega)
        have HL := Lib.hid (show fnL (revZ (n - 1) Z) (kk + 1) = fnL (revZ (n - 1) Z) kk ++ [Z q] by
          show _ ++ [Z (n - 1 - kk)] = _
          have : n - 1 - kk = q := by omega
          rw [this])
        obtain ⟨L, eL⟩ : ∃ L, fnL (revZ (n - 1) Z) kk = L := ⟨_, rfl⟩
        obtain ⟨z, ez⟩ : ∃ z, Z q = z := ⟨_, rfl⟩
        rw [eL] at HLI HL hln
        rw [ez] at HL c1
        have hlk : L.length ≤ 20 := by omega
        clear eL ez hq hJ hln
        go_wp2_with fail
        refine (HV.out _ HB1.out).mono ?_
        rintro e w2 ⟨rfl, rfl⟩
        rw [HP.out]
        have HB3 := HB1
        have HLN := HLI
        go_wp2_with (first | (at_builtin; refine wpList_append_own _ rfl _ _ 23 rfl w.heap.size 3 i0 (.int .i64 0) 1 8 Try.underlying23 hi0 hz0 hz1 hz2 rfl (by decide) _ L.length (nsV L) rfl (HLN.out.alloc _) ⟨wr.heap.size, 0, none⟩ 1 1 [.int .i64 z] rfl rfl (World.news_of_block (cs := #[.int .i64 z]) (t := 3) (fr := (0, 0)) (heap_alloc_new wr _)) (by simp [Value.oneCell']) (by unfold maxLen; omega) (by omega) (by have := HB1.out.size; simp; omega) ?_; intro v' w4 hown4 hg4 _))
        have HB4 := Lib.hid ((HB1.out.alloc HB1.out.size (.cells #[.int .i64 z] 3)).grown hg4 (by simp; have := HB3.out.size; omega) (fun k hk => (HLN.out.lt k hk).1))
        have HL4 := Lib.hid (nums_push (L := L) (x := z) hown4)
        clear hown4 hg4 HLN
        go_wp2
        go_roundw
        case rel => exact ⟨kk + 1, (q : Int) - 1, _, by omega, by have := HQ.out; omega, by go_num, rfl, by rw [HL.out]; exact HL4.out, HB4.out⟩
        case measure => simp [intOf] <;> omega
      · obtain rfl : kk = n := by omega
        obtain rfl : J = -1 := by omega
        go_wp2_with fail
        refine (HV.out _ HB1.out).mono ?_
        rintro e w2 ⟨rfl, rfl⟩
        rw [HP.out]
        go_wp2
        go_ret2
        exact LsPost.mk' HP.out (by rw [HA.out]; exact hln) (fun i hi => fnL_z _ _ i (by rw [HA.out] at hi; exact hi)) HOK.out HLI.out HB1.out
  · have HP := Lib.hid (prB_no hok)
    have HA := Lib.hid (bkN_no hok)
    obtain ⟨ao, cap, b, off, rfl, h2, h3, _, _, _⟩ := hv
    clear hok hb0
    by_cases h0 : n = 0
    · subst h0
      go_enter Try.func35, Try.ntmps35
      go_wp2
      refine wp_loop_rounds 1 ?_
      rw [rounds_succ]
      go_wp2_with fail
      refine (HV.out _ HB0.out).mono ?_
      rintro e w2 ⟨rfl, rfl⟩
      rw [HP.out]
      go_wp2
      go_ret2
      exact LsPost.mk' (l := []) HP.out (by rw [HA.out]; rfl) (fun i hi => by rw [HA.out] at hi; omega) (fun x hx => by simp at hx) HL0.out HB0.out
    · have h0' : (0 : Int) ≤ (n : Int) - 1 := by omega
      go_enter Try.func35, Try.ntmps35
      go_wp2
      refine wp_loop_rounds 1 ?_
      rw [rounds_succ]
      go_wp2_with fail
      refine (HV.out _ HB0.out).mono ?_
      rintro e w2 ⟨rfl, rfl⟩
      rw [HP.out]
      go_wp2_with fail
      refine (HV.out _ HB0.out).mono ?_
      rintro e w2 ⟨rfl, rfl⟩
      rw [HP.out]
      go_wp2
      go_ret2
      exact LsPost.mk' (l := []) HP.out (by rw [HA.out]; rfl) (fun i hi => by rw [HA.out] at hi; omega) (fun x hx => by simp at hx) HL0.out HB0.out

set_option maxHeartbeats 4000000 in
set_option maxRecDepth 20000 in
theorem implProfileBack_any (v : Value) (lo hi n : Nat) (Z : Nat → Int) (w : World) (hv : RdI lo hi w v n Z) (hh : hi ≤ w.heap.size) :
    Calls Try.prog 18 #[v] w (LgPost (prB n Z) (bkN n Z) (revZ (n - 1) Z) w) := by
  by_cases hok : PrOk n Z
  · have HP := Lib.hid (prB_yes hok)
    have HA := Lib.hid (bkN_yes hok)
    have HC := Lib.hid (profileOf_yes v lo hi n Z w hv hok)
    have HCL := Lib.hid (clone_any v lo hi n Z w hv hok hh)
    have HR := Lib.hid (rev_ok hok).2
    have hn20 := hok.1.2
    have hn1 := hok.1.1
    obtain ⟨va, vc, rfl⟩ := hv.shape
    clear hv hok
    go_enter Try.func18, Try.ntmps18
    go_wp2_with fail
    refine HC.out.mono ?_
    rintro e w1 ⟨rfl, rfl⟩
    go_wp2_with fail
    refine HCL.out.mono ?_
    rintro e w2 ⟨u, rfl, _, how, hb2⟩
    have HB2 := Lib.hid hb2
    rcases how with ⟨rfl, h0⟩ | ⟨b, N, cap, F, rfl, k1, k2, k3, k4, k5, k6, k7, k8⟩
    · omega
    have HRV := Lib.hid (reverse_any b N n cap F Z w2 k3 k7 k4 (by omega) k5)
    clear hb2 k3 k7 k8
    go_wp2_with fail
    refine HRV.out.mono ?_
    rintro e w3 ⟨⟨v3, rfl⟩, hrow, hchg, hsz⟩
    have HB3 := Lib.hid (HB2.out.trans (hchg.below (by omega) (by omega)))
    have HOW := Lib.hid (show OwI w.heap.size w3.heap.size w3 (.slice (some ⟨b, 0, none⟩) n cap) n (revZ (n - 1) Z) from
      Or.inr ⟨b, N, cap, _, rfl, k1, by rw [hsz]; exact k2, hrow, k4, k5, k6, fun i hi => by simp only [hi, if_true]; rfl, fun i hi => by have := HR.out i hi; omega⟩)
    clear hrow hchg hsz
    go_wp2
    go_ret2
    exact ⟨_, by rw [HP.out]; rfl, ⟨_, _, _, rfl⟩, by rw [HA.out]; exact HOW.out, HB3.out⟩
  · have HP := Lib.hid (prB_no hok)
    have HA := Lib.hid (bkN_no hok)
    have HC := Lib.hid (profileOf_no v lo hi n Z w hv hok)
    obtain ⟨va, vc, rfl⟩ := hv.shape
    clear hv hok
    go_enter Try.func18, Try.ntmps18
    go_wp2_with fail
    refine HC.out.mono ?_
    rintro e w1 ⟨rfl, rfl⟩
    go_wp2
    go_ret2
    exact ⟨_, by rw [HP.out]; rfl, ⟨_, _, _, rfl⟩, by rw [HA.out]; exact OwI.none _ _ _ _, Below.refl _ _⟩

end Go.Proofs.Ytgcebhmenffbjab
