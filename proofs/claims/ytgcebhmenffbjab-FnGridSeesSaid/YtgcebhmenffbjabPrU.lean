/- Profiles of the model: the functions. -/
import Derived.Test.YtgcebhmenffbjabPrT
namespace Go.Proofs.Ytgcebhmenffbjab
open Go.RowKit
set_option linter.unusedVariables false

set_option maxHeartbeats 2000000 in
set_option maxRecDepth 20000 in
theorem specProfileSees_any (v : Value) (lo hi n : Nat) (Z : Nat → Int) (i k : Int) (w : World) (hv : RdI lo hi w v n Z) (hh : hi ≤ w.heap.size) :
    Calls Try.prog 17 #[v, .int .i64 i, .int .i64 k] w (BlPost (ssB n Z i k) w) := by
  have H1 := Lib.hid (l5Has_any v lo hi n Z i w hv)
  have H2 := Lib.hid (l5Has_any v lo hi n Z k w hv)
  by_cases h1 : PrAt n Z i
  · have B1 := Lib.hid (ptB_yes h1)
    by_cases h2 : PrAt n Z k
    · have B2 := Lib.hid (ptB_yes h2)
      obtain ⟨x, rfl, hx⟩ := h1.nat
      obtain ⟨y, rfl, hy⟩ := h2.nat
      have HS := Lib.hid (l5Sees_any v lo hi n Z x y 0 w hv h1.1 hx hy (by omega))
      have HA := Lib.hid (ssB_at x y h1.1 hx hy)
      obtain ⟨va, vc, rfl⟩ := hv.shape
      clear hv h1 h2
      go_enter Try.func17, Try.ntmps17
      go_wp2_with fail
      refine H1.out.mono ?_
      rintro e w1 ⟨rfl, rfl⟩
      rw [B1.out]
      go_wp2_with fail
      refine H2.out.mono ?_
      rintro e w1 ⟨rfl, rfl⟩
      rw [B2.out]
      go_wp2_with fail
      refine HS.out.mono ?_
      rintro e w1 ⟨rfl, m, rfl⟩
      go_wp2
      go_ret
      exact bl_post HA.out (below_drewN (Below.refl _ _) _)
    · have B2 := Lib.hid (ptB_no h2)
      have HA := Lib.hid (ssB_no (n := n) (z := Z) (i := i) (k := k) (fun g => h2 g.1.2))
      obtain ⟨va, vc, rfl⟩ := hv.shape
      clear hv h1 h2
      go_enter Try.func17, Try.ntmps17
      go_wp2_with fail
      refine H1.out.mono ?_
      rintro e w1 ⟨rfl, rfl⟩
      rw [B1.out]
      go_wp2_with fail
      refine H2.out.mono ?_
      rintro e w1 ⟨rfl, rfl⟩
      rw [B2.out]
      go_wp2
      go_ret
      exact bl_post HA.out (Below.refl _ _)
  · have B1 := Lib.hid (ptB_no h1)
    have HA := Lib.hid (ssB_no (n := n) (z := Z) (i := i) (k := k) (fun g => h1 g.1.1))
    obtain ⟨va, vc, rfl⟩ := hv.shape
    clear hv h1
    go_enter Try.func17, Try.ntmps17
    go_wp2_with fail
    refine H1.out.mono ?_
    rintro e w1 ⟨rfl, rfl⟩
    rw [B1.out]
    go_wp2
    go_ret
    exact bl_post HA.out (Below.refl _ _)

set_option maxHeartbeats 4000000 in
set_option maxRecDepth 20000 in
theorem specProfileSeen_any (v : Value) (lo hi n : Nat) (Z : Nat → Int) (i : Int) (w : World) (hv : RdI lo hi w v n Z) (hh : hi ≤ w.heap.size) :
    Calls Try.prog 21 #[v, .int .i64 i] w (NsPost (snV n Z i) w) := by
  have HH := Lib.hid (fun (W : World) (hb : Below w.heap.size w W) => l5Has_any v lo hi n Z i W (hv.same (SameIn.below hb hh)))
  have hb0 := (Below.refl w.heap.size w).alloc (Nat.le_refl _) (.cells #[] 3)
  have HB0 := Lib.hid hb0
  have HL0 := Lib.hid (nums_lit w)
  obtain ⟨i0, hi0, hz0, hz1, hz2⟩ := info_parts Try.infoI
  by_cases h1 : PrAt n Z i
  · have HP := Lib.hid (ptB_yes h1)
    obtain ⟨x, rfl, hx⟩ := h1.nat
    have hn20 := h1.1.1.2
    have HA := Lib.hid (snV_yes h1)
    have HS := Lib.hid (fun (W : World) (hb : Below w.heap.size w W) (k : Nat) (hk : k < n) => l5Sees_any v lo hi n Z x k 0 W (hv.same (SameIn.below hb hh)) h1.1 hx hk (by omega))
    obtain ⟨va, vc, rfl⟩ := hv.shape
    clear hv h1 hb0
    go_enter Try.func21, Try.ntmps21
    go_wp2
    go_loopw [5, 6] (fun o c wr => ∃ (kk : Nat) (u : Value), kk ≤ n ∧ c = .int .i64 kk ∧ u = o ∧ Nums w.heap.size wr u (snL Z x kk) ∧ Below w.heap.size w wr) (fun _ c _ => n - (intOf c).toNat)
    case atStart => exact ⟨0, _, Nat.zero_le _, rfl, rfl, HL0.out, HB0.out⟩
    case round =>
      obtain ⟨kk, u, hk, rfl, rfl, hli, hb⟩ := hrel
      have HB1 := Lib.hid hb
      have HLI := Lib.hid hli
      have hln := snL_len Z x kk
      clear hb hli
      by_cases hlt : kk < n
      · have hlt' : (kk : Int) < n := by omega
        by_cases hs : Sees Z x kk 0
        · have HQ := Lib.hid (seB_yes hs)
          have HL := Lib.hid (snL_yes hs)
          obtain ⟨L, eL⟩ : ∃ L, snL Z x kk = L := ⟨_, rfl⟩
          rw [eL] at HLI HL hln
          clear hs eL
          go_wp2_with fail
          refine (HH.out _ HB1.out).mono ?_
          rintro e w2 ⟨rfl, rfl⟩
          rw [HP.out]
          go_wp2_with fail
          refine (HS.out _ HB1.out kk hlt).mono ?_
          rintro e w3 ⟨rfl, m3, rfl⟩
          rw [HQ.out]
          have HB3 := Lib.hid (below_drewN HB1.out m3)
          have HLN := Lib.hid (HLI.out.below (below_drewN (Below.refl _ _) m3) (Nat.le_refl _))
          have hs3 := HB3.out.size
          generalize wr.drewN m3 = w3 at *
          clear HLI
          go_wp2_with (first | (at_builtin; refine wpList_append_own _ rfl _ _ 23 rfl w.heap.size 3 i0 (.int .i64 0) 1 8 Try.underlying23 hi0 hz0 hz1 hz2 rfl (by decide) _ L.length (nsV L) rfl (HLN.out.alloc _) ⟨w3.heap.size, 0, none⟩ 1 1 [.int .i64 kk] rfl rfl (World.news_of_block (cs := #[.int .i64 kk]) (t := 3) (fr := (0, 0)) (heap_alloc_new w3 _)) (by simp [Value.oneCell']) (by unfold maxLen; omega) (by omega) (by simp; omega) ?_; intro v' w4 hown4 hg4 _))
          have HB4 := Lib.hid ((HB3.out.alloc HB3.out.size (.cells #[.int .i64 kk] 3)).grown hg4 (by simp; have := HB3.out.size; omega) (fun k hk => (HLN.out.lt k hk).1))
          have HL4 := Lib.hid (nums_push (L := L) (x := kk) hown4)
          clear hown4 hg4 HLN
          go_wp2
          go_roundw
          case rel => exact ⟨kk + 1, _, by omega, by go_num, rfl, by rw [HL.out]; exact HL4.out, HB4.out⟩
          case measure => simp [intOf]; omega
        · have HQ := Lib.hid (seB_no hs)
          have HL := Lib.hid (snL_no hs)
          clear hs
          go_wp2_with fail
          refine (HH.out _ HB1.out).mono ?_
          rintro e w2 ⟨rfl, rfl⟩
          rw [HP.out]
          go_wp2_with fail
          refine (HS.out _ HB1.out kk hlt).mono ?_
          rintro e w3 ⟨rfl, m3, rfl⟩
          rw [HQ.out]
          have HB3 := Lib.hid (below_drewN HB1.out m3)
          have HLN := Lib.hid (HLI.out.below (below_drewN (Below.refl _ _) m3) (Nat.le_refl _))
          clear HLI
          go_wp2
          go_roundw
          case rel => exact ⟨kk + 1, _, by omega, by go_num, rfl, by rw [HL.out]; exact HLN.out, HB3.out⟩
          case measure => simp [intOf]; omega
      · obtain rfl : kk = n := by omega
        go_wp2
        go_ret
        exact NsPost.mk' HA.out HLI.out HB1.out
  · have HP := Lib.hid (ptB_no h1)
    have HA := Lib.hid (snV_no h1)
    obtain ⟨va, vc, rfl⟩ := hv.shape
    clear hv h1 hb0
    by_cases h0 : n = 0
    · subst h0
      go_enter Try.func21, Try.ntmps21
      go_wp2
      refine wp_loop_rounds 1 ?_
      rw [rounds_succ]
      go_wp2
      go_ret
      exact NsPost.mk' HA.out HL0.out HB0.out
    · have h0' : (0 : Int) < n := by omega
      go_enter Try.func21, Try.ntmps21
      go_wp2
      refine wp_loop_rounds 1 ?_
      rw [rounds_succ]
      go_wp2_with fail
      refine (HH.out _ HB0.out).mono ?_
      rintro e w2 ⟨rfl, rfl⟩
      rw [HP.out]
      go_wp2
      go_ret
      exact NsPost.mk' HA.out HL0.out HB0.out

set_option maxHeartbeats 4000000 in
set_option maxRecDepth 20000 in
theorem specProfilePairs_any (v : Value) (lo hi n : Nat) (Z : Nat → Int) (w : World) (hv : RdI lo hi w v n Z) (hh : hi ≤ w.heap.size) :
    Calls Try.prog 26 #[v] w (IntPost (ppV n Z) w) := by
  have HV := Lib.hid (specProfileValid_any v lo hi n Z w hv)
  by_cases hok : PrOk n Z
  · have HP := Lib.hid (prB_yes hok)
    have HA := Lib.hid (ppV_yes hok)
    have hn20 := hok.1.2
    have HS := Lib.hid (fun (W : World) (hb : Below w.heap.size w W) (i k : Nat) (hi : i < n) (hk : k < n) => l5Sees_any v lo _ n Z i k 0 W (hv.same (SameIn.below hb hh)) hok hi hk (by omega))
    obtain ⟨va, vc, rfl⟩ := hv.shape
    clear hv hok
    go_enter Try.func26, Try.ntmps26
    go_wp2_with fail
    refine HV.out.mono ?_
    rintro e w1 ⟨rfl, rfl⟩
    rw [HP.out]
    go_wp2
    go_loopw [3, 4] (fun o c wr => ∃ kk : Nat, kk ≤ n ∧ c = .int .i64 kk ∧ o = .int .i64 (prN Z kk) ∧ Below w.heap.size w wr) (fun _ c _ => n - (intOf c).toNat)
    case atStart => exact ⟨0, Nat.zero_le _, rfl, rfl, Below.refl _ _⟩
    case round =>
      obtain ⟨k, hk, rfl, rfl, hb⟩ := hrel
      have HB1 := Lib.hid hb
      have hp := prN_le Z k
      have hkk : k * k ≤ 400 := Nat.mul_le_mul (show k ≤ 20 by omega) (show k ≤ 20 by omega)
      clear hb
      by_cases hlt : k < n
      · have hlt' : (k : Int) < n := by omega
        have HP := Lib.hid (show prN Z (k + 1) = prN Z k + paN Z k k from rfl)
        obtain ⟨P, eP⟩ : ∃ P, prN Z k = P := ⟨_, rfl⟩
        rw [eP] at hp HP ⊢
        have hP400 : P ≤ 400 := by omega
        clear hp eP hkk
        go_wp2
        go_loopw [3, 5] (fun o c wr => ∃ ii : Nat, ii ≤ k ∧ c = .int .i64 ii ∧ o = .int .i64 ((P : Int) + paN Z k ii) ∧ Below w.heap.size w wr) (fun _ c _ => k - (intOf c).toNat)
        case atStart => exact ⟨0, Nat.zero_le _, rfl, by simp [paN], HB1.out⟩
        case round =>
          obtain ⟨i, hi', rfl, rfl, hb⟩ := hrel
          have HB2 := Lib.hid hb
          have hq := paN_le Z k i
          clear hb
          by_cases hil : i < k
          · have hil' : (i : Int) < k := by omega
            by_cases hs : Sees Z k i 0
            · have HQ := Lib.hid (seB_yes hs)
              have HN := Lib.hid (paN_yes hs)
              obtain ⟨A, eA⟩ : ∃ A, paN Z k i = A := ⟨_, rfl⟩
              rw [eA] at hq HN ⊢
              clear hs eA
              go_wp2_with fail
              refine (HS.out _ HB2.out k i hlt (by omega)).mono ?_
              rintro e w3 ⟨rfl, m3, rfl⟩
              rw [HQ.out]
              have HB3 := Lib.hid (below_drewN HB2.out m3)
              go_wp2
              go_roundw
              case rel => exact ⟨i + 1, by omega, by go_num, by rw [HN.out]; go_num, HB3.out⟩
              case measure => simp [intOf]; omega
            · have HQ := Lib.hid (seB_no hs)
              have HN := Lib.hid (paN_no hs)
              obtain ⟨A, eA⟩ : ∃ A, paN Z k i = A := ⟨_, rfl⟩
              rw [eA] at hq HN ⊢
              clear hs eA
              go_wp2_with fail
              refine (HS.out _ HB2.out k i hlt (by omega)).mono ?_
              rintro e w3 ⟨rfl, m3, rfl⟩
              rw [HQ.out]
              have HB3 := Lib.hid (below_drewN HB2.out m3)
              go_wp2
              go_roundw
              case rel => exact ⟨i + 1, by omega, by go_num, by rw [HN.out], HB3.out⟩
              case measure => simp [intOf]; omega
          · obtain rfl : i = k := by omega
            go_wp2
            go_roundw
            case rel => exact ⟨i + 1, by omega, by go_num, by rw [HP.out]; go_num, HB2.out⟩
            case measure => simp [intOf]; omega
      · obtain rfl : k = n := by omega
        go_wp2
        go_ret
        exact ⟨by rw [HA.out]; rfl, HB1.out⟩
  · have HP := Lib.hid (prB_no hok)
    have HA := Lib.hid (ppV_no hok)
    obtain ⟨va, vc, rfl⟩ := hv.shape
    clear hv hok
    go_enter Try.func26, Try.ntmps26
    go_wp2_with fail
    refine HV.out.mono ?_
    rintro e w1 ⟨rfl, rfl⟩
    rw [HP.out]
    go_wp2
    go_ret
    exact ⟨by rw [HA.out]; rfl, Below.refl _ _⟩

end Go.Proofs.Ytgcebhmenffbjab
