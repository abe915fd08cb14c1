/- Who sees whom, the points seen, pairs, the hull and the best point, in the program. -/
import Derived.Test.YtgcebhmenffbjabPrJ
namespace Go.Proofs.Ytgcebhmenffbjab
open Go.RowKit
set_option linter.unusedVariables false

theorem isFree_any (v : Value) (lo hi n : Nat) (Z : Nat → Int) (a b : Nat) (ha hb : Int) (w : World) (hv : RdI lo hi w v n Z) (hok : PrOk n Z) (hh : hi ≤ w.heap.size) (han : a < n) (hbn : b < n)
    (hha : 0 ≤ ha ∧ ha ≤ 150) (hhb : 0 ≤ hb ∧ hb ≤ 150) :
    Calls Try.prog 70 #[v, .agg #[.int .i64 a, .int .i64 ha], .agg #[.int .i64 b, .int .i64 hb]] w (BlPost (fsB Z a ha b hb) w) := by
  by_cases h : a ≤ b
  · exact isFree_up v lo hi n Z a b ha hb w hv hok hh h hbn hha hhb
  · exact isFree_dn v lo hi n Z a b ha hb w hv hok hh (by omega) han hha hhb

set_option maxHeartbeats 2000000 in
set_option maxRecDepth 20000 in
theorem sees_any (v : Value) (lo hi n : Nat) (Z : Nat → Int) (i k : Nat) (w : World) (hv : RdI lo hi w v n Z) (hok : PrOk n Z) (hh : hi ≤ w.heap.size) (hin : i < n) (hkn : k < n) :
    Calls Try.prog 61 #[v, .int .i64 i, .int .i64 k] w (BlPost (seB Z i k 0) w) := by
  have HE := Lib.hid (fun (W : World) (hb : Below w.heap.size w W) (x : Nat) (hx : x < n) => eyeAt_any v lo hi n Z x 0 W (hv.same (SameIn.below hb hh)) hok hx (by omega) (Nat.le_trans hh hb.size))
  have HF := Lib.hid (fun (W : World) (hb : Below w.heap.size w W) => isFree_any v lo hi n Z i k (Z i + 0) (Z k + 0) W (hv.same (SameIn.below hb hh)) hok (Nat.le_trans hh hb.size) hin hkn (by have := hok.2 i hin; omega) (by have := hok.2 k hkn; omega))
  have e0 : fsB Z i (Z i + 0) k (Z k + 0) = seB Z i k 0 := by rw [← fsB_se, Int.add_zero (Z k)]
  rw [e0] at HF
  obtain ⟨q, eq⟩ : ∃ q, seB Z i k 0 = q := ⟨_, rfl⟩
  rw [eq] at HF ⊢
  obtain ⟨va, vc, rfl⟩ := hv.shape
  simp only [Int.add_zero] at HE HF
  clear hv eq e0 hok
  go_enter Try.func61, Try.ntmps61
  go_wp2_with fail
  refine (HE.out _ (Below.refl _ _) i hin).mono ?_
  rintro e w1 ⟨rfl, hb1⟩
  have HB1 := Lib.hid hb1
  clear hb1
  go_wp2_with fail
  refine (HE.out _ HB1.out k hkn).mono ?_
  rintro e w2 ⟨rfl, hb2⟩
  have HB2 := Lib.hid (HB1.out.trans (hb2.mono HB1.out.size))
  clear hb2
  go_wp2_with fail
  refine (HF.out _ HB2.out).mono ?_
  rintro e w3 ⟨rfl, hb3⟩
  have HB3 := Lib.hid (HB2.out.trans (hb3.mono HB2.out.size))
  clear hb3
  go_wp2
  go_ret
  exact bl_post rfl HB3.out

set_option maxHeartbeats 4000000 in
set_option maxRecDepth 20000 in
theorem seen_any (v : Value) (lo hi n : Nat) (Z : Nat → Int) (i : Nat) (w : World) (hv : RdI lo hi w v n Z) (hok : PrOk n Z) (hh : hi ≤ w.heap.size) (hin : i < n) :
    Calls Try.prog 67 #[v, .int .i64 i] w (NsPost (snL Z i n) w) := by
  have hn20 := hok.1.2
  have HS := Lib.hid (fun (W : World) (hb : Below w.heap.size w W) (k : Nat) (hk : k < n) => sees_any v lo hi n Z i k W (hv.same (SameIn.below hb hh)) hok (Nat.le_trans hh hb.size) hin hk)
  obtain ⟨va, vc, rfl⟩ := hv.shape
  obtain ⟨i0, hi0, hz0, hz1, hz2⟩ := info_parts Try.infoI
  clear hv hok
  go_enter Try.func67, Try.ntmps67
  go_wp2
  go_loopw [5, 9] (fun o c wr => ∃ (kk : Nat) (u : Value), kk ≤ n ∧ c = .int .i64 kk ∧ u = o ∧ Nums w.heap.size wr u (snL Z i kk) ∧ Below w.heap.size w wr) (fun _ c _ => n - (intOf c).toNat)
  case atStart => exact ⟨0, _, Nat.zero_le _, rfl, rfl, nums_none _ _, Below.refl _ _⟩
  case round =>
    obtain ⟨kk, u, hk, rfl, rfl, hli, hb⟩ := hrel
    have HB1 := Lib.hid hb
    have HLI := Lib.hid hli
    have hln := snL_len Z i kk
    clear hb hli
    by_cases hlt : kk < n
    · have hlt' : (kk : Int) < n := by omega
      by_cases hs : Sees Z i kk 0
      · have HQ := Lib.hid (seB_yes hs)
        have HL := Lib.hid (snL_yes hs)
        obtain ⟨L, eL⟩ : ∃ L, snL Z i kk = L := ⟨_, rfl⟩
        rw [eL] at HLI HL hln
        clear hs eL
        go_wp2_with fail
        refine (HS.out _ HB1.out kk hlt).mono ?_
        rintro e w3 ⟨rfl, hb3⟩
        rw [HQ.out]
        have HB3 := Lib.hid (HB1.out.trans (hb3.mono HB1.out.size))
        have HLN := Lib.hid (HLI.out.below hb3 (Nat.le_refl _))
        have hs3 := HB3.out.size
        clear hb3 HLI
        go_wp2_with (first | (at_builtin; refine wpList_append_own _ rfl _ _ 23 rfl w.heap.size 3 i0 (.int .i64 0) 1 8 Try.underlying23 hi0 hz0 hz1 hz2 rfl (by decide) _ L.length (nsV L) rfl (HLN.out.alloc _) ⟨w3.heap.size, 0, none⟩ 1 1 [.int .i64 kk] rfl rfl (World.news_of_block (cs := #[.int .i64 kk]) (t := 3) (fr := (0, 0)) (heap_alloc_new w3 _)) (by simp [Value.oneCell']) (by unfold maxLen; omega) (by omega) (by simp; omega) ?_; intro v' w4 hown4 hg4 _))
        have HB4 := Lib.hid ((HB3.out.alloc HB3.out.size (.cells #[.int .i64 kk] 3)).grown hg4 (by simp; have := HB3.out.size; omega) (fun k hk => (HLN.out.lt k hk).1))
        have HL4 := Lib.hid (nums_push (L := L) (x := kk) hown4)
        clear hown4 hg4 HLN
        go_wp2
        go_roundw
        case rel => exact ⟨kk + 1, _, by omega, by go_num, rfl, by rw [HL.out]; exact HL4.out, HB4.out⟩
        case measure => simp [intOf]; omega
      · have HQ := Lib.hid (seB_no hs)
        have HL := Lib.hid (snL_no hs)
        clear hs
        go_wp2_with fail
        refine (HS.out _ HB1.out kk hlt).mono ?_
        rintro e w3 ⟨rfl, hb3⟩
        rw [HQ.out]
        have HB3 := Lib.hid (HB1.out.trans (hb3.mono HB1.out.size))
        have HLN := Lib.hid (HLI.out.below hb3 (Nat.le_refl _))
        clear hb3 HLI
        go_wp2
        go_roundw
        case rel => exact ⟨kk + 1, _, by omega, by go_num, rfl, by rw [HL.out]; exact HLN.out, HB3.out⟩
        case measure => simp [intOf]; omega
    · obtain rfl : kk = n := by omega
      go_wp2
      go_ret
      exact NsPost.mk' rfl HLI.out HB1.out

set_option maxHeartbeats 4000000 in
set_option maxRecDepth 20000 in
theorem pairs_any (v : Value) (lo hi n : Nat) (Z : Nat → Int) (w : World) (hv : RdI lo hi w v n Z) (hok : PrOk n Z) (hh : hi ≤ w.heap.size) :
    Calls Try.prog 68 #[v] w (IntPost (prN Z n) w) := by
  have hn20 := hok.1.2
  have HS := Lib.hid (fun (W : World) (hb : Below w.heap.size w W) (i k : Nat) (hi : i < n) (hk : k < n) => sees_any v lo _ n Z i k W (hv.same (SameIn.below hb hh)) hok (Nat.le_trans hh hb.size) hi hk)
  obtain ⟨va, vc, rfl⟩ := hv.shape
  clear hv hok
  go_enter Try.func68, Try.ntmps68
  go_wp2
  go_loopw [3, 8] (fun o c wr => ∃ kk : Nat, kk ≤ n ∧ c = .int .i64 kk ∧ o = .int .i64 (prN Z kk) ∧ Below w.heap.size w wr) (fun _ c _ => n - (intOf c).toNat)
  case atStart => exact ⟨0, Nat.zero_le _, rfl, rfl, Below.refl _ _⟩
  case round =>
    obtain ⟨k, hk, rfl, rfl, hb⟩ := hrel
    have HB1 := Lib.hid hb
    have hp := prN_le Z k
    have hkk : k * k ≤ 400 := Nat.mul_le_mul (show k ≤ 20 by omega) (show k ≤ 20 by omega)
    clear hb
    by_cases hlt : k < n
    · have hlt' : (k : Int) < n := by omega
      have HP := Lib.hid (show prN Z (k + 1) = prN Z k + paN Z k k from rfl)
      obtain ⟨P, eP⟩ : ∃ P, prN Z k = P := ⟨_, rfl⟩
      rw [eP] at hp HP ⊢
      have hP400 : P ≤ 400 := by omega
      clear hp eP hkk
      go_wp2
      go_loopw [3, 12] (fun o c wr => ∃ ii : Nat, ii ≤ k ∧ c = .int .i64 ii ∧ o = .int .i64 ((P : Int) + paN Z k ii) ∧ Below w.heap.size w wr) (fun _ c _ => k - (intOf c).toNat)
      case atStart => exact ⟨0, Nat.zero_le _, rfl, by simp [paN], HB1.out⟩
      case round =>
        obtain ⟨i, hi', rfl, rfl, hb⟩ := hrel
        have HB2 := Lib.hid hb
        have hq := paN_le Z k i
        clear hb
        by_cases hil : i < k
        · have hil' : (i : Int) < k := by omega
          by_cases hs : Sees Z k i 0
          · have HQ := Lib.hid (seB_yes (sees_symm hs))
            have HN := Lib.hid (paN_yes hs)
            obtain ⟨A, eA⟩ : ∃ A, paN Z k i = A := ⟨_, rfl⟩
            rw [eA] at hq HN ⊢
            clear hs eA
            go_wp2_with fail
            refine (HS.out _ HB2.out i k (by omega) hlt).mono ?_
            rintro e w3 ⟨rfl, hb3⟩
            rw [HQ.out]
            have HB3 := Lib.hid (HB2.out.trans (hb3.mono HB2.out.size))
            clear hb3
            go_wp2
            go_roundw
            case rel => exact ⟨i + 1, by omega, by go_num, by rw [HN.out]; go_num, HB3.out⟩
            case measure => simp [intOf]; omega
          · have HQ := Lib.hid (seB_no (fun g => hs (sees_symm g)))
            have HN := Lib.hid (paN_no hs)
            obtain ⟨A, eA⟩ : ∃ A, paN Z k i = A := ⟨_, rfl⟩
            rw [eA] at hq HN ⊢
            clear hs eA
            go_wp2_with fail
            refine (HS.out _ HB2.out i k (by omega) hlt).mono ?_
            rintro e w3 ⟨rfl, hb3⟩
            rw [HQ.out]
            have HB3 := Lib.hid (HB2.out.trans (hb3.mono HB2.out.size))
            clear hb3
            go_wp2
            go_roundw
            case rel => exact ⟨i + 1, by omega, by go_num, by rw [HN.out], HB3.out⟩
            case measure => simp [intOf]; omega
        · obtain rfl : i = k := by omega
          go_wp2
          go_roundw
          case rel => exact ⟨i + 1, by omega, by go_num, by rw [HP.out]; go_num, HB2.out⟩
          case measure => simp [intOf]; omega
    · obtain rfl : k = n := by omega
      go_wp2
      go_ret
      exact ⟨rfl, HB1.out⟩

end Go.Proofs.Ytgcebhmenffbjab
