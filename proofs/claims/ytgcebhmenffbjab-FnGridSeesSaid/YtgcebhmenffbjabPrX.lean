/- Profiles of the model: the eye, the hull, the best point. -/
import Derived.Test.YtgcebhmenffbjabPrU
namespace Go.Proofs.Ytgcebhmenffbjab
open Go.RowKit
set_option linter.unusedVariables false

set_option maxHeartbeats 4000000 in
set_option maxRecDepth 20000 in
theorem specProfileEye_any (v : Value) (lo hi n : Nat) (Z : Nat → Int) (i k : Int) (w : World) (hv : RdI lo hi w v n Z) (hh : hi ≤ w.heap.size) :
    Calls Try.prog 29 #[v, .int .i64 i, .int .i64 k] w (IntPost (eyV n Z i k) w) := by
  have H1 := Lib.hid (l5Has_any v lo hi n Z i w hv)
  have H2 := Lib.hid (l5Has_any v lo hi n Z k w hv)
  by_cases h1 : PrAt n Z i
  · have B1 := Lib.hid (ptB_yes h1)
    by_cases h2 : PrAt n Z k
    · have B2 := Lib.hid (ptB_yes h2)
      obtain ⟨x, rfl, hx⟩ := h1.nat
      obtain ⟨y, rfl, hy⟩ := h2.nat
      have HS := Lib.hid (fun (W : World) (hb : Below w.heap.size w W) (e : Int) (he : 0 ≤ e ∧ e ≤ 50) => l5Sees_any v lo hi n Z x y e W (hv.same (SameIn.below hb hh)) h1.1 hx hy he)
      have HA := Lib.hid (fun (m : Int) (h : IsEye Z x y m) => eyV_is h1 h2 h)
      obtain ⟨va, vc, rfl⟩ := hv.shape
      clear hv h1 h2
      go_enter Try.func29, Try.ntmps29
      go_wp2_with fail
      refine H1.out.mono ?_
      rintro e w1 ⟨rfl, rfl⟩
      rw [B1.out]
      go_wp2_with fail
      refine H2.out.mono ?_
      rintro e w1 ⟨rfl, rfl⟩
      rw [B2.out]
      go_wp2
      go_loopw [7] (fun c wr => ∃ m : Nat, m ≤ 51 ∧ c = .int .i64 m ∧ Below w.heap.size w wr ∧ ∀ e : Int, 0 ≤ e → e < m → ¬ Sees Z x y e) (fun c _ => 51 - (intOf c).toNat)
      case atStart => exact ⟨0, by omega, rfl, Below.refl _ _, fun e h1 h2 => by omega⟩
      case round =>
        obtain ⟨m, hm, rfl, hb, hd⟩ := hrel
        have HD := Lib.hid hd
        have HB1 := Lib.hid hb
        clear hd hb
        by_cases hlt : m < 51
        · have hlt' : (m : Int) ≤ 50 := by omega
          by_cases hs : Sees Z x y m
          · have HQ := Lib.hid (seB_yes hs)
            have HF := Lib.hid (HA.out m (Or.inl ⟨by omega, hlt', hs, fun e h1 h2 => HD.out e h1 h2⟩))
            clear hs
            go_wp2_with fail
            refine (HS.out _ HB1.out m ⟨by omega, hlt'⟩).mono ?_
            rintro e w3 ⟨rfl, m3, rfl⟩
            rw [HQ.out]
            go_wp2
            go_ret
            exact ⟨by rw [HF.out]; rfl, below_drewN HB1.out _⟩
          · have HQ := Lib.hid (seB_no hs)
            have HN := Lib.hid hs
            clear hs
            go_wp2_with fail
            refine (HS.out _ HB1.out m ⟨by omega, hlt'⟩).mono ?_
            rintro e w3 ⟨rfl, m3, rfl⟩
            rw [HQ.out]
            go_wp2
            go_roundw
            case rel => exact ⟨m + 1, by omega, by go_num, below_drewN HB1.out _, fun e h1 h2 => by
              by_cases ex : e = m
              · subst ex; exact HN.out
              · exact HD.out e h1 (by omega)⟩
            case measure => simp [intOf]; omega
        · have hlt' : ¬ (m : Int) ≤ 50 := by omega
          have HF := Lib.hid (HA.out (-1) (Or.inr ⟨rfl, fun e h1 h2 => HD.out e h1 (by omega)⟩))
          go_wp2
          go_ret
          exact ⟨by rw [HF.out]; rfl, HB1.out⟩
    · have B2 := Lib.hid (ptB_no h2)
      have HF := Lib.hid (eyV_no (n := n) (z := Z) (i := i) (k := k) (fun g => h2 g.2))
      obtain ⟨va, vc, rfl⟩ := hv.shape
      clear hv h1 h2
      go_enter Try.func29, Try.ntmps29
      go_wp2_with fail
      refine H1.out.mono ?_
      rintro e w1 ⟨rfl, rfl⟩
      rw [B1.out]
      go_wp2_with fail
      refine H2.out.mono ?_
      rintro e w1 ⟨rfl, rfl⟩
      rw [B2.out]
      go_wp2
      go_ret
      exact ⟨by rw [HF.out]; rfl, Below.refl _ _⟩
  · have B1 := Lib.hid (ptB_no h1)
    have HF := Lib.hid (eyV_no (n := n) (z := Z) (i := i) (k := k) (fun g => h1 g.1))
    obtain ⟨va, vc, rfl⟩ := hv.shape
    clear hv h1
    go_enter Try.func29, Try.ntmps29
    go_wp2_with fail
    refine H1.out.mono ?_
    rintro e w1 ⟨rfl, rfl⟩
    rw [B1.out]
    go_wp2
    go_ret
    exact ⟨by rw [HF.out]; rfl, Below.refl _ _⟩

set_option maxHeartbeats 4000000 in
set_option maxRecDepth 20000 in
theorem specProfileHull_any (v : Value) (lo hi n : Nat) (Z : Nat → Int) (w : World) (hv : RdI lo hi w v n Z) (hh : hi ≤ w.heap.size) :
    Calls Try.prog 33 #[v] w (NbPost (prB n Z) (hlV n Z) w) := by
  have hb0 := (Below.refl w.heap.size w).alloc (Nat.le_refl _) (.cells #[] 3)
  have HB0 := Lib.hid hb0
  have HL0 := Lib.hid (nums_lit w)
  have HV := Lib.hid (specProfileValid_any v lo hi n Z _ (hv.same (SameIn.below hb0 hh)))
  obtain ⟨i0, hi0, hz0, hz1, hz2⟩ := info_parts Try.infoI
  by_cases hok : PrOk n Z
  · have HP := Lib.hid (prB_yes hok)
    have HA := Lib.hid (hlV_yes hok)
    have HZ := Lib.hid hok.2
    have hn20 := hok.1.2
    obtain ⟨b, off, cap, rfl, hcap, _, hbh, hc⟩ := hv.open (by have := hok.1.1; omega)
    have HC := Lib.hid (fun (W : World) (hb : Below w.heap.size w W) (x : Nat) (hx : x < n) => (hb.cell (p := ⟨b, off + x, none⟩) (by show b < _; omega)).trans (hc x hx))
    clear hv hok hb0 hc
    go_enter Try.func33, Try.ntmps33
    go_wp2_with fail
    refine HV.out.mono ?_
    rintro e w1 ⟨rfl, rfl⟩
    rw [HP.out]
    go_wp2
    go_loopw [4, 5] (fun o c wr => ∃ (kk : Nat) (u : Value), kk ≤ n ∧ c = .int .i64 kk ∧ u = o ∧ Nums w.heap.size wr u (huL n Z kk) ∧ Below w.heap.size w wr) (fun _ c _ => n - (intOf c).toNat)
    case atStart => exact ⟨0, _, Nat.zero_le _, rfl, rfl, HL0.out, HB0.out⟩
    case round =>
      obtain ⟨j, u, hj, rfl, rfl, hli, hb⟩ := hrel
      have HB1 := Lib.hid hb
      have HLI := Lib.hid hli
      have hln := huL_len n Z j
      clear hb hli
      by_cases hlt : j < n
      · have hlt' : (j : Int) < n := by omega
        obtain ⟨L, eL⟩ : ∃ L, huL n Z j = L := ⟨_, rfl⟩
        have HLY := Lib.hid (fun (h : Hul n Z j) => huL_yes h)
        have HLN0 := Lib.hid (fun (h : ¬ Hul n Z j) => huL_no h)
        rw [eL] at HLI HLY HLN0 hln
        clear eL
        go_wp2
        go_loopw [6, 7] (fun a c wr2 => ∃ (ii : Nat) (ab : Bool), ii ≤ j ∧ c = .int .i64 ii ∧ a = .bool ab ∧ (∃ q, wr2 = wr.drewN q) ∧ (ab = true ↔ ∀ i k, i < ii → j < k → k < n → ¬ Und Z i (Z i) k (Z k) j)) (fun _ c _ => j - (intOf c).toNat)
        case atStart => exact ⟨0, true, Nat.zero_le _, rfl, rfl, ⟨0, rfl⟩, ⟨fun _ i k h => by omega, fun _ => rfl⟩⟩
        case round =>
          obtain ⟨i, ab, hi', rfl, rfl, ⟨q, rfl⟩, hd⟩ := hrel
          have HD := Lib.hid hd
          clear hd
          by_cases hil : i < j
          · have hil' : (i : Int) < j := by omega
            go_wp2
            go_loopw [6, 8] (fun a c wr2 => ∃ (kk : Nat) (ac : Bool), j < kk ∧ kk ≤ n ∧ c = .int .i64 kk ∧ a = .bool ac ∧ (∃ q, wr2 = wr.drewN q) ∧ (ac = true ↔ ab = true ∧ ∀ k, j < k → k < kk → ¬ Und Z i (Z i) k (Z k) j)) (fun _ c _ => n - (intOf c).toNat)
            case atStart => exact ⟨j + 1, ab, by omega, by omega, by go_num, rfl, ⟨q, rfl⟩, ⟨fun h => ⟨h, fun k h1 h2 => by omega⟩, fun h => h.1⟩⟩
            case round =>
              obtain ⟨k, ac, hk1, hk2, rfl, rfl, ⟨q2, rfl⟩, hd⟩ := hrel
              have HK := Lib.hid hd
              clear hd
              by_cases hkl : k < n
              · have hkl' : (k : Int) < n := by omega
                cases ac with
                | false =>
                  have HKF := Lib.hid (show ¬ (ab = true ∧ ∀ x, j < x → x < k → ¬ Und Z i (Z i) x (Z x) j) from fun g => (by have := HK.out.2 g; cases this))
                  clear HK
                  go_wp2
                  go_quiet (fail)
                  go_wp2
                  go_roundw
                  case rel => exact ⟨k + 1, false, by omega, by omega, by go_num, rfl, ⟨q2 + nq, rfl⟩, ⟨fun h => (by cases h), fun h => absurd ⟨h.1, fun x h1 h2 => h.2 x h1 (by omega)⟩ HKF.out⟩⟩
                  case measure => simp [intOf]; omega
                | true =>
                  have HKT := Lib.hid (HK.out.1 rfl)
                  clear HK
                  have cj := HC.out _ HB1.out j hlt
                  have ci := HC.out _ HB1.out i (by omega)
                  have ck := HC.out _ HB1.out k hkl
                  obtain ⟨hzj1, hzj2⟩ := HZ.out j hlt
                  obtain ⟨hzi1, hzi2⟩ := HZ.out i (by omega)
                  obtain ⟨hzk1, hzk2⟩ := HZ.out k hkl
                  have HU := Lib.hid (show Und Z i (Z i) k (Z k) j ↔ Z j * ((k : Int) - i) ≤ Z i * ((k : Int) - j) + Z k * ((j : Int) - i) from Iff.rfl)
                  obtain ⟨zj, ezj⟩ : ∃ x, Z j = x := ⟨_, rfl⟩
                  obtain ⟨zi, ezi⟩ : ∃ x, Z i = x := ⟨_, rfl⟩
                  obtain ⟨zk, ezk⟩ : ∃ x, Z k = x := ⟨_, rfl⟩
                  have HU2 := Lib.hid (show Und Z i (Z i) k (Z k) j ↔ zj * ((k : Int) - i) ≤ zi * ((k : Int) - j) + zk * ((j : Int) - i) by rw [HU.out, ezj, ezi, ezk])
                  rw [ezj] at cj hzj1 hzj2
                  rw [ezi] at ci hzi1 hzi2
                  rw [ezk] at ck hzk1 hzk2
                  obtain ⟨p1, p2⟩ := mul_rng zj ((k : Int) - i) (by omega) (by omega) (by omega) (by omega)
                  obtain ⟨p3, p4⟩ := mul_rng zi ((k : Int) - j) (by omega) (by omega) (by omega) (by omega)
                  obtain ⟨p5, p6⟩ := mul_rng zk ((j : Int) - i) (by omega) (by omega) (by omega) (by omega)
                  obtain ⟨P1, e1⟩ : ∃ x, zj * ((k : Int) - i) = x := ⟨_, rfl⟩
                  obtain ⟨P2, e2⟩ : ∃ x, zi * ((k : Int) - j) = x := ⟨_, rfl⟩
                  obtain ⟨P3, e3⟩ : ∃ x, zk * ((j : Int) - i) = x := ⟨_, rfl⟩
                  rw [e1, e2, e3] at HU2
                  rw [e1] at p1 p2
                  rw [e2] at p3 p4
                  rw [e3] at p5 p6
                  have hjn : (i : Int) < n := by omega
                  clear ezj ezi ezk HU
                  by_cases hu : P1 ≤ P2 + P3
                  · have hu' : decide (P2 + P3 < P1) = false := by simp; omega
                    have HF := Lib.hid (HU2.out.2 hu)
                    go_wp2
                    go_quiet (fail)
                    go_wp2
                    go_roundw
                    case rel => exact ⟨k + 1, false, by omega, by omega, by go_num, rfl, ⟨q2 + nq, rfl⟩, ⟨fun h => (by cases h), fun h => absurd HF.out (h.2 k hk1 (by omega))⟩⟩
                    case measure => simp [intOf]; omega
                  · have hu' : decide (P2 + P3 < P1) = true := by simp; omega
                    have HF := Lib.hid (show ¬ Und Z i (Z i) k (Z k) j from fun g => hu (HU2.out.1 g))
                    go_wp2
                    go_quiet (fail)
                    go_wp2
                    go_roundw
                    case rel => exact ⟨k + 1, true, by omega, by omega, by go_num, rfl, ⟨q2 + nq, rfl⟩, ⟨fun _ => ⟨HKT.out.1, fun x h1 h2 => by
                      by_cases ex : x = k
                      · subst ex; exact HF.out
                      · exact HKT.out.2 x h1 (by omega)⟩, fun _ => rfl⟩⟩
                    case measure => simp [intOf]; omega
              · obtain rfl : k = n := by omega
                go_wp2
                go_roundw
                case rel => exact ⟨i + 1, ac, by omega, by go_num, rfl, ⟨q2, rfl⟩, ⟨fun h x y h1 h2 h3 => by
                    by_cases ex : x = i
                    · subst ex; exact (HK.out.1 h).2 y h2 h3
                    · exact HD.out.1 (HK.out.1 h).1 x y (by omega) h2 h3,
                  fun h => HK.out.2 ⟨HD.out.2 (fun x y h1 h2 h3 => h x y (by omega) h2 h3), fun y h2 h3 => h i y (by omega) h2 h3⟩⟩⟩
                case measure => simp [intOf]; omega
          · obtain rfl : i = j := by omega
            have HB3 := Lib.hid (below_drewN HB1.out q)
            have HLN := Lib.hid (HLI.out.below (below_drewN (Below.refl _ _) q) (Nat.le_refl _))
            generalize wr.drewN q = w3 at *
            clear HLI
            have hs3 := HB3.out.size
            cases ab with
            | true =>
              have HL := Lib.hid (HLY.out (fun a b h1 h2 h3 => HD.out.1 rfl a b h1 h2 h3))
              go_wp2_with (first | (at_builtin; refine wpList_append_own _ rfl _ _ 23 rfl w.heap.size 3 i0 (.int .i64 0) 1 8 Try.underlying23 hi0 hz0 hz1 hz2 rfl (by decide) _ L.length (nsV L) rfl (HLN.out.alloc _) ⟨w3.heap.size, 0, none⟩ 1 1 [.int .i64 i] rfl rfl (World.news_of_block (cs := #[.int .i64 i]) (t := 3) (fr := (0, 0)) (heap_alloc_new w3 _)) (by simp [Value.oneCell']) (by unfold maxLen; omega) (by omega) (by simp; omega) ?_; intro v' w4 hown4 hg4 _))
              have HB4 := Lib.hid ((HB3.out.alloc HB3.out.size (.cells #[.int .i64 i] 3)).grown hg4 (by simp; have := HB3.out.size; omega) (fun k hk => (HLN.out.lt k hk).1))
              have HL4 := Lib.hid (nums_push (L := L) (x := i) hown4)
              clear hown4 hg4 HLN
              go_wp2
              go_roundw
              case rel => exact ⟨i + 1, _, by omega, by go_num, rfl, by rw [HL.out]; exact HL4.out, HB4.out⟩
              case measure => simp [intOf]; omega
            | false =>
              have HL := Lib.hid (HLN0.out (fun g => absurd (HD.out.2 (fun a b h1 h2 h3 => g a b h1 h2 h3)) (by simp)))
              go_wp2
              go_roundw
              case rel => exact ⟨i + 1, _, by omega, by go_num, rfl, by rw [HL.out]; exact HLN.out, HB3.out⟩
              case measure => simp [intOf]; omega
      · obtain rfl : j = n := by omega
        go_wp2
        go_ret2
        exact NbPost.mk' HP.out HA.out HLI.out HB1.out
  · have HP := Lib.hid (prB_no hok)
    have HA := Lib.hid (hlV_no hok)
    obtain ⟨va, vc, rfl⟩ := hv.shape
    clear hv hok hb0
    go_enter Try.func33, Try.ntmps33
    go_wp2_with fail
    refine HV.out.mono ?_
    rintro e w1 ⟨rfl, rfl⟩
    rw [HP.out]
    go_wp2
    go_ret2
    exact NbPost.mk' HP.out HA.out HL0.out HB0.out

end Go.Proofs.Ytgcebhmenffbjab
