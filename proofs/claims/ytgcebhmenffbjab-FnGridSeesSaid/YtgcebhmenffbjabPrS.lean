/- Profiles of the model: what is one, which points it has, who sees whom. -/
import Derived.Test.YtgcebhmenffbjabPrM
namespace Go.Proofs.Ytgcebhmenffbjab
open Go.RowKit
set_option linter.unusedVariables false

set_option maxHeartbeats 2000000 in
set_option maxRecDepth 20000 in
theorem specProfileValid_any (v : Value) (lo hi n : Nat) (Z : Nat → Int) (w : World) (hv : RdI lo hi w v n Z) :
    Calls Try.prog 69 #[v] w (SmPost (prB n Z) w) := by
  obtain ⟨ao, cap, b, off, rfl, h2, h3, h4, h5, h6⟩ := hv
  have H5 := Lib.hid h5
  have H6 := Lib.hid h6
  clear h4 h5 h6
  go_enter Try.func69, Try.ntmps69
  go_wp2
  go_loop [3] (fun i => ∃ k : Nat, k ≤ n ∧ i = .int .i64 k ∧ ∀ j, j < k → 0 ≤ Z j ∧ Z j ≤ 99) (fun i => n - (intOf i).toNat)
  case atStart => exact ⟨0, Nat.zero_le _, rfl, fun j hj => by omega⟩
  case round =>
    obtain ⟨k, hk, rfl, hdone⟩ := hrel
    have HD := Lib.hid hdone
    clear hdone
    by_cases hlt : k < n
    · obtain ⟨rfl, _, _⟩ := H5.out (by omega)
      have q1 := H6.out k hlt
      have hlt' : (k : Int) < n := by omega
      by_cases hz : 0 ≤ Z k ∧ Z k ≤ 99
      · obtain ⟨hz1, hz2⟩ := hz
        go_wp2_with fail
        refine (l6In_yes _ _ _ _ hz1 hz2).mono ?_
        rintro e w' ⟨rfl, rfl⟩
        go_wp2
        go_round
        case rel => exact ⟨k + 1, by omega, by go_num, fun j hj => by
          by_cases e : j = k
          · subst e; exact ⟨hz1, hz2⟩
          · exact HD.out j (by omega)⟩
        case measure => simp [intOf]; omega
      · have HB := Lib.hid (prB_no (n := n) (z := Z) (fun h => hz (h.2 k hlt)))
        go_wp2_with fail
        refine (l6In_no _ _ _ _ (by omega)).mono ?_
        rintro e w' ⟨rfl, rfl⟩
        go_wp2
        go_ret
        exact sm_post HB.out _
    · by_cases hN : 1 ≤ n ∧ n ≤ 20
      · have HB := Lib.hid (prB_yes (n := n) (z := Z) ⟨hN, fun j hj => HD.out j (by omega)⟩)
        go_wp2_with fail
        refine (l6In_yes _ _ _ _ (by omega) (by omega)).mono ?_
        rintro e w' ⟨rfl, rfl⟩
        go_wp2
        go_ret
        exact sm_post HB.out _
      · have HB := Lib.hid (prB_no (n := n) (z := Z) (fun h => hN h.1))
        go_wp2_with fail
        refine (l6In_no _ _ _ _ (by omega)).mono ?_
        rintro e w' ⟨rfl, rfl⟩
        go_wp2
        go_ret
        exact sm_post HB.out _

set_option maxHeartbeats 2000000 in
set_option maxRecDepth 20000 in
theorem l5Has_any (v : Value) (lo hi n : Nat) (Z : Nat → Int) (i : Int) (w : World) (hv : RdI lo hi w v n Z) :
    Calls Try.prog 62 #[v, .int .i64 i] w (SmPost (ptB n Z i) w) := by
  have HC := Lib.hid (specProfileValid_any v lo hi n Z w hv)
  obtain ⟨ao, cap, rfl⟩ := hv.shape
  clear hv
  by_cases h : PrOk n Z
  · have HP := Lib.hid (prB_yes h)
    have hn := h.1.2
    have hn1 := h.1.1
    have hw : IntKind.i64.wrap ((n : Int) - 1) = (n : Int) - 1 := IntWalk.i64_in _ (by omega)
    by_cases hi : 0 ≤ i ∧ i < n
    · have HB := Lib.hid (ptB_yes (n := n) (z := Z) (i := i) ⟨h, hi⟩)
      clear h
      go_enter Try.func62, Try.ntmps62
      go_wp2_with fail
      refine HC.out.mono ?_
      rintro e w' ⟨rfl, rfl⟩
      rw [HP.out]
      go_wp2_with fail
      refine (l6In_yes _ _ _ _ (by omega) (by omega)).mono ?_
      rintro e w' ⟨rfl, rfl⟩
      go_wp2
      go_ret
      exact sm_post HB.out _
    · have HB := Lib.hid (ptB_no (n := n) (z := Z) (i := i) (fun g => hi g.2))
      clear h
      go_enter Try.func62, Try.ntmps62
      go_wp2_with fail
      refine HC.out.mono ?_
      rintro e w' ⟨rfl, rfl⟩
      rw [HP.out]
      go_wp2_with fail
      refine (l6In_no _ _ _ _ (by omega)).mono ?_
      rintro e w' ⟨rfl, rfl⟩
      go_wp2
      go_ret
      exact sm_post HB.out _
  · have HP := Lib.hid (prB_no h)
    have HB := Lib.hid (ptB_no (n := n) (z := Z) (i := i) (fun g => h g.1))
    clear h
    go_enter Try.func62, Try.ntmps62
    go_wp2_with fail
    refine HC.out.mono ?_
    rintro e w' ⟨rfl, rfl⟩
    rw [HP.out]
    go_wp2
    go_ret
    exact sm_post HB.out _

set_option maxHeartbeats 2000000 in
set_option maxRecDepth 20000 in
theorem l5Sees_up (v : Value) (lo hi n : Nat) (Z : Nat → Int) (i k : Nat) (e : Int) (w : World) (hv : RdI lo hi w v n Z) (hok : PrOk n Z) (hik : i < k) (hk : k < n) (he : 0 ≤ e ∧ e ≤ 50) :
    Calls Try.prog 63 #[v, .int .i64 i, .int .i64 k, .int .i64 e] w (EqPost (seB Z i k e) w) := by
  have hn20 := hok.1.2
  obtain ⟨b, off, cap, rfl, hcap, _, _, hc⟩ := hv.open (by omega)
  have HC := Lib.hid hc
  have HZ := Lib.hid hok.2
  have ci := hc i (by omega)
  have ck := hc k hk
  obtain ⟨he1, he2⟩ := he
  obtain ⟨hzi1, hzi2⟩ := hok.2 i (by omega)
  obtain ⟨hzk1, hzk2⟩ := hok.2 k hk
  have HSY := Lib.hid (fun (h : Free Z i (Z i + e) k (Z k)) => seB_yes (z := Z) (i := i) (k := k) (e := e) ⟨fun _ => h, fun h => by omega⟩)
  have HSN := Lib.hid (fun (h : ¬ Free Z i (Z i + e) k (Z k)) => seB_no (z := Z) (i := i) (k := k) (e := e) (fun g => h (g.1 (by omega))))
  obtain ⟨zi, ezi⟩ : ∃ x, Z i = x := ⟨_, rfl⟩
  obtain ⟨zk, ezk⟩ : ∃ x, Z k = x := ⟨_, rfl⟩
  rw [ezi] at ci hzi1 hzi2 HSY HSN
  rw [ezk] at ck hzk1 hzk2 HSY HSN
  have hin : (i : Int) < n := by omega
  have hkn : (k : Int) < n := by omega
  have hne : ((i : Int) != k) = true := by rw [bne_iff_ne]; omega
  have hlt0 : ¬ (k : Int) < i := by omega
  clear hc hok hv ezi ezk
  go_enter Try.func63, Try.ntmps63
  go_wp2
  go_loopw [10] (fun j wr => ∃ jj m : Nat, i < jj ∧ jj ≤ k ∧ j = .int .i64 jj ∧ wr = w.drewN m ∧ ∀ x, i < x → x < jj → Und Z i (zi + e) k zk x) (fun j _ => k - (intOf j).toNat)
  case atStart => exact ⟨i + 1, 0, by omega, by omega, by go_num, rfl, fun x h1 h2 => by omega⟩
  case round =>
    obtain ⟨j, m, hj1, hj2, rfl, rfl, hd⟩ := hrel
    have HD := Lib.hid hd
    clear hd
    by_cases hlt : j < k
    · have cj := HC.out j (by omega)
      obtain ⟨hzj1, hzj2⟩ := HZ.out j (by omega)
      have HU := Lib.hid (show Und Z i (zi + e) k zk j ↔ Z j * ((k : Int) - i) ≤ (zi + e) * ((k : Int) - j) + zk * ((j : Int) - i) from Iff.rfl)
      obtain ⟨zj, ezj⟩ : ∃ x, Z j = x := ⟨_, rfl⟩
      rw [ezj] at cj hzj1 hzj2 HU
      obtain ⟨p1, p2⟩ := mul_rng zj ((k : Int) - i) (by omega) (by omega) (by omega) (by omega)
      obtain ⟨p3, p4⟩ := mul_rng (zi + e) ((k : Int) - j) (by omega) (by omega) (by omega) (by omega)
      obtain ⟨p5, p6⟩ := mul_rng zk ((j : Int) - i) (by omega) (by omega) (by omega) (by omega)
      obtain ⟨P1, e1⟩ : ∃ x, zj * ((k : Int) - i) = x := ⟨_, rfl⟩
      obtain ⟨P2, e2⟩ : ∃ x, (zi + e) * ((k : Int) - j) = x := ⟨_, rfl⟩
      obtain ⟨P3, e3⟩ : ∃ x, zk * ((j : Int) - i) = x := ⟨_, rfl⟩
      rw [e1, e2, e3] at HU
      rw [e1] at p1 p2
      rw [e2] at p3 p4
      rw [e3] at p5 p6
      have hjn : (j : Int) < n := by omega
      have hjk : ((j : Int) != k) = true := by rw [bne_iff_ne]; omega
      clear ezj
      by_cases hu : P1 ≤ P2 + P3
      · have HUU := Lib.hid (HU.out.2 hu)
        have hu' : ¬ P2 + P3 < P1 := by omega
        go_wp2
        go_quiet (fail)
        go_wp2
        go_roundw
        case rel => exact ⟨j + 1, m + nq, by omega, by omega, by go_num, rfl, fun x h1 h2 => by
          by_cases ex : x = j
          · subst ex; exact HUU.out
          · exact HD.out x h1 (by omega)⟩
        case measure => simp [intOf]; omega
      · have HB := Lib.hid (HSN.out (fun g => hu (HU.out.1 (g j hj1 hlt))))
        have hu' : P2 + P3 < P1 := by omega
        go_wp2
        go_quiet (fail)
        go_wp2
        go_ret
        exact eq_post2 HB.out _ _ _
    · obtain rfl : j = k := by omega
      have HB := Lib.hid (HSY.out (fun x h1 h2 => HD.out x h1 h2))
      have hjk : ((j : Int) != j) = false := by simp
      go_wp2
      go_ret
      exact eq_post HB.out _ _

set_option maxHeartbeats 2000000 in
set_option maxRecDepth 20000 in
theorem l5Sees_dn (v : Value) (lo hi n : Nat) (Z : Nat → Int) (i k : Nat) (e : Int) (w : World) (hv : RdI lo hi w v n Z) (hok : PrOk n Z) (hik : k < i) (hk : i < n) (he : 0 ≤ e ∧ e ≤ 50) :
    Calls Try.prog 63 #[v, .int .i64 i, .int .i64 k, .int .i64 e] w (EqPost (seB Z i k e) w) := by
  have hn20 := hok.1.2
  obtain ⟨b, off, cap, rfl, hcap, _, _, hc⟩ := hv.open (by omega)
  have HC := Lib.hid hc
  have HZ := Lib.hid hok.2
  have ci := hc i hk
  have ck := hc k (by omega)
  obtain ⟨he1, he2⟩ := he
  obtain ⟨hzi1, hzi2⟩ := hok.2 i hk
  obtain ⟨hzk1, hzk2⟩ := hok.2 k (by omega)
  have HSY := Lib.hid (fun (h : Free Z k (Z k) i (Z i + e)) => seB_yes (z := Z) (i := i) (k := k) (e := e) ⟨fun h => by omega, fun _ => h⟩)
  have HSN := Lib.hid (fun (h : ¬ Free Z k (Z k) i (Z i + e)) => seB_no (z := Z) (i := i) (k := k) (e := e) (fun g => h (g.2 hik)))
  obtain ⟨zi, ezi⟩ : ∃ x, Z i = x := ⟨_, rfl⟩
  obtain ⟨zk, ezk⟩ : ∃ x, Z k = x := ⟨_, rfl⟩
  rw [ezi] at ci hzi1 hzi2 HSY HSN
  rw [ezk] at ck hzk1 hzk2 HSY HSN
  have hin : (i : Int) < n := by omega
  have hkn : (k : Int) < n := by omega
  have hne : ((i : Int) != k) = true := by rw [bne_iff_ne]; omega
  have hlt0 : (k : Int) < i := by omega
  clear hc hok hv ezi ezk
  go_enter Try.func63, Try.ntmps63
  go_wp2
  go_loopw [10] (fun j wr => ∃ jj m : Nat, k ≤ jj ∧ jj < i ∧ j = .int .i64 jj ∧ wr = w.drewN m ∧ ∀ x, jj < x → x < i → Und Z k zk i (zi + e) x) (fun j _ => (intOf j).toNat - k)
  case atStart =>
    obtain ⟨p, rfl⟩ : ∃ p, i = p + 1 := ⟨i - 1, by omega⟩
    exact ⟨p, 0, by omega, by omega, by go_num, rfl, fun x h1 h2 => by omega⟩
  case round =>
    obtain ⟨j, m, hj1, hj2, rfl, rfl, hd⟩ := hrel
    have HD := Lib.hid hd
    clear hd
    by_cases hlt : k < j
    · have cj := HC.out j (by omega)
      obtain ⟨hzj1, hzj2⟩ := HZ.out j (by omega)
      have HU := Lib.hid (show Und Z k zk i (zi + e) j ↔ Z j * -((k : Int) - i) ≤ -(zi + e) * ((k : Int) - j) + -zk * ((j : Int) - i) by unfold Und; rw [Int.neg_sub, Int.neg_mul, Int.neg_mul, ← Int.mul_neg, ← Int.mul_neg, Int.neg_sub, Int.neg_sub, Int.add_comm])
      obtain ⟨zj, ezj⟩ : ∃ x, Z j = x := ⟨_, rfl⟩
      rw [ezj] at cj hzj1 hzj2 HU
      obtain ⟨p1, p2⟩ := mul_rng zj (-((k : Int) - i)) (by omega) (by omega) (by omega) (by omega)
      obtain ⟨p3, p4⟩ := mul_rng (-(zi + e)) ((k : Int) - j) (by omega) (by omega) (by omega) (by omega)
      obtain ⟨p5, p6⟩ := mul_rng (-zk) ((j : Int) - i) (by omega) (by omega) (by omega) (by omega)
      obtain ⟨P1, e1⟩ : ∃ x, zj * -((k : Int) - i) = x := ⟨_, rfl⟩
      obtain ⟨P2, e2⟩ : ∃ x, -(zi + e) * ((k : Int) - j) = x := ⟨_, rfl⟩
      obtain ⟨P3, e3⟩ : ∃ x, -zk * ((j : Int) - i) = x := ⟨_, rfl⟩
      rw [e1, e2, e3] at HU
      rw [e1] at p1 p2
      rw [e2] at p3 p4
      rw [e3] at p5 p6
      have hjn : (j : Int) < n := by omega
      have hjk : ((j : Int) != k) = true := by rw [bne_iff_ne]; omega
      clear ezj
      by_cases hu : P1 ≤ P2 + P3
      · have HUU := Lib.hid (HU.out.2 hu)
        have hu' : ¬ P2 + P3 < P1 := by omega
        go_wp2
        go_quiet (fail)
        go_wp2
        go_roundw
        case rel =>
                       obtain ⟨q, rfl⟩ : ∃ q, j = q + 1 := ⟨j - 1, by omega⟩
                       exact ⟨q, m + nq, by omega, by omega, by go_num, rfl, fun x h1 h2 => by
          by_cases ex : x = q + 1
          · subst ex; exact HUU.out
          · exact HD.out x (by omega) h2⟩
        case measure => simp [intOf]; omega
      · have HB := Lib.hid (HSN.out (fun g => hu (HU.out.1 (g j hlt hj2))))
        have hu' : P2 + P3 < P1 := by omega
        go_wp2
        go_quiet (fail)
        go_wp2
        go_ret
        exact eq_post2 HB.out _ _ _
    · obtain rfl : j = k := by omega
      have HB := Lib.hid (HSY.out (fun x h1 h2 => HD.out x h1 h2))
      have hjk : ((j : Int) != j) = false := by simp
      go_wp2
      go_ret
      exact eq_post HB.out _ _

set_option maxHeartbeats 2000000 in
set_option maxRecDepth 20000 in
theorem l5Sees_at (v : Value) (lo hi n : Nat) (Z : Nat → Int) (i : Nat) (e : Int) (w : World) (hv : RdI lo hi w v n Z) (hok : PrOk n Z) (hi : i < n) :
    Calls Try.prog 63 #[v, .int .i64 i, .int .i64 i, .int .i64 e] w (EqPost (seB Z i i e) w) := by
  have hn20 := hok.1.2
  obtain ⟨ao, cap, rfl⟩ := hv.shape
  have HB := Lib.hid (seB_yes (sees_self Z i e))
  have hlt0 : ¬ (i : Int) < i := by omega
  have hne0 : ((i : Int) + 1 != i) = true := by rw [bne_iff_ne]; omega
  have hne : ((i : Int) != i) = false := by simp
  clear hok hv
  go_enter Try.func63, Try.ntmps63
  go_wp2
  refine wp_loop_rounds 1 ?_
  rw [rounds_succ]
  go_wp2
  go_ret
  exact eq_post0 HB.out _

theorem l5Sees_any (v : Value) (lo hi n : Nat) (Z : Nat → Int) (i k : Nat) (e : Int) (w : World) (hv : RdI lo hi w v n Z) (hok : PrOk n Z) (hi : i < n) (hk : k < n) (he : 0 ≤ e ∧ e ≤ 50) :
    Calls Try.prog 63 #[v, .int .i64 i, .int .i64 k, .int .i64 e] w (EqPost (seB Z i k e) w) := by
  by_cases h1 : i < k
  · exact l5Sees_up v lo _ n Z i k e w hv hok h1 hk he
  · by_cases h2 : k < i
    · exact l5Sees_dn v lo _ n Z i k e w hv hok h2 hi he
    · obtain rfl : i = k := by omega
      exact l5Sees_at v lo _ n Z i e w hv hok hi

end Go.Proofs.Ytgcebhmenffbjab
