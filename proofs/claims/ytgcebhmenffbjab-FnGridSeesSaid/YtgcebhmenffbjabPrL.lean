/- The hull, in the program. -/
import Derived.Test.YtgcebhmenffbjabPrK
namespace Go.Proofs.Ytgcebhmenffbjab
open Go.RowKit
set_option linter.unusedVariables false

theorem hul_not {n : Nat} {z : Nat → Int} {i k j : Nat} (h1 : i < j) (h2 : j < k) (h3 : k < n) (h : Und z i (z i) k (z k) j) : huB n z j = false := huB_no (fun g => g i k h1 h2 h3 h)

set_option maxHeartbeats 4000000 in
set_option maxRecDepth 20000 in
theorem onHull_any (v : Value) (lo hi n : Nat) (Z : Nat → Int) (j : Nat) (w : World) (hv : RdI lo hi w v n Z) (hok : PrOk n Z) (hh : hi ≤ w.heap.size) (hjn : j < n) :
    Calls Try.prog 72 #[v, .int .i64 j] w (BlPost (huB n Z j) w) := by
  have hn20 := hok.1.2
  have HE := Lib.hid (fun (W : World) (hb : Below w.heap.size w W) (x : Nat) (hx : x < n) => eyeAt_any v lo hi n Z x 0 W (hv.same (SameIn.below hb hh)) hok hx (by omega) (Nat.le_trans hh hb.size))
  have HRV := Lib.hid (fun (W : World) (hb : Below w.heap.size w W) => hv.same (SameIn.below hb hh))
  have HZ := Lib.hid hok.2
  have HOK := Lib.hid hok
  obtain ⟨va, vc, rfl⟩ := hv.shape
  have hcf := callFunc_sight
  simp only [Int.add_zero] at HE
  clear hv hok
  go_enter Try.func72, Try.ntmps72
  go_wp2
  go_loopw [9] (fun c wr => ∃ ii : Nat, ii ≤ j ∧ c = .int .i64 ii ∧ Below w.heap.size w wr ∧ ∀ i k, i < ii → j < k → k < n → ¬ Und Z i (Z i) k (Z k) j) (fun c _ => j - (intOf c).toNat)
  case atStart => exact ⟨0, Nat.zero_le _, rfl, Below.refl _ _, fun i k h => by omega⟩
  case round =>
    obtain ⟨i, hi', rfl, hb, hd⟩ := hrel
    have HD := Lib.hid hd
    have HB1 := Lib.hid hb
    clear hd hb
    by_cases hil : i < j
    · have hil' : (i : Int) < j := by omega
      go_wp2
      go_loopw [6] (fun c wr => ∃ kk : Nat, j < kk ∧ kk ≤ n ∧ c = .int .i64 kk ∧ Below w.heap.size w wr ∧ ∀ k, j < k → k < kk → ¬ Und Z i (Z i) k (Z k) j) (fun c _ => n - (intOf c).toNat)
      case atStart => exact ⟨j + 1, by omega, by omega, by go_num, HB1.out, fun k h1 h2 => by omega⟩
      case round =>
        obtain ⟨k, hk1, hk2, rfl, hb, hd⟩ := hrel
        have HK := Lib.hid hd
        have HB2 := Lib.hid hb
        clear hd hb
        by_cases hkl : k < n
        · have hkl' : (k : Int) < n := by omega
          have hz1 := HZ.out i (by omega)
          have hz2 := HZ.out k hkl
          have HND := Lib.hid (fun (h : Und Z i (Z i) k (Z k) j) => hul_not hil hk1 hkl h)
          obtain ⟨zi, ezi⟩ : ∃ x, Z i = x := ⟨_, rfl⟩
          have HE1 := Lib.hid (HE.out _ HB2.out i (by omega))
          rw [ezi] at HE1 hz1
          go_wp2_with fail
          refine HE1.out.mono ?_
          rintro e w1 ⟨rfl, hb1⟩
          have HB3 := Lib.hid (HB2.out.trans (hb1.mono HB2.out.size))
          clear hb1 HE1
          have HE2 := Lib.hid (HE.out _ HB3.out k hkl)
          obtain ⟨zk, ezk⟩ : ∃ x, Z k = x := ⟨_, rfl⟩
          rw [ezk] at HE2 hz2
          have EZI := Lib.hid ezi
          have EZK := Lib.hid ezk
          clear ezi ezk
          go_wp2_with fail
          refine HE2.out.mono ?_
          rintro e w2 ⟨rfl, hb2⟩
          have HB4 := Lib.hid (HB3.out.trans (hb2.mono HB3.out.size))
          clear hb2 HE2
          go_wp2_with fail
          refine (sight_any _ _ _ i k zi zk _).mono ?_
          rintro e w3 ⟨rfl, rfl⟩
          have hsz := HB4.out.size
          have hb3 := (((Below.refl w2.heap.size w2).alloc (Nat.le_refl _) (.cells #[.slice va n vc] 58)).alloc (by simp) (.cells #[.int .i64 i, .int .i64 zi] 70)).alloc (by simp; omega) (.cells #[.int .i64 k, .int .i64 zk] 70)
          obtain ⟨q1, q2, q3⟩ := three_boxes w2 (.cells #[.slice va n vc] 58) (.cells #[.int .i64 i, .int .i64 zi] 70) (.cells #[.int .i64 k, .int .i64 zk] 70)
          have kP := cell_of_one q1
          obtain ⟨kA0, kA1, _, _⟩ := cells2e q2
          obtain ⟨kB0, kB1, _, _⟩ := cells2e q3
          have HB5 := Lib.hid (HB4.out.trans (hb3.mono hsz))
          generalize hW3 : ((w2.alloc (.cells #[.slice va n vc] 58)).alloc (.cells #[.int .i64 i, .int .i64 zi] 70)).alloc (.cells #[.int .i64 k, .int .i64 zk] 70) = W3 at *
          have HC := Lib.hid (clos_sight (.slice va n vc) lo _ n Z (w2.heap.size + 1) (w2.heap.size + 2) w2.heap.size i k j zi zk W3 (HRV.out W3 HB5.out) HOK.out hjn (by omega) (by omega) hkl (by omega) (by omega) kP kA0 kA1 kB0 kB1)
          clear hW3 hb3 q1 q2 q3 kP kA0 kA1 kB0 kB1 hsz
          by_cases hu : Und Z i zi k zk j
          · have HQ := Lib.hid (unB_yes hu)
            have HF := Lib.hid (HND.out (by rw [EZI.out, EZK.out]; exact hu))
            clear hu
            go_wp2_with fail
            refine HC.out.mono ?_
            rintro e w4 ⟨rfl, m4, rfl⟩
            rw [HQ.out]
            go_wp2
            go_ret
            exact bl_post HF.out (below_drewN HB5.out _)
          · have HQ := Lib.hid (unB_no hu)
            have HU := Lib.hid (show ¬ Und Z i (Z i) k (Z k) j by rw [EZI.out, EZK.out]; exact hu)
            clear hu
            go_wp2_with fail
            refine HC.out.mono ?_
            rintro e w4 ⟨rfl, m4, rfl⟩
            rw [HQ.out]
            go_wp2
            go_roundw
            case rel => exact ⟨k + 1, by omega, by omega, by go_num, below_drewN HB5.out _, fun x h1 h2 => by
              by_cases ex : x = k
              · subst ex; exact HU.out
              · exact HK.out x h1 (by omega)⟩
            case measure => simp [intOf]; omega
        · obtain rfl : k = n := by omega
          go_wp2
          go_roundw
          case rel => exact ⟨i + 1, by omega, by go_num, HB2.out, fun x y h1 h2 h3 => by
            by_cases ex : x = i
            · subst ex; exact HK.out y h2 h3
            · exact HD.out x y (by omega) h2 h3⟩
          case measure => simp [intOf]; omega
    · obtain rfl : i = j := by omega
      have HF := Lib.hid (huB_yes (n := n) (z := Z) (j := i) (fun a b h1 h2 h3 => HD.out a b h1 h2 h3))
      go_wp2
      go_ret
      exact bl_post HF.out HB1.out

end Go.Proofs.Ytgcebhmenffbjab
