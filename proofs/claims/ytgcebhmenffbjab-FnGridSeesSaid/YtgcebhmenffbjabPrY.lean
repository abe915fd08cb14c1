/- Profiles of the program: the eye, the hull, the best point. -/
import Derived.Test.YtgcebhmenffbjabPrV
namespace Go.Proofs.Ytgcebhmenffbjab
open Go.RowKit
set_option linter.unusedVariables false

set_option maxHeartbeats 4000000 in
set_option maxRecDepth 20000 in
theorem implProfileEye_any (v : Value) (lo hi n : Nat) (Z : Nat → Int) (i k : Int) (w : World) (hv : RdI lo hi w v n Z) (hh : hi ≤ w.heap.size) (hi64 : I64 i) (hk64 : I64 k) :
    Calls Try.prog 28 #[v, .int .i64 i, .int .i64 k] w (IntPost (eyV n Z i k) w) := by
  have hb0 := (Below.refl w.heap.size w).alloc (Nat.le_refl _) (.cells #[.int .i64 i, .int .i64 k] 3)
  have hv1 := hv.same (SameIn.below hb0 hh)
  have HB0 := Lib.hid hb0
  by_cases h : PrAt n Z i ∧ PrAt n Z k
  · have HC := Lib.hid (profileWith_yes v (.slice (some ⟨w.heap.size, 0, none⟩) 2 2) lo hi w.heap.size (w.heap.size + 1) n 2 Z _ _ hv1 (rd_two w i k hi64 hk64) (by omega) h.1.1 (fun j hj => by
      by_cases e : j = 0
      · simp only [e, if_true]; exact h.1.2
      · simp only [e, if_false]; exact h.2.2))
    obtain ⟨x, rfl, hx⟩ := h.1.nat
    obtain ⟨y, rfl, hy⟩ := h.2.nat
    have HZ := Lib.hid h.1.1.2
    have HE := Lib.hid (fun (W : World) (hb : Below w.heap.size w W) (m : Nat) (hm : m ≤ 50) => eyeAt_any v lo hi n Z x m W (hv.same (SameIn.below hb hh)) h.1.1 hx (by omega) (Nat.le_trans hh hb.size))
    have HE2 := Lib.hid (fun (W : World) (hb : Below w.heap.size w W) => eyeAt_any v lo hi n Z y 0 W (hv.same (SameIn.below hb hh)) h.1.1 hy (by omega) (Nat.le_trans hh hb.size))
    simp only [Int.add_zero] at HE2
    have HF := Lib.hid (fun (W : World) (hb : Below w.heap.size w W) (m : Nat) (hm : m ≤ 50) => show Calls Try.prog 70 #[v, .agg #[.int .i64 x, .int .i64 (Z x + m)], .agg #[.int .i64 y, .int .i64 (Z y)]] W (BlPost (seB Z x y m) W) from by
      rw [← fsB_se]
      exact isFree_any v lo hi n Z x y (Z x + m) (Z y) W (hv.same (SameIn.below hb hh)) h.1.1 (Nat.le_trans hh hb.size) hx hy (by have := HZ.out x hx; omega) (by have := HZ.out y hy; omega))
    have HA := Lib.hid (fun (m : Int) (g : IsEye Z x y m) => eyV_is h.1 h.2 g)
    obtain ⟨zx, ezx⟩ : ∃ q, Z x = q := ⟨_, rfl⟩
    obtain ⟨zy, ezy⟩ : ∃ q, Z y = q := ⟨_, rfl⟩
    rw [ezx] at HE HF
    rw [ezy] at HE2 HF
    obtain ⟨va, vc, rfl⟩ := hv.shape
    clear hv h hv1 hb0 ezx ezy HZ
    go_enter Try.func28, Try.ntmps28
    go_wp2_with fail
    refine HC.out.mono ?_
    rintro e w1 ⟨rfl, rfl⟩
    go_wp2
    go_loopw [20] (fun c wr => ∃ m : Nat, m ≤ 51 ∧ c = .int .i64 m ∧ Below w.heap.size w wr ∧ ∀ e : Int, 0 ≤ e → e < m → ¬ Sees Z x y e) (fun c _ => 51 - (intOf c).toNat)
    case atStart => exact ⟨0, by omega, rfl, HB0.out, fun e h1 h2 => by omega⟩
    case round =>
      obtain ⟨m, hm, rfl, hb, hd⟩ := hrel
      have HD := Lib.hid hd
      have HB1 := Lib.hid hb
      clear hd hb
      by_cases hlt : m < 51
      · have hlt' : (m : Int) < 51 := by omega
        have HE1 := Lib.hid (HE.out _ HB1.out m (by omega))
        go_wp2_with fail
        refine HE1.out.mono ?_
        rintro e w3 ⟨rfl, hb3⟩
        have HB3 := Lib.hid (HB1.out.trans (hb3.mono HB1.out.size))
        clear hb3 HE1
        go_wp2_with fail
        refine (HE2.out _ HB3.out).mono ?_
        rintro e w4 ⟨rfl, hb4⟩
        have HB4 := Lib.hid (HB3.out.trans (hb4.mono HB3.out.size))
        clear hb4
        by_cases hs : Sees Z x y m
        · have HQ := Lib.hid (seB_yes hs)
          have HN := Lib.hid (HA.out m (Or.inl ⟨by omega, by omega, hs, fun e h1 h2 => HD.out e h1 h2⟩))
          clear hs
          go_wp2_with fail
          refine (HF.out _ HB4.out m (by omega)).mono ?_
          rintro e w5 ⟨rfl, hb5⟩
          have HB5 := Lib.hid (HB4.out.trans (hb5.mono HB4.out.size))
          clear hb5
          rw [HQ.out]
          go_wp2
          go_ret
          exact ⟨by rw [HN.out]; rfl, HB5.out⟩
        · have HQ := Lib.hid (seB_no hs)
          have HN := Lib.hid hs
          clear hs
          go_wp2_with fail
          refine (HF.out _ HB4.out m (by omega)).mono ?_
          rintro e w5 ⟨rfl, hb5⟩
          have HB5 := Lib.hid (HB4.out.trans (hb5.mono HB4.out.size))
          clear hb5
          rw [HQ.out]
          go_wp2
          go_roundw
          case rel => exact ⟨m + 1, by omega, by go_num, HB5.out, fun e h1 h2 => by
            by_cases ex : e = m
            · subst ex; exact HN.out
            · exact HD.out e h1 (by omega)⟩
          case measure => simp [intOf]; omega
      · have hlt' : ¬ (m : Int) < 51 := by omega
        have HN := Lib.hid (HA.out (-1) (Or.inr ⟨rfl, fun e h1 h2 => HD.out e h1 (by omega)⟩))
        go_wp2
        go_ret
        exact ⟨by rw [HN.out]; rfl, HB1.out⟩
  · have HC := Lib.hid (profileWith_no v (.slice (some ⟨w.heap.size, 0, none⟩) 2 2) lo hi w.heap.size (w.heap.size + 1) n 2 Z _ _ hv1 (rd_two w i k hi64 hk64) (by omega) (fun g => h (by
      have g0 := g.2 0 (by omega)
      have g1 := g.2 1 (by omega)
      simp at g0 g1
      exact ⟨⟨g.1, g0⟩, ⟨g.1, g1⟩⟩)))
    have HA := Lib.hid (eyV_no (n := n) (z := Z) (i := i) (k := k) h)
    obtain ⟨va, vc, rfl⟩ := hv.shape
    clear hv h hv1 hb0
    go_enter Try.func28, Try.ntmps28
    go_wp2_with fail
    refine HC.out.mono ?_
    rintro e w1 ⟨rfl, rfl⟩
    go_wp2
    go_ret
    exact ⟨by rw [HA.out]; rfl, HB0.out⟩

set_option maxHeartbeats 4000000 in
set_option maxRecDepth 20000 in
theorem implProfileHull_any (v : Value) (lo hi n : Nat) (Z : Nat → Int) (w : World) (hv : RdI lo hi w v n Z) (hh : hi ≤ w.heap.size) :
    Calls Try.prog 32 #[v] w (NbPost (prB n Z) (hlV n Z) w) := by
  obtain ⟨i0, hi0, hz0, hz1, hz2⟩ := info_parts Try.infoI
  by_cases hok : PrOk n Z
  · have HP := Lib.hid (prB_yes hok)
    have HA := Lib.hid (hlV_yes hok)
    have HC := Lib.hid (profileOf_yes v lo hi n Z w hv hok)
    have hn20 := hok.1.2
    have HS := Lib.hid (fun (W : World) (hb : Below w.heap.size w W) (k : Nat) (hk : k < n) => onHull_any v lo hi n Z k W (hv.same (SameIn.below hb hh)) hok (Nat.le_trans hh hb.size) hk)
    obtain ⟨va, vc, rfl⟩ := hv.shape
    clear hv hok
    go_enter Try.func32, Try.ntmps32
    go_wp2_with fail
    refine HC.out.mono ?_
    rintro e w1 ⟨rfl, rfl⟩
    go_wp2
    go_loopw [6, 17] (fun o c wr => ∃ (kk : Nat) (u : Value), kk ≤ n ∧ c = .int .i64 kk ∧ u = o ∧ Nums w.heap.size wr u (huL n Z kk) ∧ Below w.heap.size w wr) (fun _ c _ => n - (intOf c).toNat)
    case atStart => exact ⟨0, _, Nat.zero_le _, rfl, rfl, nums_none _ _, Below.refl _ _⟩
    case round =>
      obtain ⟨kk, u, hk, rfl, rfl, hli, hb⟩ := hrel
      have HB1 := Lib.hid hb
      have HLI := Lib.hid hli
      have hln := huL_len n Z kk
      clear hb hli
      by_cases hlt : kk < n
      · have hlt' : (kk : Int) < n := by omega
        by_cases hs : Hul n Z kk
        · have HQ := Lib.hid (huB_yes hs)
          have HL := Lib.hid (huL_yes hs)
          obtain ⟨L, eL⟩ : ∃ L, huL n Z kk = L := ⟨_, rfl⟩
          rw [eL] at HLI HL hln
          clear hs eL
          go_wp2_with fail
          refine (HS.out _ HB1.out kk hlt).mono ?_
          rintro e w3 ⟨rfl, hb3⟩
          rw [HQ.out]
          have HB3 := Lib.hid (HB1.out.trans (hb3.mono HB1.out.size))
          have HLN := Lib.hid (HLI.out.below hb3 (Nat.le_refl _))
          have hs3 := HB3.out.size
          clear hb3 HLI
          go_wp2_with (first | (at_builtin; refine wpList_append_own _ rfl _ _ 23 rfl w.heap.size 3 i0 (.int .i64 0) 1 8 Try.underlying23 hi0 hz0 hz1 hz2 rfl (by decide) _ L.length (nsV L) rfl (HLN.out.alloc _) ⟨w3.heap.size, 0, none⟩ 1 1 [.int .i64 kk] rfl rfl (World.news_of_block (cs := #[.int .i64 kk]) (t := 3) (fr := (0, 0)) (heap_alloc_new w3 _)) (by simp [Value.oneCell']) (by unfold maxLen; omega) (by omega) (by simp; omega) ?_; intro v' w4 hown4 hg4 _))
          have HB4 := Lib.hid ((HB3.out.alloc HB3.out.size (.cells #[.int .i64 kk] 3)).grown hg4 (by simp; have := HB3.out.size; omega) (fun k hk => (HLN.out.lt k hk).1))
          have HL4 := Lib.hid (nums_push (L := L) (x := kk) hown4)
          clear hown4 hg4 HLN
          go_wp2
          go_roundw
          case rel => exact ⟨kk + 1, _, by omega, by go_num, rfl, by rw [HL.out]; exact HL4.out, HB4.out⟩
          case measure => simp [intOf]; omega
        · have HQ := Lib.hid (huB_no hs)
          have HL := Lib.hid (huL_no hs)
          clear hs
          go_wp2_with fail
          refine (HS.out _ HB1.out kk hlt).mono ?_
          rintro e w3 ⟨rfl, hb3⟩
          rw [HQ.out]
          have HB3 := Lib.hid (HB1.out.trans (hb3.mono HB1.out.size))
          have HLN := Lib.hid (HLI.out.below hb3 (Nat.le_refl _))
          clear hb3 HLI
          go_wp2
          go_roundw
          case rel => exact ⟨kk + 1, _, by omega, by go_num, rfl, by rw [HL.out]; exact HLN.out, HB3.out⟩
          case measure => simp [intOf]; omega
      · obtain rfl : kk = n := by omega
        go_wp2
        go_ret2
        exact NbPost.mk' HP.out HA.out HLI.out HB1.out
  · have HP := Lib.hid (prB_no hok)
    have HA := Lib.hid (hlV_no hok)
    have HC := Lib.hid (profileOf_no v lo hi n Z w hv hok)
    obtain ⟨va, vc, rfl⟩ := hv.shape
    clear hv hok
    go_enter Try.func32, Try.ntmps32
    go_wp2_with fail
    refine HC.out.mono ?_
    rintro e w1 ⟨rfl, rfl⟩
    go_wp2
    go_ret2
    exact NbPost.mk' HP.out HA.out (nums_none _ _) (Below.refl _ _)

end Go.Proofs.Ytgcebhmenffbjab
