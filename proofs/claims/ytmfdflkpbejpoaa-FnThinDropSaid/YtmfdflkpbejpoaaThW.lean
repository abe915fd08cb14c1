/- Thinned lines of the model: the best and the greedy points. -/
import Derived.Test.YtmfdflkpbejpoaaThV
namespace Go.Proofs.Ytmfdflkpbejpoaa
open Go.RowKit
set_option linter.unusedVariables false

theorem nums_one (w : World) (x : Int) : Nums w.heap.size (w.alloc (.cells #[.int .i64 x] 3)) (.slice (some ⟨w.heap.size, 0, none⟩) 1 1) [x] := World.ownsRow_lit w #[.int .i64 x] 1 (Nat.le_refl _) (by decide) (by simp)
theorem Nums.down {B B' : Nat} {w : World} {v : Value} {l : List Int} (h : Nums B w v l) (hB : B' ≤ B) : Nums B' w v l := ownsRow_base h hB

set_option maxHeartbeats 4000000 in
set_option maxRecDepth 20000 in
theorem specThinBest_yes (v : Value) (lo hi n : Nat) (Z : Nat → Int) (e : Int) (w : World) (hv : RdI lo hi w v n Z) (hh : hi ≤ w.heap.size) (hok : PrOk n Z) (he : ErOk e) :
    Calls Try.prog 29 #[v, .int .i64 e] w (NbPost true (beL n Z e 0) w) := by
  have hn20 := hok.1.2
  have hn1 := hok.1.1
  have HF := Lib.hid (by
    have h1 := specThinFewest_any v lo hi n Z e w hv hh
    rw [fwV_yes ⟨hok, he⟩] at h1
    exact h1 : Calls Try.prog 26 #[v, .int .i64 e] w (IntPost (coV n Z e 0 : Nat) w))
  have HCO := Lib.hid (fun (W : World) (hb : Below w.heap.size w W) => l6hCosts_any v lo hi n Z e W (hv.same (SameIn.below hb hh)) (Nat.le_trans hh hb.size) hok he)
  have HM := Lib.hid (fun (W : World) (hb : Below w.heap.size w W) (i k : Nat) (h1 : i < k) (h2 : k < n) => l6hMost_q v lo hi n Z i k W (hv.same (SameIn.below hb hh)) hok h1 h2)
  have HR := Lib.hid (fun (a b : Nat) (hab : a < b) (hbn : b < n) => (⟨erB_nonneg Z a b, erB_top hok.2 hn20 hab hbn⟩ : 0 ≤ erB Z a b ∧ erB Z a b ≤ 99))
  have HQ := Lib.hid (fun (i : Nat) (hi : i < n) => coV_pos n Z e i hi)
  have HRU := Lib.hid (nxV_rul (n := n) (z := Z) he.1)
  have HGY := Lib.hid (fun (i t : Nat) (h : Stp n Z e i (i + 1 + t)) (hc : coV n Z e (i + 1 + t) + 1 = coV n Z e i) => nxG_yes h hc)
  have HGN := Lib.hid (fun (i t : Nat) (h : ¬ (Stp n Z e i (i + 1 + t) ∧ coV n Z e (i + 1 + t) + 1 = coV n Z e i)) => nxG_no h)
  have HNX := Lib.hid (fun (i : Nat) => (show nxV n Z e i = nxG n Z e i (n - i - 1) from rfl))
  have HEND := Lib.hid (show beL n Z e 0 = lnL n (nxV n Z e) 0 from rfl)
  obtain ⟨i0, hi0, hz0, hz1, hz2⟩ := info_parts Try.infoI
  obtain ⟨va, vc, rfl⟩ := hv.shape
  have hC0 := (coV_pos n Z e 0 (by omega)).1
  obtain ⟨C0, eC0⟩ : ∃ C0, coV n Z e 0 = C0 := ⟨_, rfl⟩
  rw [eC0] at HF hC0
  clear hv hok he eC0
  go_enter Try.func29, Try.ntmps29
  go_wp2_with fail
  refine HF.out.mono ?_
  rintro e' w1 ⟨rfl, hb1⟩
  have hs1 := hb1.size
  have HB1 := Lib.hid hb1
  have HC1 := Lib.hid (HCO.out _ hb1)
  have hC0' : ¬ (C0 : Int) < 0 := by omega
  clear hb1
  go_wp2_with fail
  refine HC1.out.mono ?_
  rintro e' w2 ⟨B, rfl, hB1, hB2, hcs, hb2⟩
  have HCS := Lib.hid hcs
  have HB2 := Lib.hid (HB1.out.trans (hb2.mono HB1.out.size))
  have hs2 := hb2.size
  have k1 := nums_one w2 0
  have kb : Below w2.heap.size w2 (w2.alloc (.cells #[.int .i64 0] 3)) := (Below.refl _ _).alloc (Nat.le_refl _) _
  have HK1 := Lib.hid k1
  have HKB := Lib.hid kb
  clear hcs hb2 k1 kb
  go_wp2
  go_loopw [7, 8] (fun o c wr => ∃ (i : Nat) (x : Value) (L : List Int), i < n ∧ c = .int .i64 i ∧ x = o ∧ Nums w2.heap.size wr x L ∧ Lnr n (nxV n Z e) i L ∧ Below w2.heap.size w2 wr) (fun _ c _ => n - (intOf c).toNat)
  case atStart => exact ⟨0, _, [0], by omega, rfl, rfl, HK1.out, lnr_start HRU.out, HKB.out⟩
  case round =>
    obtain ⟨i, x, L, hin, rfl, rfl, hli, hln, hb⟩ := hrel
    have HLI := Lib.hid hli
    have HLN := Lib.hid hln
    have HB3 := Lib.hid hb
    have hlen := hln.len
    clear hli hln hb
    by_cases hlt : i + 1 < n
    · have hlt' : (i : Int) < (n : Int) - 1 := by omega
      have hmi := (HRU.out i hlt).1
      have hmn := (HRU.out i hlt).2
      go_wp2
      go_loopw [9, 10] (fun nx c wr2 => ∃ (t : Nat), i + 1 + t ≤ n ∧ c = .int .i64 ((i + 1 + t : Nat) : Int) ∧ nx = .int .i64 ((nxG n Z e i t : Nat) : Int) ∧ Nums w2.heap.size wr2 x L ∧ Below w2.heap.size w2 wr2) (fun _ c _ => n - (intOf c).toNat)
      case atStart => exact ⟨0, by omega, by go_num, rfl, HLI.out, HB3.out⟩
      case round =>
        obtain ⟨t, ht, rfl, rfl, hli, hb⟩ := hrel
        have HLI2 := Lib.hid hli
        have HB4 := Lib.hid hb
        have hs4 := hb.size
        clear hli hb
        obtain ⟨k, ek⟩ : ∃ k, k = i + 1 + t := ⟨_, rfl⟩
        have HGY1 := Lib.hid (HGY.out i t)
        have HGN1 := Lib.hid (HGN.out i t)
        rw [← ek] at HGY1 HGN1 ⊢
        have HEK := Lib.hid ek
        clear ek
        by_cases hkn : k < n
        · have hkn' : (k : Int) < n := by omega
          have hik : i < k := by have := HEK.out; omega
          have c1 := (HB4.out.cell (p := ⟨B, k, none⟩) hB2).trans (HCS.out k hkn)
          have c2 := (HB4.out.cell (p := ⟨B, i, none⟩) hB2).trans (HCS.out i hin)
          have HC := Lib.hid (fun (m : Nat) => HM.out (wr.drewN m) (below_drewN (HB2.out.trans (HB4.out.mono HB2.out.size)) m) i k hik hkn)
          obtain ⟨hr1, hr2⟩ := HR.out i k hik hkn
          obtain ⟨hq1, hq2⟩ := HQ.out k hkn
          obtain ⟨hq3, hq4⟩ := HQ.out i hin
          have HST := Lib.hid (show Stp n Z e i k ↔ erB Z i k ≤ e from ⟨fun h => h.2.2, fun h => ⟨hik, hkn, h⟩⟩)
          obtain ⟨E, eE⟩ : ∃ E, erB Z i k = E := ⟨_, rfl⟩
          rw [eE] at hr1 hr2 HC HST
          obtain ⟨Q, eQ⟩ : ∃ Q, coV n Z e k = Q := ⟨_, rfl⟩
          obtain ⟨A, eA⟩ : ∃ A, coV n Z e i = A := ⟨_, rfl⟩
          obtain ⟨G, eG⟩ : ∃ G, nxG n Z e i t = G := ⟨_, rfl⟩
          rw [eQ] at hq1 hq2 c1 HGY1 HGN1
          rw [eA] at hq3 hq4 c2 HGY1 HGN1
          rw [eG] at HGN1 ⊢
          clear eE eQ eA eG
          have hBl : B < wr.heap.size := by omega
          have hin' : (i : Int) < n := by omega
          have hwQ : IntKind.i64.wrap ((Q : Int) + 1) = (Q : Int) + 1 := IntWalk.i64_in _ (by omega)
          have HL5 := Lib.hid (fun (m : Nat) => HLI2.out.below (below_drewN (Below.refl wr.heap.size wr) m) (Nat.le_refl _))
          have HB5 := Lib.hid (fun (m : Nat) => below_drewN HB4.out m)
          by_cases hs : E ≤ e
          · by_cases hc : Q + 1 = A
            · have HN := Lib.hid (HGY1.out (HST.out.2 hs) hc)
              have hb' : ((Q : Int) + 1 == (A : Int)) = true := by rw [beq_iff_eq]; omega
              have HCC := Lib.hid hc
              clear hc
              go_wp2_with fail
              go_quiet ((go_at_call 57; exact Calls.quiet_of (HC.out _)))
              go_wp2
              go_roundw
              case rel => exact ⟨t + 1, by have := HEK.out; omega, by rw [show i + 1 + (t + 1) = k + 1 by have := HEK.out; omega]; go_num, by rw [HN.out], HL5.out _, HB5.out _⟩
              case measure => simp [intOf]; omega
            · have HN := Lib.hid (HGN1.out (fun g => hc g.2))
              have hb' : ((Q : Int) + 1 == (A : Int)) = false := by rw [beq_eq_false_iff_ne]; omega
              have HCC := Lib.hid hc
              clear hc
              go_wp2_with fail
              go_quiet ((go_at_call 57; exact Calls.quiet_of (HC.out _)))
              go_wp2
              go_roundw
              case rel => exact ⟨t + 1, by have := HEK.out; omega, by rw [show i + 1 + (t + 1) = k + 1 by have := HEK.out; omega]; go_num, by rw [HN.out], HL5.out _, HB5.out _⟩
              case measure => simp [intOf]; omega
          · have HN := Lib.hid (HGN1.out (fun g => hs (HST.out.1 g.1)))
            have hd : decide (E ≤ e) = false := by simp; omega
            go_wp2_with fail
            go_quiet ((go_at_call 57; exact Calls.quiet_of (HC.out _)))
            go_wp2
            go_roundw
            case rel => exact ⟨t + 1, by have := HEK.out; omega, by rw [show i + 1 + (t + 1) = k + 1 by have := HEK.out; omega]; go_num, by rw [HN.out], HL5.out _, HB5.out _⟩
            case measure => simp [intOf]; omega
        · have hkn' : ¬ (k : Int) < n := by omega
          have HNV := Lib.hid (show nxG n Z e i t = nxV n Z e i by rw [HNX.out, show n - i - 1 = t by have := HEK.out; omega])
          have HL6 := Lib.hid (HLN.out.step HRU.out hlt)
          rw [HNV.out]
          obtain ⟨q, eq⟩ : ∃ q, nxV n Z e i = q := ⟨_, rfl⟩
          rw [eq] at HL6 hmi hmn ⊢
          have hs5 := HB4.out.size
          clear eq
          go_wp2_with (first | (at_builtin; refine wpList_append_own _ rfl _ _ 23 rfl w2.heap.size 3 i0 (.int .i64 0) 1 8 Try.underlying23 hi0 hz0 hz1 hz2 rfl (by decide) _ L.length (nsV L) rfl (HLI2.out.alloc _) ⟨wr.heap.size, 0, none⟩ 1 1 [.int .i64 q] rfl rfl (World.news_of_block (cs := #[.int .i64 q]) (t := 3) (fr := (0, 0)) (heap_alloc_new wr _)) (by simp [Value.oneCell']) (by unfold maxLen; omega) (by omega) (by simp; omega) ?_; intro v' w4 hown4 hg4 _))
          have HB7 := Lib.hid ((HB4.out.alloc HB4.out.size (.cells #[.int .i64 q] 3)).grown hg4 (by simp; have := HB4.out.size; omega) (fun k hk => (HLI2.out.lt k hk).1))
          have HL7 := Lib.hid (nums_push (L := L) (x := q) hown4)
          clear hown4 hg4
          go_wp2
          go_roundw
          case rel => exact ⟨q, _, _, by omega, by go_num, rfl, HL7.out, HL6.out, HB7.out⟩
          case measure => simp [intOf]; omega
    · have hlt' : ¬ (i : Int) < (n : Int) - 1 := by omega
      have HF2 := Lib.hid (show L = beL n Z e 0 by rw [HEND.out]; exact HLN.out.last hlt)
      have HB5 := Lib.hid (HB2.out.trans (HB3.out.mono HB2.out.size))
      have hd : w.heap.size ≤ w2.heap.size := by omega
      go_wp2
      go_ret2
      exact NbPost.mk' rfl HF2.out.symm (HLI.out.down hd) HB5.out

set_option maxHeartbeats 4000000 in
set_option maxRecDepth 20000 in
theorem specThinGreedy_yes (v : Value) (lo hi n : Nat) (Z : Nat → Int) (e : Int) (w : World) (hv : RdI lo hi w v n Z) (hh : hi ≤ w.heap.size) (hok : PrOk n Z) (he : ErOk e) :
    Calls Try.prog 34 #[v, .int .i64 e] w (NbPost true (gyL n Z e) w) := by
  have hn20 := hok.1.2
  have hn1 := hok.1.1
  have HF := Lib.hid (by
    have h1 := specThinFewest_any v lo hi n Z e w hv hh
    rw [fwV_yes ⟨hok, he⟩] at h1
    exact h1 : Calls Try.prog 26 #[v, .int .i64 e] w (IntPost (coV n Z e 0 : Nat) w))
  have HM := Lib.hid (fun (W : World) (hb : Below w.heap.size w W) (i k : Nat) (h1 : i < k) (h2 : k < n) => l6hMost_any v lo hi n Z i k W (hv.same (SameIn.below hb hh)) (Nat.le_trans hh hb.size) hok h1 h2)
  have HR := Lib.hid (fun (a b : Nat) (hab : a < b) (hbn : b < n) => (⟨erB_nonneg Z a b, erB_top hok.2 hn20 hab hbn⟩ : 0 ≤ erB Z a b ∧ erB Z a b ≤ 99))
  have HRU := Lib.hid (grV_rul (n := n) (z := Z) he.1)
  have HGY := Lib.hid (fun (i t : Nat) (h : Stp n Z e i (i + 1 + t)) => grG_yes h)
  have HGN := Lib.hid (fun (i t : Nat) (h : ¬ Stp n Z e i (i + 1 + t)) => grG_no h)
  have HNX := Lib.hid (fun (i : Nat) => (show grV n Z e i = grG n Z e i (n - i - 1) from rfl))
  have HEND := Lib.hid (show gyL n Z e = lnL n (grV n Z e) 0 from rfl)
  obtain ⟨i0, hi0, hz0, hz1, hz2⟩ := info_parts Try.infoI
  obtain ⟨va, vc, rfl⟩ := hv.shape
  have hC0 := (coV_pos n Z e 0 (by omega)).1
  obtain ⟨C0, eC0⟩ : ∃ C0, coV n Z e 0 = C0 := ⟨_, rfl⟩
  rw [eC0] at HF hC0
  clear hv hok he eC0
  go_enter Try.func34, Try.ntmps34
  go_wp2_with fail
  refine HF.out.mono ?_
  rintro e' w2 ⟨rfl, hb1⟩
  have hs2 := hb1.size
  have HB2 := Lib.hid hb1
  have hC0' : ¬ (C0 : Int) < 0 := by omega
  have k1 := nums_one w2 0
  have kb : Below w2.heap.size w2 (w2.alloc (.cells #[.int .i64 0] 3)) := (Below.refl _ _).alloc (Nat.le_refl _) _
  have HK1 := Lib.hid k1
  have HKB := Lib.hid kb
  clear hb1 k1 kb
  go_wp2
  go_loopw [6, 7] (fun o c wr => ∃ (i : Nat) (x : Value) (L : List Int), i < n ∧ c = .int .i64 i ∧ x = o ∧ Nums w2.heap.size wr x L ∧ Lnr n (grV n Z e) i L ∧ Below w2.heap.size w2 wr) (fun _ c _ => n - (intOf c).toNat)
  case atStart => exact ⟨0, _, [0], by omega, rfl, rfl, HK1.out, lnr_start HRU.out, HKB.out⟩
  case round =>
    obtain ⟨i, x, L, hin, rfl, rfl, hli, hln, hb⟩ := hrel
    have HLI := Lib.hid hli
    have HLN := Lib.hid hln
    have HB3 := Lib.hid hb
    have hlen := hln.len
    clear hli hln hb
    by_cases hlt : i + 1 < n
    · have hlt' : (i : Int) < (n : Int) - 1 := by omega
      have hmi := (HRU.out i hlt).1
      have hmn := (HRU.out i hlt).2
      go_wp2
      go_loopw [8, 9] (fun nx c wr2 => ∃ (t : Nat), i + 1 + t ≤ n ∧ c = .int .i64 ((i + 1 + t : Nat) : Int) ∧ nx = .int .i64 ((grG n Z e i t : Nat) : Int) ∧ Nums w2.heap.size wr2 x L ∧ Below w2.heap.size w2 wr2) (fun _ c _ => n - (intOf c).toNat)
      case atStart => exact ⟨0, by omega, by go_num, rfl, HLI.out, HB3.out⟩
      case round =>
        obtain ⟨t, ht, rfl, rfl, hli, hb⟩ := hrel
        have HLI2 := Lib.hid hli
        have HB4 := Lib.hid hb
        have hs4 := hb.size
        clear hli hb
        obtain ⟨k, ek⟩ : ∃ k, k = i + 1 + t := ⟨_, rfl⟩
        have HGY1 := Lib.hid (HGY.out i t)
        have HGN1 := Lib.hid (HGN.out i t)
        rw [← ek] at HGY1 HGN1 ⊢
        have HEK := Lib.hid ek
        clear ek
        by_cases hkn : k < n
        · have hkn' : (k : Int) < n := by omega
          have hik : i < k := by have := HEK.out; omega
          have HC := Lib.hid (HM.out wr (HB2.out.trans (HB4.out.mono HB2.out.size)) i k hik hkn)
          obtain ⟨hr1, hr2⟩ := HR.out i k hik hkn
          have HST := Lib.hid (show Stp n Z e i k ↔ erB Z i k ≤ e from ⟨fun h => h.2.2, fun h => ⟨hik, hkn, h⟩⟩)
          obtain ⟨E, eE⟩ : ∃ E, erB Z i k = E := ⟨_, rfl⟩
          rw [eE] at hr1 hr2 HC HST
          obtain ⟨G, eG⟩ : ∃ G, grG n Z e i t = G := ⟨_, rfl⟩
          rw [eG] at HGN1 ⊢
          clear eE eG
          by_cases hs : E ≤ e
          · have HN := Lib.hid (HGY1.out (HST.out.2 hs))
            go_wp2_with fail
            refine HC.out.mono ?_
            rintro e' w5 ⟨rfl, hb5⟩
            have HB5 := Lib.hid (HB4.out.trans (hb5.mono hs4))
            have HL5 := Lib.hid (HLI2.out.below hb5 (Nat.le_refl _))
            clear hb5
            go_wp2
            go_roundw
            case rel => exact ⟨t + 1, by have := HEK.out; omega, by rw [show i + 1 + (t + 1) = k + 1 by have := HEK.out; omega]; go_num, by rw [HN.out], HL5.out, HB5.out⟩
            case measure => simp [intOf]; omega
          · have HN := Lib.hid (HGN1.out (fun g => hs (HST.out.1 g)))
            go_wp2_with fail
            refine HC.out.mono ?_
            rintro e' w5 ⟨rfl, hb5⟩
            have HB5 := Lib.hid (HB4.out.trans (hb5.mono hs4))
            have HL5 := Lib.hid (HLI2.out.below hb5 (Nat.le_refl _))
            clear hb5
            go_wp2
            go_roundw
            case rel => exact ⟨t + 1, by have := HEK.out; omega, by rw [show i + 1 + (t + 1) = k + 1 by have := HEK.out; omega]; go_num, by rw [HN.out], HL5.out, HB5.out⟩
            case measure => simp [intOf]; omega
        · have hkn' : ¬ (k : Int) < n := by omega
          have HNV := Lib.hid (show grG n Z e i t = grV n Z e i by rw [HNX.out, show n - i - 1 = t by have := HEK.out; omega])
          have HL6 := Lib.hid (HLN.out.step HRU.out hlt)
          rw [HNV.out]
          obtain ⟨q, eq⟩ : ∃ q, grV n Z e i = q := ⟨_, rfl⟩
          rw [eq] at HL6 hmi hmn ⊢
          have hs5 := HB4.out.size
          clear eq
          go_wp2_with (first | (at_builtin; refine wpList_append_own _ rfl _ _ 23 rfl w2.heap.size 3 i0 (.int .i64 0) 1 8 Try.underlying23 hi0 hz0 hz1 hz2 rfl (by decide) _ L.length (nsV L) rfl (HLI2.out.alloc _) ⟨wr.heap.size, 0, none⟩ 1 1 [.int .i64 q] rfl rfl (World.news_of_block (cs := #[.int .i64 q]) (t := 3) (fr := (0, 0)) (heap_alloc_new wr _)) (by simp [Value.oneCell']) (by unfold maxLen; omega) (by omega) (by simp; omega) ?_; intro v' w4 hown4 hg4 _))
          have HB7 := Lib.hid ((HB4.out.alloc HB4.out.size (.cells #[.int .i64 q] 3)).grown hg4 (by simp; have := HB4.out.size; omega) (fun k hk => (HLI2.out.lt k hk).1))
          have HL7 := Lib.hid (nums_push (L := L) (x := q) hown4)
          clear hown4 hg4
          go_wp2
          go_roundw
          case rel => exact ⟨q, _, _, by omega, by go_num, rfl, HL7.out, HL6.out, HB7.out⟩
          case measure => simp [intOf]; omega
    · have hlt' : ¬ (i : Int) < (n : Int) - 1 := by omega
      have HF2 := Lib.hid (show L = gyL n Z e by rw [HEND.out]; exact HLN.out.last hlt)
      have HB5 := Lib.hid (HB2.out.trans (HB3.out.mono HB2.out.size))
      have hd : w.heap.size ≤ w2.heap.size := by omega
      go_wp2
      go_ret2
      exact NbPost.mk' rfl HF2.out.symm (HLI.out.down hd) HB5.out

set_option maxHeartbeats 4000000 in
set_option maxRecDepth 20000 in
theorem specThinBest_any (v : Value) (lo hi n : Nat) (Z : Nat → Int) (e : Int) (w : World) (hv : RdI lo hi w v n Z) (hh : hi ≤ w.heap.size) :
    Calls Try.prog 29 #[v, .int .i64 e] w (NbPost (peB n Z e) (btV n Z e) w) := by
  by_cases h : PeOk n Z e
  · rw [peB_yes h, btV_yes h]
    exact specThinBest_yes v lo hi n Z e w hv hh h.1 h.2
  · have HF := Lib.hid (by
      have h1 := specThinFewest_any v lo hi n Z e w hv hh
      rw [fwV_no h] at h1
      exact h1 : Calls Try.prog 26 #[v, .int .i64 e] w (IntPost (-1) w))
    rw [peB_no h, btV_no h]
    obtain ⟨va, vc, rfl⟩ := hv.shape
    clear hv h
    go_enter Try.func29, Try.ntmps29
    go_wp2_with fail
    refine HF.out.mono ?_
    rintro e' w1 ⟨rfl, hb1⟩
    have HB1 := Lib.hid (hb1.alloc hb1.size (.cells #[] 3))
    have HL1 := Lib.hid ((nums_lit w1).down hb1.size)
    clear hb1
    go_wp2
    go_ret2
    exact NbPost.mk' rfl rfl HL1.out HB1.out

set_option maxHeartbeats 4000000 in
set_option maxRecDepth 20000 in
theorem specThinGreedy_any (v : Value) (lo hi n : Nat) (Z : Nat → Int) (e : Int) (w : World) (hv : RdI lo hi w v n Z) (hh : hi ≤ w.heap.size) :
    Calls Try.prog 34 #[v, .int .i64 e] w (NbPost (peB n Z e) (gdV n Z e) w) := by
  by_cases h : PeOk n Z e
  · rw [peB_yes h, gdV_yes h]
    exact specThinGreedy_yes v lo hi n Z e w hv hh h.1 h.2
  · have HF := Lib.hid (by
      have h1 := specThinFewest_any v lo hi n Z e w hv hh
      rw [fwV_no h] at h1
      exact h1 : Calls Try.prog 26 #[v, .int .i64 e] w (IntPost (-1) w))
    rw [peB_no h, gdV_no h]
    obtain ⟨va, vc, rfl⟩ := hv.shape
    clear hv h
    go_enter Try.func34, Try.ntmps34
    go_wp2_with fail
    refine HF.out.mono ?_
    rintro e' w1 ⟨rfl, hb1⟩
    have HB1 := Lib.hid (hb1.alloc hb1.size (.cells #[] 3))
    have HL1 := Lib.hid ((nums_lit w1).down hb1.size)
    clear hb1
    go_wp2
    go_ret2
    exact NbPost.mk' rfl rfl HL1.out HB1.out

end Go.Proofs.Ytmfdflkpbejpoaa
