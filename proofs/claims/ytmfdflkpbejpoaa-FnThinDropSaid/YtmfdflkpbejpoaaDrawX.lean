/- Draws of profiles and of points. -/
import Derived.Test.YtmfdflkpbejpoaaDrawP
namespace Go.Proofs.Ytmfdflkpbejpoaa
open Go.RowKit
set_option linter.unusedVariables false

/-- a profile and points that are drawn -/
def TiPost (B : Nat) (w : World) (e : Ending) (w' : World) : Prop :=
  ∃ v n Z u m Y, e = .returned (.tuple #[v, u]) ∧ RdI (B + 1) w'.heap.size w' v n Z ∧ RdI (B + 1) w'.heap.size w' u m Y ∧ n ≤ 8 ∧ m ≤ 8 ∧ (∀ i, i < n → -1 ≤ Z i ∧ Z i ≤ 100) ∧ (∃ q, q ≤ 1010 ∧ Rdr w' B q) ∧ Chg B (B + 1) w w'

theorem rdI_tail {lo hi bb : Nat} {w : World} {n cap : Nat} {Z : Nat → Int} {v : Value} (h : RdI lo hi w (.slice (some ⟨bb, 0, none⟩) n cap) n Z) (hn : 1 ≤ n) (hv : v = .slice (if cap = 1 then some ⟨bb, 0, none⟩ else some ⟨bb, 1, none⟩) (n - 1) (cap - 1)) :
    RdI lo hi w v (n - 1) (fun i => Z (i + 1)) := by
  obtain ⟨ao, c, b, off, e, h2, h3, h4, h5, h6⟩ := h
  simp only [Value.slice.injEq] at e
  obtain ⟨rfl, _, rfl⟩ := e
  obtain ⟨e1, h7, h8⟩ := h5 (by omega)
  simp only [Option.some.injEq, Addr.mk.injEq, and_true] at e1
  obtain ⟨rfl, rfl⟩ := e1
  subst hv
  refine ⟨_, _, bb, 1, rfl, by omega, by omega, fun i hi => h4 _ (by omega), fun h0 => ⟨?_, h7, h8⟩, fun i hi => ?_⟩
  · rw [if_neg (by omega)]
  · have := h6 (i + 1) (by omega)
    rw [Nat.zero_add] at this
    rw [Nat.add_comm 1 i]; exact this

set_option maxHeartbeats 4000000 in
set_option maxRecDepth 100000 in
theorem thin_any (B q : Nat) (w : World) (hr : Rdr w B q) (hB : B < w.heap.size) (hq : q ≤ 100) :
    Calls Try.prog 50 #[.pointer (some ⟨B, 0, none⟩)] w (TiPost B w) := by
  have HP := Lib.hid (profile_any B q 8 w hr hB hq (by omega) (by omega))
  obtain ⟨i0, hi0, hz0, hz1, hz2⟩ := info_parts Try.infoI
  clear hr
  go_enter Try.func50, Try.ntmps50
  go_wp2_with fail
  refine HP.out.mono ?_
  rintro e w2 ⟨v, n, Z, rfl, ⟨a, l, c, rfl⟩, hm, hn2, hz2', ⟨q2, hq2, hr2⟩, hc⟩
  have HM := Lib.hid hm
  have HZ := Lib.hid hz2'
  have HC := Lib.hid hc
  have hs2 : w.heap.size ≤ w2.heap.size := hc.size
  obtain ⟨_, _, e0⟩ := hm.shape
  simp only [Value.slice.injEq] at e0
  obtain ⟨rfl, rfl, rfl⟩ := e0
  have hB2 : B < w2.heap.size := by omega
  have hb0 := (Below.refl w2.heap.size w2).alloc (Nat.le_refl _) (.cells #[] 3)
  have HR0 := Lib.hid (hr2.keep hb0 hB2)
  have HL0 := Lib.hid (nums_lit w2)
  have HC0 := Lib.hid (show Chg B (B + 1) w2 (w2.alloc (.cells #[] 3)) from hb0.chg B (B + 1))
  clear hm hz2' hc hr2 hb0
  go_wp2
  go_loopw [5, 6] (fun o c wr => ∃ (k : Nat) (x : Value) (L : List Int) (qq : Nat), k ≤ l ∧ c = .int .i64 k ∧ x = o ∧ Nums w2.heap.size wr x L ∧ L.length ≤ k ∧ (∀ z ∈ L, 0 ≤ z ∧ z ≤ 8) ∧ Rdr wr B qq ∧ qq ≤ q2 + k ∧ Chg B (B + 1) w2 wr) (fun _ c _ => l - (intOf c).toNat)
  case atStart => exact ⟨0, _, [], q2, Nat.zero_le _, rfl, rfl, HL0.out, Nat.le_refl _, fun z hz => by simp at hz, HR0.out, by omega, HC0.out⟩
  case round =>
    obtain ⟨k, x, L, qq, hk, rfl, rfl, hli, hln, hlz, hrr, hqq, hch⟩ := hrel
    have HLI := Lib.hid hli
    have HLZ := Lib.hid hlz
    have HRR := Lib.hid hrr
    have HCH := Lib.hid hch
    have hsr := hch.size
    clear hli hlz hrr hch
    by_cases hlt : k < l
    · have hlt' : (k : Int) < l := by omega
      by_cases hk0 : k = 0
      · have hb1 : ((k : Int) == 0) = true := by rw [beq_iff_eq]; omega
        have HK0 := Lib.hid hk0
        clear hk0
        go_wp2_with (first | (at_builtin; refine wpList_append_own _ rfl _ _ 23 rfl w2.heap.size 3 i0 (.int .i64 0) 1 8 Try.underlying23 hi0 hz0 hz1 hz2 rfl (by decide) _ L.length (nsV L) rfl (HLI.out.alloc _) ⟨wr.heap.size, 0, none⟩ 1 1 [.int .i64 k] rfl rfl (World.news_of_block (cs := #[.int .i64 k]) (t := 3) (fr := (0, 0)) (heap_alloc_new wr _)) (by simp [Value.oneCell']) (by unfold maxLen; omega) (by omega) (by simp; omega) ?_; intro v' w6 hown6 hg6 _))
        have HB6 := Lib.hid (((Below.refl w2.heap.size wr).alloc (by have := HCH.out.size; omega) (.cells #[.int .i64 k] 3)).grown hg6 (by simp; have := HCH.out.size; omega) (fun k hk => (HLI.out.lt k hk).1))
        have HL6 := Lib.hid (nums_push (L := L) (x := k) hown6)
        clear hown6 hg6
        have HR6 := Lib.hid (HRR.out.keep HB6.out hB2)
        have HC6 := Lib.hid (Chg.then_below HCH.out HB6.out (Nat.le_refl _))
        go_wp2
        go_roundw
        case rel => exact ⟨k + 1, _, L ++ [(k : Int)], qq, by omega, by go_num, rfl, HL6.out, by simp; omega, fun z hz => by
          rcases List.mem_append.1 hz with hz | hz
          · have := HLZ.out z hz; omega
          · simp at hz; omega, HR6.out, by omega, HC6.out⟩
        case measure => simp [intOf]; omega
      · have hb1 : ((k : Int) == 0) = false := by rw [beq_eq_false_iff_ne]; omega
        by_cases hkl : k + 1 = l
        · have hb2 : ((k : Int) == (l : Int) - 1) = true := by rw [beq_iff_eq]; omega
          have HKL := Lib.hid hkl
          clear hkl hk0
          go_wp2_with (first | (at_builtin; refine wpList_append_own _ rfl _ _ 23 rfl w2.heap.size 3 i0 (.int .i64 0) 1 8 Try.underlying23 hi0 hz0 hz1 hz2 rfl (by decide) _ L.length (nsV L) rfl (HLI.out.alloc _) ⟨wr.heap.size, 0, none⟩ 1 1 [.int .i64 k] rfl rfl (World.news_of_block (cs := #[.int .i64 k]) (t := 3) (fr := (0, 0)) (heap_alloc_new wr _)) (by simp [Value.oneCell']) (by unfold maxLen; omega) (by omega) (by simp; omega) ?_; intro v' w6 hown6 hg6 _))
          have HB6 := Lib.hid (((Below.refl w2.heap.size wr).alloc (by have := HCH.out.size; omega) (.cells #[.int .i64 k] 3)).grown hg6 (by simp; have := HCH.out.size; omega) (fun k hk => (HLI.out.lt k hk).1))
          have HL6 := Lib.hid (nums_push (L := L) (x := k) hown6)
          clear hown6 hg6
          have HR6 := Lib.hid (HRR.out.keep HB6.out hB2)
          have HC6 := Lib.hid (Chg.then_below HCH.out HB6.out (Nat.le_refl _))
          go_wp2
          go_roundw
          case rel => exact ⟨k + 1, _, L ++ [(k : Int)], qq, by omega, by go_num, rfl, HL6.out, by simp; omega, fun z hz => by
            rcases List.mem_append.1 hz with hz | hz
            · have := HLZ.out z hz; omega
            · simp at hz; omega, HR6.out, by omega, HC6.out⟩
          case measure => simp [intOf]; omega
        · have hb2 : ((k : Int) == (l : Int) - 1) = false := by rw [beq_eq_false_iff_ne]; omega
          clear hkl hk0
          go_wp2_with fail
          refine (pick_any B qq 2 _ HRR.out (by omega) (by omega) (by omega)).mono ?_
          rintro e w5 ⟨p, hp, rfl, hr5, hc5, hs5⟩
          have HR5 := Lib.hid hr5
          have HC5 := Lib.hid (HCH.out.trans hc5)
          have HL5 := Lib.hid (HLI.out.chg hc5 hB2)
          have hs5' : w2.heap.size ≤ w5.heap.size := by omega
          clear hr5 hc5 hs5
          by_cases hp0 : p = 0
          · subst hp0
            go_wp2_with (first | (at_builtin; refine wpList_append_own _ rfl _ _ 23 rfl w2.heap.size 3 i0 (.int .i64 0) 1 8 Try.underlying23 hi0 hz0 hz1 hz2 rfl (by decide) _ L.length (nsV L) rfl (HL5.out.alloc _) ⟨w5.heap.size, 0, none⟩ 1 1 [.int .i64 k] rfl rfl (World.news_of_block (cs := #[.int .i64 k]) (t := 3) (fr := (0, 0)) (heap_alloc_new w5 _)) (by simp [Value.oneCell']) (by unfold maxLen; omega) (by omega) (by simp; omega) ?_; intro v' w6 hown6 hg6 _))
            have HB6 := Lib.hid (((Below.refl w2.heap.size w5).alloc (by have := HC5.out.size; omega) (.cells #[.int .i64 k] 3)).grown hg6 (by simp; have := HC5.out.size; omega) (fun k hk => (HL5.out.lt k hk).1))
            have HL6 := Lib.hid (nums_push (L := L) (x := k) hown6)
            clear hown6 hg6
            have HR6 := Lib.hid (HR5.out.keep HB6.out hB2)
            have HC6 := Lib.hid (Chg.then_below HC5.out HB6.out (Nat.le_refl _))
            go_wp2
            go_roundw
            case rel => exact ⟨k + 1, _, L ++ [(k : Int)], qq + 1, by omega, by go_num, rfl, HL6.out, by simp; omega, fun z hz => by
              rcases List.mem_append.1 hz with hz | hz
              · have := HLZ.out z hz; omega
              · simp at hz; omega, HR6.out, by omega, HC6.out⟩
            case measure => simp [intOf]; omega
          · have hb3 : ((p : Int) == 0) = false := by rw [beq_eq_false_iff_ne]; omega
            clear hp0
            go_wp2
            go_roundw
            case rel => exact ⟨k + 1, _, L, qq + 1, by omega, by go_num, rfl, HL5.out, by omega, HLZ.out, HR5.out, by omega, HC5.out⟩
            case measure => simp [intOf]; omega
    · obtain rfl : k = l := by omega
      have hlt' : ¬ (k : Int) < k := by omega
      have HNO := Lib.hid (show NsOk L from fun z hz => by have := HLZ.out z hz; omega)
      have HMR := Lib.hid (RdI.same HM.out (HCH.out.sameIn (Nat.le_refl _) (Or.inr (Nat.le_refl _))))
      obtain ⟨M, eM⟩ : ∃ M, L.length = M := ⟨_, rfl⟩
      by_cases hM : M = 0
      · obtain ⟨xa, xc, rfl⟩ := HLI.out.shape
        rw [eM, hM]
        have HRD := Lib.hid (HLI.out.rdI HNO.out)
        rw [eM, hM] at HRD
        have HCC := Lib.hid (HC.out.trans HCH.out)
        clear eM
        go_wp2
        go_ret2
        exact ⟨_, k, Z, _, 0, _, rfl, HMR.out.mono (Nat.le_refl _) hsr, HRD.out.mono (by omega) (Nat.le_refl _), by omega, by omega, HZ.out, ⟨_, by omega, HRR.out⟩, HCC.out⟩
      · have hM0 : (0 : Int) < (L.length : Int) := by omega
        obtain ⟨xb, xcap, exs, hxb⟩ : ∃ xb xcap, x = .slice (some ⟨xb, 0, none⟩) L.length xcap ∧ L.length ≤ xcap := by
          obtain ⟨_, ⟨_, h0⟩ | ⟨b, cap, cur, e1, _, _, h3, _⟩⟩ := HLI.out
          · omega
          · exact ⟨b, cap, e1, h3⟩
        subst exs
        have hM1 : (1 : Int) ≤ (L.length : Int) := by omega
        have hM8 : M ≤ 8 := by omega
        have hMc : (L.length : Int) ≤ xcap := by omega
        go_wp2_with fail
        refine (pick_any B qq 16 _ HRR.out (by omega) (by omega) (by omega)).mono ?_
        rintro e w5 ⟨p, hp, rfl, hr5, hc5, hs5⟩
        have HR5 := Lib.hid hr5
        have HC5 := Lib.hid (HC.out.trans (HCH.out.trans hc5))
        have HL5 := Lib.hid (HLI.out.chg hc5 hB2)
        have HM5 := Lib.hid (HMR.out.same (hc5.sameIn (by omega) (Or.inr (Nat.le_refl _))))
        have hs5' : w2.heap.size ≤ w5.heap.size := by omega
        clear hr5 hc5
        by_cases hp0 : p = 0
        · subst hp0
          have HRD := Lib.hid (HL5.out.rdI HNO.out)
          by_cases hx1 : xcap = 1
          · subst hx1
            have HT := Lib.hid (rdI_tail HRD.out (by omega) (by rw [if_pos rfl]))
            rw [eM] at HT
            clear eM
            go_wp2
            go_quiet (fail)
            go_wp2
            go_ret2
            exact ⟨_, k, Z, _, _, _, rfl, (HM5.out.same (fun _ _ _ => rfl)).mono (Nat.le_refl _) hs5', RdI.same (HT.out.mono (by omega) (Nat.le_refl _)) (fun _ _ _ => rfl), by omega, by omega, HZ.out, ⟨_, by omega, HR5.out.same (fun _ _ => rfl)⟩, ⟨HC5.out.os, HC5.out.tape, HC5.out.output, HC5.out.size, HC5.out.block⟩⟩
          · have HT := Lib.hid (rdI_tail HRD.out (by omega) (by rw [if_neg hx1]))
            rw [eM] at HT
            clear eM
            go_wp2
            go_quiet (fail)
            go_wp2
            go_ret2
            exact ⟨_, k, Z, _, _, _, rfl, (HM5.out.same (fun _ _ _ => rfl)).mono (Nat.le_refl _) hs5', RdI.same (HT.out.mono (by omega) (Nat.le_refl _)) (fun _ _ _ => rfl), by omega, by omega, HZ.out, ⟨_, by omega, HR5.out.same (fun _ _ => rfl)⟩, ⟨HC5.out.os, HC5.out.tape, HC5.out.output, HC5.out.size, HC5.out.block⟩⟩
        · have hb3 : ((p : Int) == 0) = false := by rw [beq_eq_false_iff_ne]; omega
          have HRD := Lib.hid (HL5.out.rdI HNO.out)
          rw [eM] at HRD
          clear hp0 eM
          go_wp2
          go_ret2
          exact ⟨_, k, Z, _, _, _, rfl, HM5.out.mono (Nat.le_refl _) hs5', HRD.out.mono (by omega) (Nat.le_refl _), by omega, by omega, HZ.out, ⟨_, by omega, HR5.out⟩, HC5.out⟩

/-- a profile and points, drawn from the start -/
def DtPost (w : World) (e : Ending) (w' : World) : Prop :=
  ∃ v n Z u m Y, e = .returned (.tuple #[v, u]) ∧ RdI 0 w'.heap.size w' v n Z ∧ RdI 0 w'.heap.size w' u m Y ∧ n ≤ 8 ∧ m ≤ 8 ∧ (∀ i, i < n → -1 ≤ Z i ∧ Z i ≤ 100) ∧ Below w.heap.size w w'

set_option maxHeartbeats 4000000 in
set_option maxRecDepth 100000 in
theorem draw_DrawThinValid (v : Value) (n hi : Nat) (w : World) (hv : RdB hi w v n) (hh : hi ≤ w.heap.size) :
    Calls Try.prog 14 #[v] w (DtPost w) := by
  have HO := Lib.hid (open_any v n hi w hv hh)
  obtain ⟨ao, cap, cb, off, Z, rfl, _⟩ := hv
  obtain ⟨B, eB⟩ : ∃ B, w.heap.size = B := ⟨_, rfl⟩
  have EB := Lib.hid eB
  clear eB
  go_enter Try.func14, Try.ntmps14
  go_wp2_with fail
  refine HO.out.mono ?_
  rintro e w1 ⟨rfl, hr, hb, hs⟩
  rw [EB.out] at hr hb hs ⊢
  have HB := Lib.hid hb
  have HR := Lib.hid hr
  have hs1 : B < w1.heap.size := by omega
  clear hb hr hs
  go_wp2_with fail
  refine (thin_any B 0 w1 HR.out hs1 (by omega)).mono ?_
  rintro e w2 ⟨v, n2, Z2, u, m2, Y2, rfl, hm, hu, hn2, hm2, hz2, ⟨q2, hq2, hr2⟩, hc⟩
  have HM2 := Lib.hid hm
  have HU2 := Lib.hid hu
  have HZ2 := Lib.hid hz2
  have HC2 := Lib.hid hc
  have hs2 : w1.heap.size ≤ w2.heap.size := hc.size
  obtain ⟨va, vc, rfl⟩ := hm.shape
  obtain ⟨ua, uc, rfl⟩ := hu.shape
  clear hm hu hz2 hc hr2
  go_wp2
  go_ret2
  exact ⟨_, n2, Z2, _, m2, Y2, rfl, HM2.out.mono (Nat.zero_le _) (Nat.le_refl _), HU2.out.mono (Nat.zero_le _) (Nat.le_refl _), hn2, hm2, HZ2.out, by rw [← EB.out] at *; exact chg_below HB.out HC2.out⟩

set_option maxHeartbeats 4000000 in
set_option maxRecDepth 100000 in
theorem draw_DrawThinError (v : Value) (n hi : Nat) (w : World) (hv : RdB hi w v n) (hh : hi ≤ w.heap.size) :
    Calls Try.prog 19 #[v] w (DtPost w) := by
  have HO := Lib.hid (open_any v n hi w hv hh)
  obtain ⟨ao, cap, cb, off, Z, rfl, _⟩ := hv
  obtain ⟨B, eB⟩ : ∃ B, w.heap.size = B := ⟨_, rfl⟩
  have EB := Lib.hid eB
  clear eB
  go_enter Try.func19, Try.ntmps19
  go_wp2_with fail
  refine HO.out.mono ?_
  rintro e w1 ⟨rfl, hr, hb, hs⟩
  rw [EB.out] at hr hb hs ⊢
  have HB := Lib.hid hb
  have HR := Lib.hid hr
  have hs1 : B < w1.heap.size := by omega
  clear hb hr hs
  go_wp2_with fail
  refine (thin_any B 0 w1 HR.out hs1 (by omega)).mono ?_
  rintro e w2 ⟨v, n2, Z2, u, m2, Y2, rfl, hm, hu, hn2, hm2, hz2, ⟨q2, hq2, hr2⟩, hc⟩
  have HM2 := Lib.hid hm
  have HU2 := Lib.hid hu
  have HZ2 := Lib.hid hz2
  have HC2 := Lib.hid hc
  have hs2 : w1.heap.size ≤ w2.heap.size := hc.size
  obtain ⟨va, vc, rfl⟩ := hm.shape
  obtain ⟨ua, uc, rfl⟩ := hu.shape
  clear hm hu hz2 hc hr2
  go_wp2
  go_ret2
  exact ⟨_, n2, Z2, _, m2, Y2, rfl, HM2.out.mono (Nat.zero_le _) (Nat.le_refl _), HU2.out.mono (Nat.zero_le _) (Nat.le_refl _), hn2, hm2, HZ2.out, by rw [← EB.out] at *; exact chg_below HB.out HC2.out⟩

set_option maxHeartbeats 4000000 in
set_option maxRecDepth 100000 in
theorem draw_DrawThinProfile (v : Value) (n hi : Nat) (w : World) (hv : RdB hi w v n) (hh : hi ≤ w.heap.size) :
    Calls Try.prog 38 #[v] w (DtPost w) := by
  have HO := Lib.hid (open_any v n hi w hv hh)
  obtain ⟨ao, cap, cb, off, Z, rfl, _⟩ := hv
  obtain ⟨B, eB⟩ : ∃ B, w.heap.size = B := ⟨_, rfl⟩
  have EB := Lib.hid eB
  clear eB
  go_enter Try.func38, Try.ntmps38
  go_wp2_with fail
  refine HO.out.mono ?_
  rintro e w1 ⟨rfl, hr, hb, hs⟩
  rw [EB.out] at hr hb hs ⊢
  have HB := Lib.hid hb
  have HR := Lib.hid hr
  have hs1 : B < w1.heap.size := by omega
  clear hb hr hs
  go_wp2_with fail
  refine (thin_any B 0 w1 HR.out hs1 (by omega)).mono ?_
  rintro e w2 ⟨v, n2, Z2, u, m2, Y2, rfl, hm, hu, hn2, hm2, hz2, ⟨q2, hq2, hr2⟩, hc⟩
  have HM2 := Lib.hid hm
  have HU2 := Lib.hid hu
  have HZ2 := Lib.hid hz2
  have HC2 := Lib.hid hc
  have hs2 : w1.heap.size ≤ w2.heap.size := hc.size
  obtain ⟨va, vc, rfl⟩ := hm.shape
  obtain ⟨ua, uc, rfl⟩ := hu.shape
  clear hm hu hz2 hc hr2
  go_wp2
  go_ret2
  exact ⟨_, n2, Z2, _, m2, Y2, rfl, HM2.out.mono (Nat.zero_le _) (Nat.le_refl _), HU2.out.mono (Nat.zero_le _) (Nat.le_refl _), hn2, hm2, HZ2.out, by rw [← EB.out] at *; exact chg_below HB.out HC2.out⟩

end Go.Proofs.Ytmfdflkpbejpoaa
