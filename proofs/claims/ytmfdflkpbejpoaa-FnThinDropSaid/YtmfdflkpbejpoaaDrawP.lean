/- Draws of profiles and of their points. -/
import Derived.Test.YtmfdflkpbejpoaaDrawD
import Derived.Test.YtmfdflkpbejpoaaPrR
namespace Go.Proofs.Ytmfdflkpbejpoaa
open Go.RowKit
set_option linter.unusedVariables false

theorem Nums.chg {B C : Nat} {w w' : World} {v : Value} {l : List Int} (h : Nums C w v l) (hc : Chg B (B + 1) w w') (hB : B < C) : Nums C w' v l := by
  obtain ⟨hlen, ⟨rfl, h0⟩ | ⟨b, cap, cur, rfl, hC, hb, hr⟩⟩ := h
  · exact ⟨hlen, Or.inl ⟨rfl, h0⟩⟩
  · have hlt : b < w.heap.size := (Array.getElem?_eq_some_iff.1 hb).1
    exact ⟨hlen, Or.inr ⟨b, cap, cur, rfl, hC, (hc.block b hlt (by omega)).trans hb, hr⟩⟩

/-- a profile that is drawn: a list of up to m numbers, each -1 to 100 -/
def PfPost (B m : Nat) (w : World) (e : Ending) (w' : World) : Prop :=
  ∃ v n Z, e = .returned v ∧ (∃ a l c, v = .slice a l c) ∧ RdI (B + 1) w'.heap.size w' v n Z ∧ n ≤ m ∧ (∀ i, i < n → -1 ≤ Z i ∧ Z i ≤ 100) ∧ (∃ q, q ≤ 1000 ∧ Rdr w' B q) ∧ Chg B (B + 1) w w'

set_option maxHeartbeats 4000000 in
set_option maxRecDepth 100000 in
theorem profile_any (B q m : Nat) (w : World) (hr : Rdr w B q) (hB : B < w.heap.size) (hq : q ≤ 100) (hm1 : 1 ≤ m) (hm : m ≤ 20) :
    Calls Try.prog 72 #[.pointer (some ⟨B, 0, none⟩), .int .i64 m] w (PfPost B m w) := by
  obtain ⟨i0, hi0, hz0, hz1, hz2⟩ := info_parts Try.infoI
  have hb0 := (Below.refl w.heap.size w).alloc (Nat.le_refl _) (.cells #[] 3)
  have HR0 := Lib.hid (hr.keep hb0 hB)
  have HL0 := Lib.hid (nums_lit w)
  have HC0 := Lib.hid (show Chg B (B + 1) w (w.alloc (.cells #[] 3)) from hb0.chg B (B + 1))
  clear hr hb0
  go_enter Try.func72, Try.ntmps72
  go_wp2_with fail
  refine (pick_any B q m _ HR0.out (by omega) hm1 (by omega)).mono ?_
  rintro e w1 ⟨x, hx, rfl, hr1, hc1, hs1⟩
  have HR1 := Lib.hid hr1
  have HC1 := Lib.hid (HC0.out.trans hc1)
  have HL1 := Lib.hid (HL0.out.chg hc1 hB)
  have hx' : (x : Int) < m := by omega
  clear hr1 hc1 hs1
  go_wp2_with fail
  refine (pick_any B (q + 1) 30 _ HR1.out (by omega) (by omega) (by omega)).mono ?_
  rintro e w2 ⟨y, hy, rfl, hr2, hc2, hs2⟩
  have HR2 := Lib.hid hr2
  have HC2 := Lib.hid (HC1.out.trans hc2)
  have HL2 := Lib.hid (HL1.out.chg hc2 hB)
  clear hr2 hc2 hs2
  obtain ⟨N, eN⟩ : ∃ N, x + 1 = N := ⟨_, rfl⟩
  have hNx : (1 : Int) + x = N := by omega
  go_wp2
  clear hNx
  have HEN := Lib.hid eN
  have hN1 : 1 ≤ N := by omega
  have hNm : N ≤ m := by omega
  clear eN hx hx'
  go_loopw [5, 7, 8] (fun o hh c wr => ∃ (kk : Nat) (u : Value) (h : Int) (L : List Int), kk ≤ N ∧ c = .int .i64 kk ∧ u = o ∧ hh = .int .i64 h ∧ (0 ≤ h ∧ h ≤ 99) ∧ L.length = kk ∧ (∀ z ∈ L, 0 ≤ z ∧ z ≤ 99) ∧ Nums w.heap.size wr u L ∧ Rdr wr B (q + 2 + kk) ∧ Chg B (B + 1) w wr) (fun _ _ c _ => N - (intOf c).toNat)
  case atStart => exact ⟨0, _, y, [], Nat.zero_le _, rfl, rfl, rfl, by omega, rfl, fun z hz => by simp at hz, HL2.out, HR2.out, HC2.out⟩
  case round =>
    obtain ⟨kk, u, h, L, hk, rfl, rfl, rfl, ⟨h1, h2⟩, hln, hLz, hli, hrr, hch⟩ := hrel
    have HLN := Lib.hid hli
    have HRR := Lib.hid hrr
    have HCH := Lib.hid hch
    have HLZ := Lib.hid hLz
    clear hLz hli hrr hch
    by_cases hlt : kk < N
    · have hlt' : (kk : Int) < N := by omega
      have HE := Lib.hid hln
      have hlk : L.length ≤ 20 := by omega
      clear hln
      go_wp2_with (first | (at_builtin; refine wpList_append_own _ rfl _ _ 23 rfl w.heap.size 3 i0 (.int .i64 0) 1 8 Try.underlying23 hi0 hz0 hz1 hz2 rfl (by decide) _ L.length (nsV L) rfl (HLN.out.alloc _) ⟨wr.heap.size, 0, none⟩ 1 1 [.int .i64 h] rfl rfl (World.news_of_block (cs := #[.int .i64 h]) (t := 3) (fr := (0, 0)) (heap_alloc_new wr _)) (by simp [Value.oneCell']) (by unfold maxLen; omega) (by omega) (by have := HCH.out.size; simp; omega) ?_; intro v' w4 hown4 hg4 _))
      have HB4 := Lib.hid (((Below.refl w.heap.size wr).alloc (by have := HCH.out.size; omega) (.cells #[.int .i64 h] 3)).grown hg4 (by simp; have := HCH.out.size; omega) (fun k hk => (HLN.out.lt k hk).1))
      have HL4 := Lib.hid (nums_push (L := L) (x := h) hown4)
      clear hown4 hg4 HLN
      have HR4 := Lib.hid (HRR.out.keep HB4.out hB)
      have HC4 := Lib.hid (Chg.then_below HCH.out HB4.out (Nat.le_refl _))
      go_wp2_with fail
      refine (pick_any B (q + 2 + kk) 13 _ HR4.out (by omega) (by omega) (by omega)).mono ?_
      rintro e w5 ⟨p, hp, rfl, hr5, hc5, hs5⟩
      have HR5 := Lib.hid hr5
      have HC5 := Lib.hid (HC4.out.trans hc5)
      have HL5 := Lib.hid (HL4.out.chg hc5 hB)
      clear hr5 hc5 hs5 HL4
      obtain ⟨H', eH'⟩ : ∃ H', max 0 (min 99 (h + p - 6)) = H' := ⟨_, rfl⟩
      have hH : 0 ≤ H' ∧ H' ≤ 99 := by omega
      go_wp2
      go_roundw
      case rel => exact ⟨kk + 1, _, H', L ++ [h], by omega, by go_num, rfl, rfl, hH, by simp [HE.out], fun z hz => by
        rcases List.mem_append.1 hz with hz | hz
        · exact HLZ.out z hz
        · simp at hz; omega, HL5.out, HR5.out, HC5.out⟩
      case measure => simp [intOf]; omega
    · obtain rfl : kk = N := by omega
      have HNO := Lib.hid (show NsOk L from fun z hz => by have := HLZ.out z hz; omega)
      have HZ := Lib.hid (show ∀ i, i < kk → 0 ≤ nsZ L i ∧ nsZ L i ≤ 99 from fun i hi => HLZ.out _ (by
        rw [nsZ, List.getD_eq_getElem?_getD, List.getElem?_eq_getElem (by omega)]
        exact List.getElem_mem _))
      have hsz := HCH.out.size
      go_wp2_with fail
      refine (pick_any B (q + 2 + kk) 40 _ HRR.out (by omega) (by omega) (by omega)).mono ?_
      rintro e w5 ⟨p, hp, rfl, hr5, hc5, hs5⟩
      have HR5 := Lib.hid hr5
      have HC5 := Lib.hid (HCH.out.trans hc5)
      have HL5 := Lib.hid (HLN.out.chg hc5 hB)
      have hsz5 : w.heap.size ≤ w5.heap.size := by omega
      clear hr5 hc5 hs5
      by_cases p0 : p = 0
      · subst p0
        have HOW := HL5.out.owI HNO.out
        rw [hln] at HOW
        rcases HOW with ⟨rfl, h0⟩ | ⟨b, M, cap, F, rfl, k1, k2, k3, k4, k5, k6, k7, k8⟩
        · omega
        have K3 := Lib.hid k3
        have K7 := Lib.hid k7
        have hba := (Below.refl w5.heap.size w5).alloc (Nat.le_refl _) (.cells #[.int .i64 (-1), .int .i64 100] 3)
        have HR6 := Lib.hid (HR5.out.keep hba (by omega))
        have HBX := Lib.hid (heap_alloc_new w5 (.cells #[.int .i64 (-1), .int .i64 100] 3))
        have HCA := Lib.hid (Chg.then_below HC5.out hba hsz5)
        have HRA := Lib.hid (show (w5.alloc (.cells #[.int .i64 (-1), .int .i64 100] 3)).rowIs b 3 M F from k3.of_block (hba.block b k2))
        have hsa : (w5.alloc (.cells #[.int .i64 (-1), .int .i64 100] 3)).heap.size = w5.heap.size + 1 := by simp
        have HSA := Lib.hid hsa
        clear k3 k7 k8 hba hsa
        go_wp2_with fail
        refine (pick_any B (q + 2 + kk + 1) 2 _ HR6.out (by omega) (by omega) (by omega)).mono ?_
        rintro e w7 ⟨t, ht, rfl, hr7, hc7, hs7⟩
        have hs7' : w7.heap.size = w5.heap.size + 1 := by rw [hs7, HSA.out]
        have HC7 := Lib.hid (HCA.out.trans hc7)
        have hbb := (hc7.block w5.heap.size (by rw [HSA.out]; omega) (by omega)).trans HBX.out
        have hrow7 : w7.rowIs b 3 M F := HRA.out.of_block (hc7.block b (by rw [HSA.out]; omega) (by omega))
        have HR7 := Lib.hid hr7
        obtain ⟨Y, hY, hYr⟩ : ∃ Y : Int, w7.cell? ⟨w5.heap.size, t, none⟩ = some (.int .i64 Y) ∧ (-1 ≤ Y ∧ Y ≤ 100) := by
          rcases (by omega : t = 0 ∨ t = 1) with rfl | rfl
          · exact ⟨-1, by simp [World.cell?, hbb], by omega⟩
          · exact ⟨100, by simp [World.cell?, hbb], by omega⟩
        have c2 : w7.cell? ⟨b, 0, none⟩ = some (F 0) := hrow7.cell (i := 0) (by omega)
        rw [K7.out 0 (by omega)] at c2
        have c3 : w7.frozen? ⟨b, 0, none⟩ = false := hrow7.frozen 0
        have HRS := Lib.hid (hrow7.set 0 (.int .i64 Y))
        have HR8 := Lib.hid (show Rdr (w7.setCell ⟨b, 0, none⟩ (.int .i64 Y)) B (q + 2 + kk + 1 + 1) from HR7.out.same (fun k hk => Below.heap_setCell _ _ _ k (by show k ≠ b; omega)))
        have HC8 := Lib.hid (Chg.then_below HC7.out ((Below.refl w.heap.size w7).setCell (p := ⟨b, 0, none⟩) k1 (.int .i64 Y)) (Nat.le_refl _))
        have HS8 := Lib.hid (show (w7.setCell ⟨b, 0, none⟩ (.int .i64 Y)).heap.size = w7.heap.size by simp [World.setCell])
        have ht' : (t : Int) < 2 := by omega
        have hk0 : (0 : Int) < kk := by omega
        have HYR := Lib.hid hYr
        clear hr7 hc7 hs7 hbb hrow7 hYr
        go_wp2
        go_ret
        refine ⟨_, kk, fun i => if i = 0 then Y else nsZ L i, rfl, ⟨_, _, _, rfl⟩, ⟨_, cap, b, 0, rfl, k5, k6, fun i hi => ?_, fun _ => ⟨rfl, by omega, by rw [HS8.out]; omega⟩, fun i hi => ?_⟩, hNm, fun i hi => ?_, ⟨_, by omega, HR8.out⟩, HC8.out⟩
        · have := HYR.out
          have := HZ.out i hi
          by_cases e : i = 0
          · simp only [e, if_true]; omega
          · simp only [e, if_false]; omega
        · rw [Nat.zero_add]
          have h := HRS.out.cell (i := i) (by omega)
          rw [h]
          by_cases e : i = 0
          · simp [e]
          · simp only [e, if_false]; rw [K7.out i hi]
        · have := HYR.out
          have := HZ.out i hi
          by_cases e : i = 0
          · simp only [e, if_true]; omega
          · simp only [e, if_false]; omega
      · have p0' : ((p : Int) == 0) = false := by rw [beq_eq_false_iff_ne]; omega
        by_cases p1 : p = 1
        · subst p1
          have hba := (Below.refl w5.heap.size w5).alloc (Nat.le_refl _) (.cells #[] 3)
          have HR6 := Lib.hid (HR5.out.keep hba (by omega))
          have HCA := Lib.hid (Chg.then_below HC5.out hba hsz5)
          clear hba
          go_wp2
          go_ret
          exact ⟨_, 0, fun _ => 0, rfl, ⟨_, _, _, rfl⟩, ⟨_, 0, 0, 0, rfl, Nat.le_refl _, by omega, fun i hi => by omega, fun h => by omega, fun i hi => by omega⟩, by omega, fun i hi => by omega, ⟨_, by omega, HR6.out⟩, HCA.out⟩
        · have p1' : ((p : Int) == 1) = false := by rw [beq_eq_false_iff_ne]; omega
          have HRD := Lib.hid (show RdI (B + 1) w5.heap.size w5 u kk (nsZ L) from by
            have h := HL5.out.rdI HNO.out
            rw [hln] at h
            exact h.mono (by omega) (Nat.le_refl _))
          obtain ⟨ua, uc, rfl⟩ := HRD.out.shape
          go_wp2
          go_ret
          exact ⟨_, kk, nsZ L, rfl, ⟨_, _, _, rfl⟩, HRD.out, hNm, fun i hi => by have := HZ.out i hi; omega, ⟨_, by omega, HR5.out⟩, HC5.out⟩

end Go.Proofs.Ytmfdflkpbejpoaa
