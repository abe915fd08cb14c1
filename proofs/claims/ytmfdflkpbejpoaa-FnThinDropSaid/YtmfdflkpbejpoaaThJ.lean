/- Thinned lines of the program: what is one, the errors, the heights of the points. -/
import Derived.Test.YtmfdflkpbejpoaaThI
import Derived.Test.YtmfdflkpbejpoaaThU
import Derived.Test.YtmfdflkpbejpoaaThW
namespace Go.Proofs.Ytmfdflkpbejpoaa
open Go.RowKit
set_option linter.unusedVariables false

theorem IqPost.below {m : Int} {w w' : World} {e : Ending} (h : IqPost m w e w') : e = .returned (.int .i64 m) ∧ Below w.heap.size w w' := h.int

set_option maxHeartbeats 4000000 in
set_option maxRecDepth 20000 in
theorem isError_any (e : Int) (w : World) :
    Calls Try.prog 56 #[.int .i64 e] w (SmPost (decide (0 ≤ e ∧ e ≤ 99)) w) := by
  by_cases h0 : 0 ≤ e
  · have HE := Lib.hid (show decide (0 ≤ e ∧ e ≤ 99) = decide (e ≤ 99) by
      by_cases h : e ≤ 99
      · rw [decide_eq_true h, decide_eq_true ⟨h0, h⟩]
      · rw [decide_eq_false h, decide_eq_false (by omega)])
    go_enter Try.func56, Try.ntmps56
    go_wp2
    go_ret
    exact sm_post HE.out _
  · have hd : decide (0 ≤ e) = false := by simp; omega
    have HE := Lib.hid (show decide (0 ≤ e ∧ e ≤ 99) = false by rw [decide_eq_false (by omega)])
    clear h0
    go_enter Try.func56, Try.ntmps56
    go_wp2
    go_ret
    exact sm_post HE.out _

set_option maxHeartbeats 4000000 in
set_option maxRecDepth 20000 in
theorem implThinValid_any (v u : Value) (lo hi lo2 hi2 n m : Nat) (Z Y : Nat → Int) (w : World) (hv : RdI lo hi w v n Z) (hu : RdI lo2 hi2 w u m Y) (hh2 : hi2 ≤ w.heap.size) (hm : m ≤ 1048576) :
    Calls Try.prog 15 #[v, u] w (BlPost (thB n Z m Y) w) := by
  by_cases h : ThOk n Z m Y
  · have HB := Lib.hid (thB_yes h)
    have HT := Lib.hid (thinningOf_yes v u lo hi lo2 hi2 n m Z Y w hv hu hh2 h)
    obtain ⟨va, vc, rfl⟩ := hv.shape
    obtain ⟨ua, uc, rfl⟩ := hu.shape
    clear hv hu h
    go_enter Try.func15, Try.ntmps15
    go_wp2_with fail
    refine HT.out.mono ?_
    rintro e w1 ⟨x, rfl, hk, hb⟩
    have HBW := Lib.hid hb
    obtain ⟨xq, rfl⟩ := hk.ptr
    clear hk hb
    go_wp2
    go_ret
    exact bl_post HB.out HBW.out
  · have HB := Lib.hid (thB_no h)
    have HT := Lib.hid (thinningOf_no v u lo hi lo2 hi2 n m Z Y w hv hu hm h)
    obtain ⟨va, vc, rfl⟩ := hv.shape
    obtain ⟨ua, uc, rfl⟩ := hu.shape
    clear hv hu h
    go_enter Try.func15, Try.ntmps15
    go_wp2_with fail
    refine HT.out.mono ?_
    rintro e w1 ⟨rfl, hb⟩
    have HBW := Lib.hid hb
    clear hb
    go_wp2
    go_ret
    exact bl_post HB.out HBW.out

set_option maxHeartbeats 4000000 in
set_option maxRecDepth 20000 in
theorem implThinError_any (v u : Value) (lo hi lo2 hi2 n m : Nat) (Z Y : Nat → Int) (w : World) (hv : RdI lo hi w v n Z) (hu : RdI lo2 hi2 w u m Y) (hh : hi ≤ w.heap.size) (hh2 : hi2 ≤ w.heap.size) (hm : m ≤ 1048576) :
    Calls Try.prog 17 #[v, u] w (IntPost (thE n Z m Y) w) := by
  by_cases h : ThOk n Z m Y
  · have HT := Lib.hid (thinningOf_yes v u lo hi lo2 hi2 n m Z Y w hv hu hh2 h)
    have HE := Lib.hid (fun (W : World) (x : Value) (hb : Below w.heap.size w W) (hc : Ch W x (fnL Y m)) => errorAlong_q v x lo hi n m Z Y W (hv.same (SameIn.below hb hh)) h hc)
    rw [thE_yes h]
    obtain ⟨va, vc, rfl⟩ := hv.shape
    obtain ⟨ua, uc, rfl⟩ := hu.shape
    clear hv hu h
    go_enter Try.func17, Try.ntmps17
    go_wp2_with fail
    refine HT.out.mono ?_
    rintro e w1 ⟨x, rfl, hk, hb⟩
    have HBW := Lib.hid hb
    have HE1 := Lib.hid (HE.out w1 x hb (Kn.ch _ hk))
    obtain ⟨xq, rfl⟩ := hk.ptr
    clear hk hb
    go_wp2_with fail
    refine HE1.out.mono ?_
    rintro e w2 ⟨rfl, q, rfl⟩
    have HB2 := Lib.hid (below_drewN HBW.out q)
    go_wp2
    go_ret
    exact ⟨rfl, HB2.out⟩
  · have HT := Lib.hid (thinningOf_no v u lo hi lo2 hi2 n m Z Y w hv hu hm h)
    rw [thE_no h]
    obtain ⟨va, vc, rfl⟩ := hv.shape
    obtain ⟨ua, uc, rfl⟩ := hu.shape
    clear hv hu h
    go_enter Try.func17, Try.ntmps17
    go_wp2_with fail
    refine HT.out.mono ?_
    rintro e w1 ⟨rfl, hb⟩
    have HBW := Lib.hid hb
    clear hb
    go_wp2
    go_ret
    exact ⟨rfl, HBW.out⟩

set_option maxHeartbeats 4000000 in
set_option maxRecDepth 20000 in
theorem implThinKeeps_any (v u : Value) (lo hi lo2 hi2 n m : Nat) (Z Y : Nat → Int) (e : Int) (w : World) (hv : RdI lo hi w v n Z) (hu : RdI lo2 hi2 w u m Y) (hh : hi ≤ w.heap.size) (hh2 : hi2 ≤ w.heap.size) (hm : m ≤ 1048576) :
    Calls Try.prog 18 #[v, u, .int .i64 e] w (BlPost (thK n Z m Y e) w) := by
  by_cases h : ThOk n Z m Y
  · have HT := Lib.hid (thinningOf_yes v u lo hi lo2 hi2 n m Z Y w hv hu hh2 h)
    have HE := Lib.hid (fun (W : World) (x : Value) (hb : Below w.heap.size w W) (hc : Ch W x (fnL Y m)) => errorAlong_q v x lo hi n m Z Y W (hv.same (SameIn.below hb hh)) h hc)
    have HX := Lib.hid (thE_yes h)
    by_cases he : 0 ≤ e ∧ e ≤ 99
    · have HIE := Lib.hid (decide_eq_true he)
      have HKY := Lib.hid (fun (g : thE n Z m Y ≤ e) => thK_yes ⟨h, he, g⟩)
      have HKN := Lib.hid (fun (g : ¬ thE n Z m Y ≤ e) => thK_no (n := n) (z := Z) (m := m) (y := Y) (e := e) (fun k => g k.2.2))
      rw [HX.out] at HKY HKN
      obtain ⟨E, eE⟩ : ∃ E, erL Z Y (m - 1) = E := ⟨_, rfl⟩
      rw [eE] at HE HKY HKN
      obtain ⟨va, vc, rfl⟩ := hv.shape
      obtain ⟨ua, uc, rfl⟩ := hu.shape
      clear hv hu h he eE
      by_cases hk : E ≤ e
      · have HA := Lib.hid (HKY.out hk)
        have hd : decide (E ≤ e) = true := by simp; exact hk
        go_enter Try.func18, Try.ntmps18
        go_wp2_with fail
        refine HT.out.mono ?_
        rintro e' w1 ⟨x, rfl, hk', hb⟩
        have HBW := Lib.hid hb
        have HE1 := Lib.hid (HE.out w1 x hb (Kn.ch _ hk'))
        obtain ⟨xq, rfl⟩ := hk'.ptr
        clear hk' hb
        go_wp2_with fail
        refine (isError_any e _).mono ?_
        rintro e' w2 ⟨rfl, rfl⟩
        rw [HIE.out]
        go_wp2_with fail
        refine HE1.out.mono ?_
        rintro e' w2 ⟨rfl, q, rfl⟩
        have HB2 := Lib.hid (below_drewN HBW.out q)
        go_wp2
        go_ret
        exact bl_post HA.out HB2.out
      · have HA := Lib.hid (HKN.out hk)
        have hd : decide (E ≤ e) = false := by simp; omega
        clear hk
        go_enter Try.func18, Try.ntmps18
        go_wp2_with fail
        refine HT.out.mono ?_
        rintro e' w1 ⟨x, rfl, hk', hb⟩
        have HBW := Lib.hid hb
        have HE1 := Lib.hid (HE.out w1 x hb (Kn.ch _ hk'))
        obtain ⟨xq, rfl⟩ := hk'.ptr
        clear hk' hb
        go_wp2_with fail
        refine (isError_any e _).mono ?_
        rintro e' w2 ⟨rfl, rfl⟩
        rw [HIE.out]
        go_wp2_with fail
        refine HE1.out.mono ?_
        rintro e' w2 ⟨rfl, q, rfl⟩
        have HB2 := Lib.hid (below_drewN HBW.out q)
        go_wp2
        go_ret
        exact bl_post HA.out HB2.out
    · have HIE := Lib.hid (decide_eq_false he)
      have HA := Lib.hid (thK_no (n := n) (z := Z) (m := m) (y := Y) (e := e) (fun k => he k.2.1))
      obtain ⟨va, vc, rfl⟩ := hv.shape
      obtain ⟨ua, uc, rfl⟩ := hu.shape
      clear hv hu h he
      go_enter Try.func18, Try.ntmps18
      go_wp2_with fail
      refine HT.out.mono ?_
      rintro e' w1 ⟨x, rfl, hk', hb⟩
      have HBW := Lib.hid hb
      obtain ⟨xq, rfl⟩ := hk'.ptr
      clear hk' hb
      go_wp2_with fail
      refine (isError_any e _).mono ?_
      rintro e' w2 ⟨rfl, rfl⟩
      rw [HIE.out]
      go_wp2
      go_ret
      exact bl_post HA.out HBW.out
  · have HT := Lib.hid (thinningOf_no v u lo hi lo2 hi2 n m Z Y w hv hu hm h)
    have HA := Lib.hid (thK_no (n := n) (z := Z) (m := m) (y := Y) (e := e) (fun k => h k.1))
    obtain ⟨va, vc, rfl⟩ := hv.shape
    obtain ⟨ua, uc, rfl⟩ := hu.shape
    clear hv hu h
    go_enter Try.func18, Try.ntmps18
    go_wp2_with fail
    refine HT.out.mono ?_
    rintro e' w1 ⟨rfl, hb⟩
    have HBW := Lib.hid hb
    clear hb
    go_wp2
    go_ret
    exact bl_post HA.out HBW.out

set_option maxHeartbeats 4000000 in
set_option maxRecDepth 20000 in
theorem implThinProfile_any (v u : Value) (lo hi lo2 hi2 n m : Nat) (Z Y : Nat → Int) (w : World) (hv : RdI lo hi w v n Z) (hu : RdI lo2 hi2 w u m Y) (hh : hi ≤ w.heap.size) (hh2 : hi2 ≤ w.heap.size) (hm : m ≤ 1048576) :
    Calls Try.prog 39 #[v, u] w (NbPost (thB n Z m Y) (thP n Z m Y) w) := by
  obtain ⟨i0, hi0, hz0, hz1, hz2⟩ := info_parts Try.infoI
  by_cases h : ThOk n Z m Y
  · rw [thP_yes h, thB_yes h]
    have HT := Lib.hid (thinningOf_yes v u lo hi lo2 hi2 n m Z Y w hv hu hh2 h)
    have hn20 := h.1.1.2
    have hn1 := h.1.1.1
    have hmn := h.len
    have HG := Lib.hid (fun (t : Nat) (ht : t < m) => (show ∃ a : Nat, Y t = a ∧ a < n ∧ hgF Z Y t = Z a from by
      obtain ⟨k, hk, hkn, _⟩ := h.nat t ht
      exact ⟨k, hk, hkn, by unfold hgF; rw [hk]; rfl⟩))
    have HDR := Lib.hid (fun (t : Nat) (ht : t < m) => (show (fnL Y m).drop t = Y t :: (fnL Y m).drop (t + 1) from by
      rw [drop_at _ _ (by rw [fnL_len]; exact ht), fnL_z Y m t ht]))
    have HDE := Lib.hid (show (fnL Y m).drop m = [] from List.drop_eq_nil_of_le (by rw [fnL_len]; exact Nat.le_refl _))
    obtain ⟨b1, off1, cap1, rfl, hcap1, _, hbh1, hc1⟩ := hv.open (by omega)
    have HC1 := Lib.hid (fun (W : World) (hb : Below w.heap.size w W) (x : Nat) (hx : x < n) => (hb.cell (p := ⟨b1, off1 + x, none⟩) (by show b1 < _; omega)).trans (hc1 x hx))
    obtain ⟨ua, uc, rfl⟩ := hu.shape
    clear hv hu h hc1
    go_enter Try.func39, Try.ntmps39
    go_wp2_with fail
    refine HT.out.mono ?_
    rintro e w1 ⟨x, rfl, hk, hb⟩
    have HBW := Lib.hid hb
    have HX := Lib.hid (Kn.ch _ hk)
    obtain ⟨xq, rfl⟩ := hk.ptr
    have hs1 := hb.size
    clear hk hb
    go_wp2
    go_loopg [9, 10] (m) (fun g o c wr => ∃ (t : Nat) (u r : Value), t ≤ m ∧ g = m - t ∧ u = c ∧ Ch w1 u ((fnL Y m).drop t) ∧ r = o ∧ Nums w1.heap.size wr r (fnL (hgF Z Y) t) ∧ Below w1.heap.size w1 wr)
    case atStart => exact ⟨0, _, _, by omega, by omega, rfl, by rw [List.drop_zero]; exact HX.out, rfl, nums_none _ _, Below.refl _ _⟩
    case round =>
      obtain ⟨t, u, r, ht, rfl, rfl, hch, rfl, hli, hb⟩ := hrel
      by_cases hlt : t < m
      · rw [HDR.out t hlt] at hch
        obtain ⟨b2, u2, rfl, hb2, hch⟩ := hch
        have hl1 : b2 < w1.heap.size := (Array.getElem?_eq_some_iff.1 hb2).1
        obtain ⟨a, ea, han, eg⟩ := HG.out t hlt
        have han' : (a : Int) < n := by omega
        rw [ea] at hb2
        have D2W := Lib.hid (cells2e hb2).2.1
        have d1 := (hb.cell (p := ⟨b2, 0, none⟩) hl1).trans (cells2e hb2).1
        have c1 := HC1.out wr (HBW.out.trans (hb.mono HBW.out.size)) a han
        have HCH := Lib.hid hch
        obtain ⟨q1, rfl⟩ := hch.ptr
        have HS := Lib.hid (show fnL (hgF Z Y) (t + 1) = fnL (hgF Z Y) t ++ [Z a] by rw [← eg]; rfl)
        have hln := Nat.le_of_eq (fnL_len (hgF Z Y) t)
        have HLI := Lib.hid hli
        have HB := Lib.hid hb
        have hs3 := hb.size
        have hl2 : b2 < wr.heap.size := by omega
        obtain ⟨y, ey⟩ : ∃ y, Z a = y := ⟨_, rfl⟩
        obtain ⟨L, eL⟩ : ∃ L, fnL (hgF Z Y) t = L := ⟨_, rfl⟩
        rw [ey] at c1 HS
        rw [eL] at HLI HS hln
        clear hch hb2 hli hb ey eL ea eg
        go_wp2_with (first | (at_builtin; refine wpList_append_own _ rfl _ _ 23 rfl w1.heap.size 3 i0 (.int .i64 0) 1 8 Try.underlying23 hi0 hz0 hz1 hz2 rfl (by decide) _ L.length (nsV L) rfl (HLI.out.alloc _) ⟨wr.heap.size, 0, none⟩ 1 1 [.int .i64 y] rfl rfl (World.news_of_block (cs := #[.int .i64 y]) (t := 3) (fr := (0, 0)) (heap_alloc_new wr _)) (by simp [Value.oneCell']) (by unfold maxLen; omega) (by omega) (by simp; omega) ?_; intro v' w4 hown4 hg4 _; have HB4 := Lib.hid ((HB.out.alloc HB.out.size (.cells #[.int .i64 y] 3)).grown hg4 (by simp; have := HB.out.size; omega) (fun k hk => (HLI.out.lt k hk).1)); have d2' := (HB4.out.cell (p := ⟨b2, 1, none⟩) hl1).trans D2W.out))
        have HL4 := Lib.hid (nums_push (L := L) (x := y) hown4)
        clear hown4 hg4
        go_wp2
        go_roundg (m - (t + 1))
        case measure => omega
        case rel => exact ⟨t + 1, _, _, by omega, rfl, rfl, HCH.out, rfl, by rw [HS.out]; exact HL4.out, HB4.out⟩
      · have ek : t = m := by omega
        have hnil : u = .pointer none := by rw [ek, HDE.out] at hch; exact hch
        subst hnil
        have HLI := Lib.hid (show Nums w1.heap.size wr r (fnL (hgF Z Y) m) by rw [← ek]; exact hli)
        have HB := Lib.hid (HBW.out.trans (hb.mono HBW.out.size))
        clear ek hch hli hb
        go_wp2
        go_ret2
        exact NbPost.mk' rfl rfl (HLI.out.down hs1) HB.out
  · rw [thP_no h, thB_no h]
    have HT := Lib.hid (thinningOf_no v u lo hi lo2 hi2 n m Z Y w hv hu hm h)
    obtain ⟨va, vc, rfl⟩ := hv.shape
    obtain ⟨ua, uc, rfl⟩ := hu.shape
    clear hv hu h
    go_enter Try.func39, Try.ntmps39
    go_wp2_with fail
    refine HT.out.mono ?_
    rintro e w1 ⟨rfl, hb⟩
    have HBW := Lib.hid hb
    clear hb
    go_wp2
    go_ret2
    exact NbPost.mk' rfl rfl (nums_none _ _) HBW.out

end Go.Proofs.Ytmfdflkpbejpoaa
