/- The model's SettingGreedy. -/
import Derived.Test.YthelaffjpmcdbaaStG
namespace Go.Proofs.Ythelaffjpmcdbaa
open Go.RowKit
set_option linter.unusedVariables false

noncomputable def gdS (Z : Nat → Int) (n : Nat) : Nat → Int := (gW Z n 9).2

/-- nil, or an address -/
def ShN (v : Value) : Prop := v = .slice none 0 0 ∨ ∃ b l c, v = .slice (some ⟨b, 0, none⟩) l c
theorem OwI.shN {lo hi : Nat} {w : World} {v : Value} {n : Nat} {Z : Nat → Int} (h : OwI lo hi w v n Z) : ShN v := by
  rcases h with ⟨rfl, _⟩ | ⟨b, N, cap, F, rfl, _⟩
  · exact Or.inl rfl
  · exact Or.inr ⟨_, _, _, rfl⟩
def LsPostN (b : Bool) (n : Nat) (Z : Nat → Int) (w : World) (e : Ending) (w' : World) : Prop :=
  ∃ v, e = .returned (.tuple #[v, .bool b]) ∧ ShN v ∧ (∃ a l c, v = .slice a l c) ∧ RdI w.heap.size w'.heap.size w' v n Z ∧ Below w.heap.size w w'

set_option maxRecDepth 20000 in
set_option maxHeartbeats 32000000 in
theorem specSettingGreedy_sh (v : Value) (lo hi n : Nat) (Z : Nat → Int) (w : World) (hv : RdT lo hi w v n Z) (hh : hi ≤ w.heap.size) (hn : n ≤ 1048576) :
    Calls Try.prog 39 #[v] w (LsPostN (lsB n Z) (lsN n Z) (gdS Z n) w) := by
  have HB0 := Lib.hid ((Below.refl w.heap.size w).alloc (Nat.le_refl _) (.cells #[] 3))
  have HL0 := Lib.hid (nums_lit w)
  have HV := Lib.hid hv
  have HLV := Lib.hid (specLabelsValid_any v lo hi n Z _ (hv.same (SameIn.below HB0.out hh)) (by have := HB0.out.size; omega) hn)
  obtain ⟨av, cv, rfl⟩ := hv.shape
  obtain ⟨i0, hi0, hz0, hz1, hz2⟩ := info_parts Try.infoI
  unfold lsN
  by_cases hok : LsOk n Z
  case neg =>
    rw [lsB_no hok] at HLV
    rw [lsB_no hok]
    clear hok hv
    go_enter Try.func39, Try.ntmps39
    go_wp2_with fail
    refine HLV.out.mono ?_
    rintro e w1 ⟨rfl, hb1⟩
    have HB1 := Lib.hid (HB0.out.trans (hb1.mono HB0.out.size))
    have HL1 := Lib.hid (HL0.out.below hb1 (Nat.le_refl _))
    clear hb1
    go_wp2
    go_ret2
    exact ⟨_, rfl, Or.inr ⟨_, _, _, rfl⟩, ⟨_, _, _, rfl⟩, rdG_none (HL1.out.rdI (fun x hx => by simp at hx)), HB1.out⟩
  rw [lsB_yes hok] at HLV
  rw [lsB_yes hok, if_pos rfl]
  have HOK := Lib.hid hok
  have hn6 := hok.1
  clear hok
  obtain ⟨ao', cap', b, off, he, _, _, _, h5, h6⟩ := hv
  simp only [Value.slice.injEq] at he
  obtain ⟨rfl, _, rfl⟩ := he
  have H6 := Lib.hid h6
  clear h6
  go_enter Try.func39, Try.ntmps39
  go_wp2_with fail
  refine HLV.out.mono ?_
  rintro e w1 ⟨rfl, hb1⟩
  have HB1 := Lib.hid (HB0.out.trans (hb1.mono HB0.out.size))
  have HL1 := Lib.hid (HL0.out.below hb1 (Nat.le_refl _))
  clear hb1
  go_wp2
  go_loopw [4, 5] (fun o c wr => ∃ (i : Nat) (q : Value), i ≤ n ∧ c = .int .i64 i ∧ q = o ∧ Nums w.heap.size wr q (fnL (fun _ => -1) i) ∧ Below w.heap.size w wr) (fun _ c _ => n - (intOf c).toNat)
  case atStart => exact ⟨0, _, Nat.zero_le _, rfl, rfl, HL1.out, HB1.out⟩
  case round =>
    obtain ⟨i, q, hle, rfl, rfl, hnu, hbel⟩ := hrel
    have HNU := Lib.hid hnu
    have HBL := Lib.hid hbel
    have hln := fnL_len (fun _ => (-1 : Int)) i
    clear hnu
    by_cases hlt : i < n
    · have hlt' : (i : Int) < n := by omega
      have HCS := Lib.hid (show fnL (fun _ => (-1 : Int)) (i + 1) = fnL (fun _ => -1) i ++ [-1] from rfl)
      obtain ⟨L, eL⟩ : ∃ L, fnL (fun _ => (-1 : Int)) i = L := ⟨_, rfl⟩
      rw [eL] at HCS HNU hln
      have hsz := hbel.size
      clear hbel eL h5
      go_wp2_with (first | (at_builtin; refine wpList_append_own _ rfl _ _ 26 rfl w.heap.size 3 i0 (.int .i64 0) 1 8 Try.underlying26 hi0 hz0 hz1 hz2 rfl (by decide) _ L.length (nsV L) rfl (HNU.out.alloc _) ⟨wr.heap.size, 0, none⟩ 1 1 [.int .i64 (-1)] rfl rfl (World.news_of_block (cs := #[.int .i64 (-1)]) (t := 3) (fr := (0, 0)) (heap_alloc_new wr _)) (by simp [Value.oneCell']) (by unfold maxLen; omega) (by omega) (by simp; omega) ?_; intro v' w4 hown4 hg4 _; have HO4 := Lib.hid hown4; have HG4 := Lib.hid hg4; clear hown4 hg4))
      have HB4 := Lib.hid ((HBL.out.alloc HBL.out.size (.cells #[.int .i64 (-1)] 3)).grown HG4.out (by simp; omega) (fun k hk => (HNU.out.lt k hk).1))
      have HL4 := Lib.hid (nums_push (L := L) (x := -1) HO4.out)
      go_wp2
      go_roundw
      case rel => exact ⟨i + 1, _, by omega, by go_num, rfl, by rw [HCS.out]; exact HL4.out, HB4.out⟩
      case measure => simp [intOf]; omega
    obtain rfl : i = n := by omega
    clear hlt
    obtain ⟨aq, cq, rfl⟩ := HNU.out.shape
    rw [hln]
    have HOW := Lib.hid (show OwI w.heap.size wr.heap.size wr (.slice aq i cq) i (fun _ => -1) by
      have h := HNU.out.owI (fnL_ok (fun _ _ => by omega))
      rw [hln] at h
      exact owG_congr h (fun j hj => fnL_z _ _ _ hj))
    have hsz := hbel.size
    have HM := Lib.hid (l8Map_any _ lo hi i Z wr (HV.out.same (SameIn.below hbel hh)) (by omega) HOK.out)
    clear hbel hle hln HNU
    go_wp2_with fail
    refine HM.out.mono ?_
    rintro e w2 ⟨vm, rfl, ⟨ma, ml, mc, rfl⟩, hrd, hb2⟩
    have HB2 := Lib.hid (HBL.out.trans (hb2.mono hsz))
    have HGM := Lib.hid (show Gm w.heap.size w2 (.slice aq i cq) (.slice ma ml mc) i (gW Z i 0) from ⟨wr.heap.size, hsz, hb2.size, HOW.out.same (SameIn.below hb2 (Nat.le_refl _)), hrd⟩)
    clear hb2 hrd HOW
    go_wp2
    go_loopw [6, 7] (fun u c w5 => ∃ (t : Nat) (wt : Int), t ≤ 9 ∧ wt = 9 - (t : Int) ∧ c = .int .i64 wt ∧ (∃ a l c', u = .slice a l c') ∧ Gm w.heap.size w5 (.slice aq i cq) u i (gW Z i t) ∧ Below w.heap.size w w5) (fun _ c _ => (intOf c).toNat)
    case atStart => exact ⟨0, 9, by omega, by omega, rfl, ⟨_, _, _, rfl⟩, HGM.out, HB2.out⟩
    case round =>
      obtain ⟨t, wt, ht, hwt, rfl, ⟨ua, ul, uc, rfl⟩, hgm, hbel⟩ := hrel
      have HGM5 := Lib.hid hgm
      have HB5 := Lib.hid hbel
      clear hgm
      have hbz := hbel.size
      by_cases ht9 : t < 9
      case neg =>
        obtain rfl : t = 9 := by omega
        have hw1 : ¬ (1 : Int) ≤ wt := by omega
        clear hbel
        go_wp2
        go_ret2
        exact ⟨_, rfl, by
          obtain ⟨t, h1, h2, h3, _⟩ := HGM5.out
          exact OwI.shN h3, ⟨_, _, _, rfl⟩, by
          obtain ⟨t, h1, h2, h3, _⟩ := HGM5.out
          exact h3.rd.mono (Nat.le_refl _) h2, HB5.out⟩
      have hw1 : (1 : Int) ≤ wt := by omega
      have HGW := Lib.hid (show gW Z i (t + 1) = gR Z wt (gW Z i t) i by rw [hwt]; rfl)
      have HG0 := Lib.hid (gW_ok Z i hn6 t)
      have HWT := Lib.hid hwt
      have hw9 : wt ≤ 9 := by omega
      clear hwt
      obtain ⟨p, ep⟩ : ∃ p, gW Z i t = p := ⟨_, rfl⟩
      rw [ep] at HGW HG0 HGM5
      clear hbel ep
      go_wp2
      go_loopw [6, 8] (fun u c w6 => ∃ (k : Nat), k ≤ i ∧ c = .int .i64 k ∧ (∃ a l c', u = .slice a l c') ∧ Gm w.heap.size w6 (.slice aq i cq) u i (gR Z wt p k) ∧ Below w.heap.size w w6) (fun _ c _ => i - (intOf c).toNat)
      case atStart => exact ⟨0, Nat.zero_le _, rfl, ⟨_, _, _, rfl⟩, HGM5.out, HB5.out⟩
      case round =>
        obtain ⟨k, hk, rfl, ⟨ua, ul, uc, rfl⟩, hgm, hbel⟩ := hrel
        have HGM6 := Lib.hid hgm
        have HB6 := Lib.hid hbel
        clear hgm
        have hbz := hbel.size
        by_cases hki : k < i
        case neg =>
          obtain rfl : k = i := by omega
          clear hbel
          go_wp2
          go_roundw
          case rel => exact ⟨t + 1, wt - 1, by omega, by have := HWT.out; omega, by go_num, ⟨_, _, _, rfl⟩, by rw [HGW.out]; exact HGM6.out, HB6.out⟩
          case measure => simp [intOf]; omega
        have hki' : (k : Int) < i := by omega
        have HGR := Lib.hid (show gR Z wt p (k + 1) = gI Z wt k (gR Z wt p k) 4 from rfl)
        have HG1 := Lib.hid (gR_ok (Z := Z) (wt := wt) HG0.out k (by omega))
        obtain ⟨p1, ep1⟩ : ∃ p1, gR Z wt p k = p1 := ⟨_, rfl⟩
        rw [ep1] at HGR HG1 HGM6
        clear hbel ep1
        go_wp2
        go_loopw [6, 9] (fun u c w7 => ∃ (s : Nat), s ≤ 4 ∧ c = .int .i64 s ∧ (∃ a l c', u = .slice a l c') ∧ Gm w.heap.size w7 (.slice aq i cq) u i (gI Z wt k p1 s) ∧ Below w.heap.size w w7) (fun _ c _ => 4 - (intOf c).toNat)
        case atStart => exact ⟨0, Nat.zero_le _, rfl, ⟨_, _, _, rfl⟩, by rw [gI_zero]; exact HGM6.out, HB6.out⟩
        case round =>
          obtain ⟨s, hs, rfl, ⟨ua, ul, uc, rfl⟩, hgm, hbel⟩ := hrel
          have HGM7 := Lib.hid hgm
          have HB7 := Lib.hid hbel
          have hbz := hbel.size
          obtain ⟨rfl, hbl1, hbl2⟩ := h5 (by omega)
          obtain ⟨c0, c1, c2, c3⟩ := four_of (w := wr) (fun j hj => (hbel.cell (p := ⟨b, off + j, none⟩) (by show b < _; omega)).trans (H6.out j hj)) hki
          have HG2 := Lib.hid (gI_ok (Z := Z) (wt := wt) HG1.out (show k < 6 by omega) s hs)
          obtain ⟨p2, ep2⟩ : ∃ p2, gI Z wt k p1 s = p2 := ⟨_, rfl⟩
          have HP2 := Lib.hid ep2
          rw [ep2] at HG2 HGM7 hgm
          obtain ⟨tt, ht1, ht2, how, hmp⟩ := hgm
          obtain ⟨bo, co, eo, hbo1, hbo2, hco, hcell, hfro, _⟩ := owG_open how (show 0 < i by omega)
          simp only [Value.slice.injEq] at eo
          obtain ⟨rfl, _, rfl⟩ := eo
          have d1 := hcell k hki
          have hb2k := HG2.out.2 k
          obtain ⟨y, ey⟩ : ∃ y, p2.2 k = y := ⟨_, rfl⟩
          have HY := Lib.hid ey
          rw [ey] at d1 hb2k
          obtain ⟨z, ez⟩ : ∃ z, Z (k * 4 + 3) = z := ⟨_, rfl⟩
          have HZZ := Lib.hid ez
          clear hbel ep2 how hcell hfro ey
          by_cases hs4 : s < 4
          case neg =>
            obtain rfl : s = 4 := by omega
            clear ez c0 c1 c2 c3 hmp
            go_wp2
            go_roundw
            case rel => exact ⟨k + 1, by omega, by go_num, ⟨_, _, _, rfl⟩, by rw [HGR.out, HP2.out]; exact HGM7.out, HB7.out⟩
            case measure => simp [intOf]; omega
          have hs4' : (s : Int) < 4 := by omega
          by_cases hzw : z = wt
          case neg =>
            have hne : (z == wt) = false := by simpa using hzw
            have HE := Lib.hid (gI_other (Z := Z) (wt := wt) (k := k) (p := p1) (j := s) (show ¬ Z (k * 4 + 3) = wt by rw [ez]; exact hzw))
            rw [ez] at c3
            clear ez c0 c1 c2 hzw hmp
            go_wp2
            go_roundw
            case rel => exact ⟨k + 1, by omega, by go_num, ⟨_, _, _, rfl⟩, by rw [HGR.out, HE.out, HP2.out]; exact HGM7.out, HB7.out⟩
            case measure => simp [intOf]; omega
          have hne : (z == wt) = true := by simpa using hzw
          have HST := Lib.hid (gI_step (Z := Z) (wt := wt) (k := k) (p := p1) (j := s) (show Z (k * 4 + 3) = wt by rw [ez]; exact hzw))
          rw [HP2.out] at HST
          by_cases hy : y < 0
          case neg =>
            have HE := Lib.hid (gI_stay (Z := Z) (wt := wt) (k := k) (p := p1) hs (by rw [HP2.out, HY.out]; exact hy))
            rw [ez] at c3
            clear ez c0 c1 c2 hzw hmp
            go_wp2
            go_roundw
            case rel => exact ⟨k + 1, by omega, by go_num, ⟨_, _, _, rfl⟩, by rw [HGR.out, HE.out, HP2.out]; exact HGM7.out, HB7.out⟩
            case measure => simp [intOf]; omega
          have HSE := Lib.hid (l8Set_any _ tt wr.heap.size Z p2.1 k s wr hmp (Nat.le_refl _) HG2.out.1 (by omega) (HOK.out.2 k hki) ⟨by omega, by omega⟩)
          rw [ez] at HSE c3
          by_cases hf : Fit Z p2.1 k s
          case neg =>
            have HS := Lib.hid (HSE.out.mono (fun _ _ h => h.2 hf))
            have HE := Lib.hid (gs1_not (p := p2) hf)
            clear HSE hf ez hmp hzw
            go_wp2_with fail
            refine HS.out.mono ?_
            rintro e w8 ⟨vn, rfl, ⟨na, nl, nc, rfl⟩, hb8⟩
            have HB8 := Lib.hid (HB7.out.trans (hb8.mono hbz))
            have HGM8 := Lib.hid (HGM7.out.below hb8)
            clear hb8 c0 c1 c2 c3 d1
            go_wp2
            go_roundw
            case rel => exact ⟨s + 1, by omega, by go_num, ⟨_, _, _, rfl⟩, by rw [HST.out, HE.out]; exact HGM8.out, HB8.out⟩
            case measure => simp [intOf]; omega
          have HS := Lib.hid (HSE.out.mono (fun _ _ h => h.1 hf))
          have HE := Lib.hid (gs1_set (p := p2) (show p2.2 k < 0 by rw [HY.out]; exact hy) hf)
          clear HSE hf ez hmp hzw
          go_wp2_with fail
          refine HS.out.mono ?_
          rintro e w8 ⟨vn, rfl, ⟨na, nl, nc, rfl⟩, hrd8, hb8⟩
          have HB8 := Lib.hid (HB7.out.trans (hb8.mono hbz))
          obtain ⟨bx, cx, ex, k1, k2, k3, k4, ⟨yx, k5⟩, k6⟩ := HGM7.out.next hb8 hrd8 k hki s ⟨by omega, by omega⟩
          simp only [Value.slice.injEq, Option.some.injEq, Addr.mk.injEq, true_and] at ex
          obtain ⟨⟨rfl, _⟩, rfl⟩ := ex
          have HGM8 := Lib.hid k6
          clear hb8 hrd8 c0 c1 c2 c3 d1 k6
          go_wp2
          go_roundw
          case rel => exact ⟨s + 1, by omega, by go_num, ⟨_, _, _, rfl⟩, by rw [HST.out, HE.out]; exact HGM8.out, HB8.out.setCell k1 _⟩
          case measure => simp [intOf]; omega
theorem specSettingGreedy_any (v : Value) (lo hi n : Nat) (Z : Nat → Int) (w : World) (hv : RdT lo hi w v n Z) (hh : hi ≤ w.heap.size) (hn : n ≤ 1048576) :
    Calls Try.prog 39 #[v] w (LsPost (lsB n Z) (lsN n Z) (gdS Z n) w) :=
  (specSettingGreedy_sh v lo hi n Z w hv hh hn).mono fun _ _ ⟨v', h1, _, h2, h3, h4⟩ => ⟨v', h1, h2, h3, h4⟩
end Go.Proofs.Ythelaffjpmcdbaa
