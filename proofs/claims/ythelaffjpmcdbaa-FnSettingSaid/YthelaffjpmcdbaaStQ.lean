/- SettingBest of the model. -/
import Derived.Test.YthelaffjpmcdbaaStZ
import Derived.Maps.AppendAt
namespace Go.Proofs.Ythelaffjpmcdbaa
open Go.RowKit
set_option linter.unusedVariables false

theorem gk_ok (Z : Nat → Int) (n : Nat) : ∀ i, i ≤ 6 → MpOk (gk Z n i).2 := by
  intro i
  induction i with
  | zero => intro _; exact mpK_ok Z n
  | succ i ih =>
    intro hi
    simp only [gk]
    split
    · exact ih (by omega)
    · exact stp_ok (ih (by omega)) (by omega)
/-- the map when the search stands at a side -/
noncomputable def mpc (Z : Nat → Int) (i : Nat) (M : Nat → Int) (c : Int) : Nat → Int := if c < 0 then M else stp Z M i c
theorem gk_mpc (Z : Nat → Int) (n i : Nat) : (gk Z n (i + 1)).2 = mpc Z i (gk Z n i).2 (csV Z n i (gk Z n i).2) := by
  simp only [gk, mpc]
  split <;> rfl
theorem cs_ok (Z : Nat → Int) (n k : Nat) : NsOk (fnL (cs Z n) k) := fnL_ok (fun i _ => by
  have := ch1_ge (Z := Z) (k := i) (M := (gk Z n i).2) (o := ow Z true i) (best := bst Z true (n - i) i (gk Z n i).2) (r := bst Z true (n - i - 1) (i + 1)) 4
  unfold cs csV
  omega)

/-- a map to read apart from a list that grows -/
def Apart (w : World) (q u : Value) (M : Nat → Int) : Prop := ∃ bm, RdI bm (bm + 1) w u 100 M ∧ bm < w.heap.size ∧ ∀ r, q.ownBlock = some r → r ≠ bm
theorem RdI.pin {lo hi : Nat} {w : World} {v : Value} {n : Nat} {Z : Nat → Int} (h : RdI lo hi w v n Z) (h0 : 0 < n) : ∃ b, lo ≤ b ∧ b < hi ∧ b < w.heap.size ∧ RdI b (b + 1) w v n Z := by
  have hr := h.range
  obtain ⟨b, off, cap, rfl, h1, h2, h3, h4⟩ := h.open h0
  obtain ⟨ao, cap', b', off', he, _, h6, _⟩ := h
  simp only [Value.slice.injEq] at he
  exact ⟨b, h2, h3, World.block_lt_of_cell? _ _ (h4 0 h0), _, cap, b, off, rfl, h1, by omega, hr, fun _ => ⟨rfl, Nat.le_refl _, Nat.lt_succ_self _⟩, h4⟩
theorem Apart.rd {w : World} {q u : Value} {M : Nat → Int} (h : Apart w q u M) : RdI 0 w.heap.size w u 100 M := by
  obtain ⟨bm, h1, h2, _⟩ := h
  exact h1.mono (Nat.zero_le _) (by omega)
theorem Apart.below {w w' : World} {q u : Value} {M : Nat → Int} (h : Apart w q u M) (hb : Below w.heap.size w w') : Apart w' q u M := by
  obtain ⟨bm, h1, h2, h3⟩ := h
  exact ⟨bm, h1.same (SameIn.below hb (by omega)), by have := hb.size; omega, h3⟩
theorem Apart.fresh {w w' : World} {q u : Value} {M : Nat → Int} {B : Nat} {L : List Int} (hq : Nums B w q L) (h : RdI w.heap.size w'.heap.size w' u 100 M) : Apart w' q u M := by
  obtain ⟨b, h1, _, h3, h4⟩ := h.pin (by omega)
  exact ⟨b, h4, h3, fun r hr => by have := (hq.lt r hr).2; omega⟩
theorem Apart.push {w w4 : World} {q v' u : Value} {M : Nat → Int} {o : Obj} (h : Apart w q u M) (hg : (w.alloc o).grownBy w4 q.ownBlock) (hat : v'.ownBlock = q.ownBlock ∨ v'.ownBlock = some (w.alloc o).heap.size) : Apart w4 v' u M := by
  obtain ⟨bm, h1, h2, h3⟩ := h
  have hs := hg.size
  rw [World.size_alloc] at hs
  refine ⟨bm, h1.same (fun r k1 k2 => ?_), by omega, fun r hr => ?_⟩
  · obtain rfl : r = bm := by omega
    exact (hg.block r (by rw [World.size_alloc]; omega) (fun e => h3 r e.symm rfl)).trans (Below.heap_alloc w o _ h2)
  · rcases hat with e | e
    · exact h3 r (e ▸ hr)
    · rw [e, World.size_alloc] at hr
      simp only [Option.some.injEq] at hr
      omega

set_option maxRecDepth 20000 in
set_option maxHeartbeats 32000000 in
theorem specSettingBest_any (v : Value) (lo hi n : Nat) (Z : Nat → Int) (w : World) (hv : RdT lo hi w v n Z) (hh : hi ≤ w.heap.size) (hn : n ≤ 1048576) :
    Calls Try.prog 42 #[v] w (NbPost (lsB n Z) (fnL (cs Z n) (lsN n Z)) w) := by
  have HB0 := Lib.hid ((Below.refl w.heap.size w).alloc (Nat.le_refl _) (.cells #[] 3))
  have HL0 := Lib.hid (nums_lit w)
  have HV := Lib.hid hv
  have HLV := Lib.hid (specLabelsValid_any v lo hi n Z _ (hv.same (SameIn.below HB0.out hh)) (by have := HB0.out.size; omega) hn)
  obtain ⟨av, cv, rfl⟩ := hv.shape
  obtain ⟨i0, hi0, hz0, hz1, hz2⟩ := info_parts Try.infoI
  unfold lsN
  by_cases hok : LsOk n Z
  case neg =>
    rw [lsB_no hok] at HLV
    rw [lsB_no hok]
    clear hok hv
    go_enter Try.func42, Try.ntmps42
    go_wp2_with fail
    refine HLV.out.mono ?_
    rintro e w1 ⟨rfl, hb1⟩
    have HB1 := Lib.hid (HB0.out.trans (hb1.mono HB0.out.size))
    have HL1 := Lib.hid (HL0.out.below hb1 (Nat.le_refl _))
    clear hb1
    go_wp2
    go_ret2
    exact ⟨_, rfl, HL1.out, HB1.out⟩
  rw [lsB_yes hok] at HLV
  rw [lsB_yes hok, if_pos rfl]
  have HOK := Lib.hid hok
  have hn6 := hok.1
  clear hok
  obtain ⟨ao', cap', b, off, he, _, _, _, h5, h6⟩ := hv
  simp only [Value.slice.injEq] at he
  obtain ⟨rfl, _, rfl⟩ := he
  have H6 := Lib.hid h6
  clear h6
  go_enter Try.func42, Try.ntmps42
  go_wp2_with fail
  refine HLV.out.mono ?_
  rintro e w1 ⟨rfl, hb1⟩
  have HB1 := Lib.hid (HB0.out.trans (hb1.mono HB0.out.size))
  have HL1 := Lib.hid (HL0.out.below hb1 (Nat.le_refl _))
  have hs1 := HB1.out.size
  have HM := Lib.hid (l8Map_any _ lo hi n Z w1 (HV.out.same (SameIn.below HB1.out hh)) (by omega) HOK.out)
  clear hb1
  go_wp2_with fail
  refine HM.out.mono ?_
  rintro e w2 ⟨vm, rfl, ⟨ma, ml, mc, rfl⟩, hrd, hb2⟩
  have HB2 := Lib.hid (HB1.out.trans (hb2.mono hs1))
  have HL2 := Lib.hid (HL1.out.below hb2 (Nat.le_refl _))
  have HRD := Lib.hid hrd
  clear hb2 hrd
  go_wp2
  go_loopw [4, 5, 6] (fun o u c wr => ∃ (i : Nat) (q : Value), i ≤ n ∧ c = .int .i64 i ∧ q = o ∧ Nums w.heap.size wr q (fnL (cs Z n) i) ∧ (∃ a l c', u = .slice a l c') ∧ Apart wr q u (gk Z n i).2 ∧ Below w.heap.size w wr) (fun _ _ c _ => n - (intOf c).toNat)
  case atStart => exact ⟨0, _, Nat.zero_le _, rfl, rfl, HL2.out, ⟨_, _, _, rfl⟩, Apart.fresh HL1.out HRD.out, HB2.out⟩
  case round =>
    obtain ⟨i, q, hle, rfl, rfl, hnu, ⟨ua, ul, uc, rfl⟩, hrd, hbel⟩ := hrel
    have HNU := Lib.hid hnu
    have HRD1 := Lib.hid hrd
    have HBL := Lib.hid hbel
    have hln := fnL_len (cs Z n) i
    clear hnu hrd
    by_cases hlt : i < n
    · obtain ⟨rfl, hbl1, hbl2⟩ := h5 (by omega)
      have hlt' : (i : Int) < n := by omega
      have hi1 : ((i + 1 : Nat) : Int) = (i : Int) + 1 := by omega
      obtain ⟨M, eM⟩ : ∃ M, (gk Z n i).2 = M := ⟨_, rfl⟩
      have HMO := Lib.hid (gk_ok Z n i (by omega))
      have HCS := Lib.hid (show fnL (cs Z n) (i + 1) = fnL (cs Z n) i ++ [csV Z n i M] by rw [← eM]; rfl)
      have HGM := Lib.hid (gk_mpc Z n i)
      rw [eM] at HMO HRD1 HGM
      obtain ⟨f, hf⟩ : ∃ f, n - i = f + 1 := ⟨n - i - 1, by omega⟩
      have HCV := Lib.hid (show csV Z n i M = ch1 Z i M (ow Z true i) (bst Z true (f + 1) i M) (bst Z true f (i + 1)) 4 by unfold csV; rw [hf]; rfl)
      rw [HCV.out] at HCS HGM
      have hbz := hbel.size
      have HA := Lib.hid (l8Best_any n Z true HOK.out (f + 1) i _ lo hi _ _ _ M wr (by omega) (HV.out.same (SameIn.below hbel hh)) (by omega) HRD1.out.rd (Nat.le_refl _) HMO.out)
      have hbr := bst_range (b := true) HOK.out (f + 1) i M (by omega)
      have HBR := Lib.hid (fun M => bst_range (b := true) HOK.out f (i + 1) M (by omega))
      obtain ⟨V, eV⟩ : ∃ V, bst Z true (f + 1) i M = V := ⟨_, rfl⟩
      obtain ⟨o, eo⟩ : ∃ o, ow Z true i = o := ⟨_, rfl⟩
      have ho : 1 ≤ o ∧ o ≤ 9 := by rw [← eo]; exact (HOK.out.2 i hlt).1.2.2.2
      have HEO := Lib.hid (show Z (i * 4 + 3) = o from eo)
      rw [eV] at HA hbr HCS HGM
      rw [eo] at HCS HGM
      obtain ⟨L, eL⟩ : ∃ L, fnL (cs Z n) i = L := ⟨_, rfl⟩
      rw [eL] at HCS HNU hln
      clear eM HCV eV eo eL h5 hbel
      go_wp2_with fail
      refine HA.out.mono ?_
      rintro e w3 ⟨rfl, hb3⟩
      have HB3 := Lib.hid (HBL.out.trans (hb3.mono hbz))
      have HNU3 := Lib.hid (HNU.out.below hb3 (Nat.le_refl _))
      have HRD3 := Lib.hid (HRD1.out.below hb3)
      have hsz3 := hb3.size
      have HZ := Lib.hid (HOK.out.2 i hlt)
      clear hb3 HA HNU HRD1
      go_wp2
      go_loopw [5, 8, 9] (fun u c s wq => ∃ k : Nat, k ≤ 4 ∧ s = .int .i64 k ∧ c = .int .i64 (ch1 Z i M o V (bst Z true f (i + 1)) k) ∧ (∃ a l c', u = .slice a l c') ∧ Apart wq q u (mpc Z i M (ch1 Z i M o V (bst Z true f (i + 1)) k)) ∧ Nums w.heap.size wq q L ∧ Below w.heap.size w wq) (fun _ _ s _ => 4 - (intOf s).toNat)
      case atStart => exact ⟨0, by omega, rfl, rfl, ⟨_, _, _, rfl⟩, HRD3.out, HNU3.out, HB3.out⟩
      case round =>
        obtain ⟨k, hk, rfl, rfl, ⟨pa, pl, pc, rfl⟩, hrd, hnu, hbel⟩ := hrel
        have HNU := Lib.hid hnu
        have HRP := Lib.hid hrd
        have HBQ := Lib.hid hbel
        have hge := ch1_ge (Z := Z) (k := i) (M := M) (o := o) (best := V) (r := bst Z true f (i + 1)) k
        have hbq := hbel.size
        obtain ⟨c, ec⟩ : ∃ c, ch1 Z i M o V (bst Z true f (i + 1)) k = c := ⟨_, rfl⟩
        have HEC := Lib.hid ec
        rw [ec] at HRP hge
        rw [ec]
        clear hnu hrd ec
        by_cases hgo : k < 4 ∧ c < 0
        case neg =>
          have HC4 := Lib.hid (show ch1 Z i M o V (bst Z true f (i + 1)) 4 = c from by
            by_cases h4 : k = 4
            · subst h4; exact HEC.out
            · rw [ch1_stay (s := k) (by rw [HEC.out]; omega) 4 (by omega), HEC.out])
          rw [HC4.out] at HCS HGM
          have HLN := HNU
          by_cases hk4 : k < 4
          · have hk4' : (k : Int) < 4 := by omega
            have hc0 : ¬ c < 0 := fun h => hgo ⟨hk4, h⟩
            clear hgo hbel
            go_wp2_with (first | (at_builtin; refine wpList_append_own_at _ rfl _ _ 26 rfl w.heap.size 3 i0 (.int .i64 0) 1 8 Try.underlying26 hi0 hz0 hz1 hz2 rfl (by decide) _ L.length (nsV L) rfl (HLN.out.alloc _) ⟨wr.heap.size, 0, none⟩ 1 1 [.int .i64 c] rfl rfl (World.news_of_block (cs := #[.int .i64 c]) (t := 3) (fr := (0, 0)) (heap_alloc_new wr _)) (by simp [Value.oneCell']) (by unfold maxLen; omega) (by omega) (by simp; omega) ?_; intro v' w4 hown4 hg4 _ hat4; have HO4 := Lib.hid hown4; have HG4 := Lib.hid hg4; have HAT := Lib.hid hat4; clear hown4 hg4 hat4))
            have HB4 := Lib.hid ((HBQ.out.alloc HBQ.out.size (.cells #[.int .i64 c] 3)).grown HG4.out (by simp; omega) (fun k hk => (HLN.out.lt k hk).1))
            have HL4 := Lib.hid (nums_push (L := L) (x := c) HO4.out)
            have HRP4 := Lib.hid (HRP.out.push HG4.out HAT.out)
            go_wp2
            go_roundw
            case rel => exact ⟨i + 1, _, by omega, by go_num, rfl, by rw [HCS.out]; exact HL4.out, ⟨_, _, _, rfl⟩, by rw [HGM.out]; exact HRP4.out, HB4.out⟩
            case measure => simp [intOf]; omega
          · have hk4' : ¬ (k : Int) < 4 := by omega
            clear hgo hbel
            go_wp2_with (first | (at_builtin; refine wpList_append_own_at _ rfl _ _ 26 rfl w.heap.size 3 i0 (.int .i64 0) 1 8 Try.underlying26 hi0 hz0 hz1 hz2 rfl (by decide) _ L.length (nsV L) rfl (HLN.out.alloc _) ⟨wr.heap.size, 0, none⟩ 1 1 [.int .i64 c] rfl rfl (World.news_of_block (cs := #[.int .i64 c]) (t := 3) (fr := (0, 0)) (heap_alloc_new wr _)) (by simp [Value.oneCell']) (by unfold maxLen; omega) (by omega) (by simp; omega) ?_; intro v' w4 hown4 hg4 _ hat4; have HO4 := Lib.hid hown4; have HG4 := Lib.hid hg4; have HAT := Lib.hid hat4; clear hown4 hg4 hat4))
            have HB4 := Lib.hid ((HBQ.out.alloc HBQ.out.size (.cells #[.int .i64 c] 3)).grown HG4.out (by simp; omega) (fun k hk => (HLN.out.lt k hk).1))
            have HL4 := Lib.hid (nums_push (L := L) (x := c) HO4.out)
            have HRP4 := Lib.hid (HRP.out.push HG4.out HAT.out)
            go_wp2
            go_roundw
            case rel => exact ⟨i + 1, _, by omega, by go_num, rfl, by rw [HCS.out]; exact HL4.out, ⟨_, _, _, rfl⟩, by rw [HGM.out]; exact HRP4.out, HB4.out⟩
            case measure => simp [intOf]; omega
        obtain ⟨hk4, hc0⟩ := hgo
        have hk4' : (k : Int) < 4 := by omega
        have hc1 : c = -1 := by omega
        subst hc1
        have HMM := Lib.hid (show mpc Z i M (-1) = M from if_pos (by omega))
        rw [HMM.out] at HRP
        obtain ⟨c0, c1, c2, c3⟩ := four_of (w := wr) (fun j hj => (hbel.cell (p := ⟨b, off + j, none⟩) (by show b < _; omega)).trans (H6.out j hj)) hlt
        have HSE := Lib.hid (l8Set_any _ 0 _ Z M i k wr HRP.out.rd (Nat.le_refl _) HMO.out (by omega) HZ.out ⟨by omega, by omega⟩)
        clear hbel hc0
        by_cases hft : Fit Z M i k
        · have HS := Lib.hid (HSE.out.mono (fun _ _ h => h.1 hft))
          have HMO2 := Lib.hid (stp_ok (Z := Z) (s := k) HMO.out (show i < 6 by omega))
          have HFT := Lib.hid hft
          clear HSE hft
          go_wp2_with fail
          refine HS.out.mono ?_
          rintro e w4 ⟨vn, rfl, ⟨na, nl, nc, rfl⟩, hrd4, hb4⟩
          have HB4 := Lib.hid (HBQ.out.trans (hb4.mono HBQ.out.size))
          have HNU4 := Lib.hid (HNU.out.below hb4 (Nat.le_refl _))
          have HAP4 := Lib.hid (Apart.fresh HNU.out hrd4)
          have hsz4 := HB4.out.size
          have d3 : w4.cell? ⟨b, off + i * 4 + 3, none⟩ = some (.int .i64 o) := by rw [← HEO.out]; exact (hb4.cell (p := ⟨b, off + i * 4 + 3, none⟩) (by show b < _; omega)).trans c3
          have HD3 := Lib.hid (fun (W : World) (hb : Below w4.heap.size w4 W) => (hb.cell (p := ⟨b, off + i * 4 + 3, none⟩) (by show b < _; omega)).trans d3)
          obtain ⟨y, ey⟩ : ∃ y, bst Z true f (i + 1) (stp Z M i k) = y := ⟨_, rfl⟩
          have hy := HBR.out (stp Z M i k)
          have HWR := Lib.hid (show IntKind.i64.wrap ((i : Int) + 1) = (i : Int) + 1 by rw [IntKind.wrap_i64]; omega)
          have HA := Lib.hid (show Calls Try.prog 70 #[.slice (some ⟨b, off, none⟩) n cv, .slice na nl nc, .int .i64 (IntKind.i64.wrap ((i : Int) + 1)), .bool true] w4.drew (IntPost y w4.drew) by
            rw [HWR.out, ← hi1, ← ey]
            exact l8Best_any n Z true HOK.out f (i + 1) _ lo hi _ _ _ (stp Z M i k) w4.drew (by omega) ((HV.out.same (SameIn.below HB4.out hh)).same (fun _ _ _ => rfl)) (by show hi ≤ w4.heap.size; omega) (hrd4.same (fun _ _ _ => rfl)) (Nat.le_refl _) HMO2.out)
          rw [ey] at hy
          have HEY := Lib.hid ey
          have hb4' := hb4
          clear hb4 hrd4 c0 c1 c2 c3 ey
          by_cases hV : o + y = V
          · clear hb4'
            have HCH := Lib.hid (ch1_yes (o := o) (best := V) (r := bst Z true f (i + 1)) (show ch1 Z i M o V (bst Z true f (i + 1)) k < 0 by rw [HEC.out]; omega) HFT.out (by rw [HEY.out]; exact hV))
            have HMP := Lib.hid (show mpc Z i M (k : Int) = stp Z M i k from if_neg (by omega))
            have hVe : (IntKind.i64.wrap (o + y) == V) = true := by rw [IntKind.wrap_i64]; simp; omega
            clear hV
            go_wp2_with fail
            go_region_held3 (fun w' => w'.cell? ⟨b, off + i * 4 + 3, none⟩ = some (.int .i64 o))
              (first | exact s5.out | exact d3 | go_keep)
              (first | (go_at_call 70; (with_reducible refine HA.out.mono ?_); rintro e w5 ⟨rfl, hb5⟩; have X5 := Lib.hid (show Below w4.heap.size w4 w5 from hb5.undrew); have s5 := Lib.hid (HD3.out w5 X5.out); clear hb5))
            all_goals go_wp2
            all_goals go_roundw
            all_goals first | (simp [intOf]; omega) | exact ⟨k + 1, by omega, by go_num, by rw [HCH.out], ⟨_, _, _, rfl⟩, by rw [HCH.out, HMP.out]; exact HAP4.out.below X5.out, HNU4.out.below X5.out (Nat.le_refl _), HB4.out.trans (X5.out.mono hsz4)⟩
          · have HCH := Lib.hid (ch1_no (o := o) (best := V) (r := bst Z true f (i + 1)) (show ch1 Z i M o V (bst Z true f (i + 1)) k < 0 by rw [HEC.out]; omega) (fun h => hV (by rw [← HEY.out]; exact h.2)))
            have hVe : (IntKind.i64.wrap (o + y) == V) = false := by rw [IntKind.wrap_i64]; simp; omega
            have HMP := Lib.hid (show mpc Z i M (-1) = M from HMM.out)
            have HAPO := Lib.hid (HRP.out.below (w' := w4) hb4')
            clear hV hb4'
            go_wp2_with fail
            go_region_held3 (fun w' => w'.cell? ⟨b, off + i * 4 + 3, none⟩ = some (.int .i64 o))
              (first | exact s5.out | exact d3 | go_keep)
              (first | (go_at_call 70; (with_reducible refine HA.out.mono ?_); rintro e w5 ⟨rfl, hb5⟩; have X5 := Lib.hid (show Below w4.heap.size w4 w5 from hb5.undrew); have s5 := Lib.hid (HD3.out w5 X5.out); clear hb5))
            all_goals go_wp2
            all_goals go_roundw
            all_goals first | (simp [intOf]; omega) | exact ⟨k + 1, by omega, by go_num, by rw [HCH.out], ⟨_, _, _, rfl⟩, by rw [HCH.out, HMP.out]; exact HAPO.out.below X5.out, HNU4.out.below X5.out (Nat.le_refl _), HB4.out.trans (X5.out.mono hsz4)⟩
        · have HS := Lib.hid (HSE.out.mono (fun _ _ h => h.2 hft))
          have HCH := Lib.hid (ch1_no (o := o) (best := V) (r := bst Z true f (i + 1)) (show ch1 Z i M o V (bst Z true f (i + 1)) k < 0 by rw [HEC.out]; omega) (fun h => hft h.1))
          clear HSE hft
          go_wp2_with fail
          refine HS.out.mono ?_
          rintro e w4 ⟨vn, rfl, ⟨na, nl, nc, rfl⟩, hb4⟩
          have HB4 := Lib.hid (HBQ.out.trans (hb4.mono HBQ.out.size))
          have HNU4 := Lib.hid (HNU.out.below hb4 (Nat.le_refl _))
          have HAPO := Lib.hid (HRP.out.below hb4)
          clear hb4 c0 c1 c2 c3
          go_wp2
          go_quiet (fail)
          go_wp2
          go_roundw
          case rel => exact ⟨k + 1, by omega, by go_num, by rw [HCH.out], ⟨_, _, _, rfl⟩, by rw [HCH.out, HMM.out]; exact HAPO.out.below (below_drewN (Below.refl _ _) _), HNU4.out.below (below_drewN (Below.refl _ _) _) (Nat.le_refl _), below_drewN HB4.out _⟩
          case measure => simp [intOf]; omega
    · obtain rfl : n = i := by omega
      clear h5 hbel
      go_wp2
      go_ret2
      exact ⟨_, rfl, HNU.out, HBL.out⟩

end Go.Proofs.Ythelaffjpmcdbaa
