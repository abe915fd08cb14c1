/- The draw of labels and a list that is often a setting. -/
import Derived.Test.YthelaffjpmcdbaaDrawLb
import Derived.Test.YthelaffjpmcdbaaNumK
import Derived.Test.YthelaffjpmcdbaaStH
import Derived.Test.YthelaffjpmcdbaaSwC
import Derived.Laws.AppendOwnNone
import Derived.Deep.RegionHeld3
namespace Go.Proofs.Ythelaffjpmcdbaa
open Go.RowKit
set_option linter.unusedVariables false
set_option linter.unusedSimpArgs false

/-- what drawn labels with sides leave -/
def SgPost (B q : Nat) (w : World) (e : Ending) (w' : World) : Prop :=
  ∃ b cap m Z b2 c2 D q', e = .returned (.tuple #[.slice (some ⟨b, 0, none⟩) m cap, .slice (some ⟨b2, 0, none⟩) m c2]) ∧ RdT (B + 1) w'.heap.size w' (.slice (some ⟨b, 0, none⟩) m cap) m Z ∧ RdI (B + 1) w'.heap.size w' (.slice (some ⟨b2, 0, none⟩) m c2) m D ∧ m ≤ 7 ∧ (∀ j, j < m * 4 → -100 ≤ Z j ∧ Z j ≤ 100) ∧ (∀ j, j < m → -100 ≤ D j ∧ D j ≤ 100) ∧ q' ≤ q + 43 ∧ Rdr w' B q' ∧ Chg B (B + 1) w w'

theorem rdT_chg {B : Nat} {w w' : World} {v : Value} {m : Nat} {Z : Nat → Int} (h : RdT (B + 1) w.heap.size w v m Z) (hc : Chg B (B + 1) w w') : RdT (B + 1) w'.heap.size w' v m Z := (h.same (hc.sameIn (Nat.le_refl _) (Or.inr (Nat.le_refl _)))).mono (Nat.le_refl _) hc.size
theorem rdI_chg {B : Nat} {w w' : World} {v : Value} {m : Nat} {Z : Nat → Int} (h : RdI (B + 1) w.heap.size w v m Z) (hc : Chg B (B + 1) w w') : RdI (B + 1) w'.heap.size w' v m Z := (h.same (hc.sameIn (Nat.le_refl _) (Or.inr (Nat.le_refl _)))).mono (Nat.le_refl _) hc.size
theorem owI_shape {lo hi : Nat} {w : World} {b l c n : Nat} {Z : Nat → Int} (h : OwI lo hi w (.slice (some ⟨b, 0, none⟩) l c) n Z) : l = n ∧ lo ≤ b ∧ b < hi := by
  rcases h with ⟨e, _⟩ | ⟨b', N, cap, F, e, h1, h2, _⟩
  · cases e
  · simp only [Value.slice.injEq, Option.some.injEq, Addr.mk.injEq, and_true, true_and] at e
    obtain ⟨rfl, rfl, rfl⟩ := e
    exact ⟨rfl, h1, h2⟩

set_option maxHeartbeats 16000000 in
set_option maxRecDepth 100000 in
theorem setting_draw (B q : Nat) (w : World) (h : Rdr w B q) (hB : B < w.heap.size) (hq : q ≤ 900) :
    Calls Try.prog 53 #[.pointer (some ⟨B, 0, none⟩)] w (SgPost B q w) := by
  obtain ⟨i0', hi00, hz00, hz10, hz20⟩ := info_parts Try.infoI
  have HP := Lib.hid (labels_any B q 5 w h hB (by omega) (by omega))
  clear h
  go_enter Try.func53, Try.ntmps53
  go_wp2_with fail
  refine HP.out.mono ?_
  rintro e w1 ⟨b, cap, m, Z, q1, rfl, ho, hm, hz, hq1, hr1, hc1⟩
  have HR1 := Lib.hid (show RdT (B + 1) w1.heap.size w1 (.slice (some ⟨b, 0, none⟩) m cap) m Z from ho.rd.mono (by omega) (Nat.le_refl _))
  have HC1 := Lib.hid hc1
  have HQ1 := Lib.hid hr1
  have HZ := Lib.hid hz
  have hs1 := hc1.size
  clear ho hc1 hr1 hz HP
  go_wp2_with fail
  refine (specSettingGreedy_sh _ (B + 1) w1.heap.size m Z w1 HR1.out (Nat.le_refl _) (by omega)).mono ?_
  rintro e w2 ⟨v2, rfl, hsh, ⟨a2, l2, c2, hv2⟩, hd, hb2⟩
  have HR2 := Lib.hid (rdT_chg HR1.out (hb2.chg B (B + 1)))
  have HC2 := Lib.hid (HC1.out.trans (hb2.chg B (B + 1)))
  have HQ2 := Lib.hid (HQ1.out.keep hb2 (by omega))
  have hs2 := hb2.size
  by_cases hok : LsOk m Z
  case neg =>
    rw [lsB_no hok]
    clear hsh hd hb2 hok
    subst hv2
    have hmk := run_make_row' (P := Try.prog) 26 3 (.int .i64 0) 8 Try.underlying26 Try.infoI rfl .i64 .i64 m (by omega) (by omega)
    have HROW := Lib.hid (World.rowIs_made w2 (.int .i64 0) m 3)
    go_wp2_with fail
    refine wp_region_held_drew (S := (fun w' => w2.heap.size ≤ w'.heap.size)) (by kernel_rfl) ?_ (fun hHeld => ?_)
    · exact Nat.le_refl _
    refine wpAnyH_take (i := 0) (v := ?_) (by simp only [List.getElem?_toArray, List.getElem?_cons_succ, List.getElem?_cons_zero]; exact rfl) (by kernel_rfl) (by kernel_rfl) (by kernel_rfl) (by exact fun _ _ _ h => h) (Or.inl ⟨by rfl, ?_⟩) (by assumption) ?_
    rotate_left
    · intro w hSw; (try dsimp only at hSw); go_simp; try with_reducible rfl
    try simp only [Act.put, List.setIfInBounds_toArray, List.set_cons_zero, List.set_cons_succ]
    refine wpAnyH_take (i := 1) (v := ?_) (by simp only [List.getElem?_toArray, List.getElem?_cons_succ, List.getElem?_cons_zero]; exact rfl) (by kernel_rfl) (by kernel_rfl) (by kernel_rfl) (by exact fun _ _ _ h => h) (Or.inl ⟨by rfl, ?_⟩) (by assumption) ?_
    rotate_left
    · intro w hSw; (try dsimp only at hSw); go_simp; try with_reducible rfl
    try simp only [Act.put, List.setIfInBounds_toArray, List.set_cons_zero, List.set_cons_succ]
    refine wpAnyH_take (i := 2) (v := ?_) (by simp only [List.getElem?_toArray, List.getElem?_cons_succ, List.getElem?_cons_zero]; exact rfl) (by kernel_rfl) (by kernel_rfl) (by kernel_rfl) (by exact fun _ _ _ h => h) (Or.inl ⟨by rfl, ?_⟩) (by assumption) ?_
    rotate_left
    · intro w hSw; (try dsimp only at hSw); go_simp; try with_reducible rfl
    try simp only [Act.put, List.setIfInBounds_toArray, List.set_cons_zero, List.set_cons_succ]
    refine wpAnyH_take (i := 4) (v := ?_) (by simp only [List.getElem?_toArray, List.getElem?_cons_succ, List.getElem?_cons_zero]; exact rfl) (by kernel_rfl) (by kernel_rfl) (by kernel_rfl) (by exact fun _ _ _ h => h) (Or.inl ⟨by rfl, ?_⟩) (by assumption) ?_
    rotate_left
    · intro w hSw; (try dsimp only at hSw); go_simp; try with_reducible rfl
    try simp only [Act.put, List.setIfInBounds_toArray, List.set_cons_zero, List.set_cons_succ]
    refine wpAnyH_ready (rs := [3]) (by kernel_rfl) (by simp) ?_
    refine AllReadyH.cons (by simp only [List.getElem?_toArray, List.getElem?_cons_succ, List.getElem?_cons_zero]; exact rfl) (fun K hK => ?_) AllReadyH.nil
    go_simp
    refine hK.out _ _ ?_ (fun hHeld2 => ?_)
    · exact (show w2.heap.size ≤ (w2.alloc _).heap.size from by rw [World.size_alloc]; exact Nat.le_succ _)
    clear hK K
    try simp only [Act.put, List.setIfInBounds_toArray, List.set_cons_zero, List.set_cons_succ]
    refine wpAnyH_take (i := 5) (v := ?_) (by simp only [List.getElem?_toArray, List.getElem?_cons_succ, List.getElem?_cons_zero]; exact rfl) (by kernel_rfl) (by kernel_rfl) (by kernel_rfl) (by exact fun _ _ _ h => h) (Or.inl ⟨by rfl, ?_⟩) (by assumption) ?_
    rotate_left
    · intro w hSw; (try dsimp only at hSw); go_simp; try with_reducible rfl
    try simp only [Act.put, List.setIfInBounds_toArray, List.set_cons_zero, List.set_cons_succ]
    refine wpAnyH_done (by kernel_rfl) ?_ _
    clear hHeld hHeld2 hmk
    have hbA : Below w2.heap.size w2 (w2.alloc (.cells (madeCells #[.int .i64 0] m) 3)).drew := ((Below.refl _ _).alloc (Nat.le_refl _) _).drew
    have HCA := Lib.hid (HC2.out.trans (hbA.chg B (B + 1)))
    have HQA := Lib.hid (HQ2.out.keep hbA (by omega))
    have HRA := Lib.hid (rdT_chg HR2.out (hbA.chg B (B + 1)))
    go_wp2
    go_ret2
    refine ⟨b, cap, m, Z, _, _, fun _ => 0, q1, rfl, HRA.out, ?_, hm, HZ.out, fun j _ => by show -100 ≤ (0 : Int) ∧ (0 : Int) ≤ 100; omega, by omega, HQA.out, HCA.out⟩
    exact (show OwI (B + 1) _ _ _ m (fun _ => 0) from Or.inr ⟨_, m, m, _, rfl, by show B + 1 ≤ w2.heap.size; omega, by show w2.heap.size < (w2.alloc _).heap.size; rw [World.size_alloc]; exact Nat.lt_succ_self _, HROW.out, Nat.le_refl _, Nat.le_refl _, by omega, fun _ _ => rfl, fun _ _ => by show -9223372036854775808 ≤ (0 : Int) ∧ (0 : Int) ≤ 9223372036854775807; omega⟩).rd
  rw [lsB_yes hok]
  have hl : lsN m Z = m := by unfold lsN; rw [lsB_yes hok]; rfl
  rw [hl] at hd
  have hgr := (gW_ok Z m hok.1 9).2
  have HD2 := Lib.hid hd
  have HGR := Lib.hid (show ∀ i, -1 ≤ gdS Z m i ∧ gdS Z m i ≤ 3 from hgr)
  clear hb2 hgr hok hl
  have HLI := Lib.hid (nums_lit w2)
  have HBA := Lib.hid ((Below.refl w2.heap.size w2).alloc (Nat.le_refl _) (.cells #[] 3))
  have hsA : (w2.alloc (.cells #[] 3)).heap.size = w2.heap.size + 1 := by rw [World.size_alloc]
  have hl1 := cp_len (gdS Z m) m
  by_cases h0 : m = 0
  · subst h0
    have h0' : ¬ (0 : Int) < ((0 : Nat) : Int) := by omega
    have HC4 := Lib.hid (HC2.out.trans (HBA.out.chg B (B + 1)))
    have HQ4 := Lib.hid (HQ2.out.keep HBA.out (by omega))
    have HR4 := Lib.hid (rdT_chg HR2.out (HBA.out.chg B (B + 1)))
    have HO4 := Lib.hid (HLI.out.owI (fun x hx => by simp at hx))
    rcases hsh with rfl | ⟨bs, ls, cs, rfl⟩
    · clear hd hv2
      go_upto_region 6 with (first | (at_builtin; refine wpList_append_own_none rfl _ _ 26 rfl w2.heap.size 3 i0' 1 Try.underlying26 hi00 (.slice (some ⟨w2.heap.size, 0, none⟩) 0 0) 0 [] rfl HLI.out rfl ?_))
      go_wp2
      go_ret2
      exact ⟨b, cap, 0, Z, _, _, fun _ => 0, q1, rfl, HR4.out, (HO4.out.rd.mono (by omega) (Nat.le_refl _)).congr (fun j hj => by simp at hj), by omega, fun j hj => by omega, fun j hj => by omega, by omega, HQ4.out, HC4.out⟩
    · have el : ls = 0 := by
        obtain ⟨ao, c, bq, off, e, _⟩ := hd
        simp only [Value.slice.injEq] at e
        exact e.2.1
      subst el
      clear hd hv2
      go_upto_region 6 with (first | (at_builtin; refine wpList_append_own _ rfl _ _ 26 rfl w2.heap.size 3 i0' (.int .i64 0) 1 8 Try.underlying26 hi00 hz00 hz10 hz20 rfl (by decide) (.slice (some ⟨w2.heap.size, 0, none⟩) 0 0) 0 [] rfl HLI.out ⟨bs, 0, none⟩ 0 cs [] rfl rfl (fun j u hu => by simp at hu) (by simp) (by unfold maxLen; omega) (by omega) (by simp) ?_; intro v4 w4 hown hgr hnn; have HO := Lib.hid hown; have HG := Lib.hid hgr; have HNN := Lib.hid hnn; clear hown hgr hnn))
      have hb4 : Below w2.heap.size w2 w4 := HBA.out.grown HG.out (by omega) (fun k hk => by simp only [Value.ownBlock, Option.some.injEq] at hk; omega)
      have HC5 := Lib.hid (HC2.out.trans (hb4.chg B (B + 1)))
      have HQ5 := Lib.hid (HQ2.out.keep hb4 (by omega))
      have HR5 := Lib.hid (rdT_chg HR2.out (hb4.chg B (B + 1)))
      have hnu : Nums w2.heap.size w4 v4 [] := HO.out
      have HO5 := Lib.hid (hnu.owI (fun x hx => by simp at hx))
      have hsh4 := HO5.out.shN
      rcases hsh4 with rfl | ⟨b4, l4, c4, rfl⟩
      · exact absurd (HNN.out.1 rfl).1 (by simp)
      obtain ⟨rfl, _, _⟩ := owI_shape HO5.out
      clear hb4 hnu
      go_wp2
      go_ret2
      exact ⟨b, cap, 0, Z, b4, _, fun _ => 0, q1, rfl, HR5.out, (HO5.out.rd.mono (by omega) (Nat.le_refl _)).congr (fun j hj => by simp at hj), by omega, fun j hj => by omega, fun j hj => by omega, by omega, HQ5.out, HC5.out⟩
  · have h0' : (0 : Int) < (m : Int) := by omega
    have h0n : 0 < m := by omega
    obtain ⟨ao, cs, bs, off, e, hcs1, hcs2, _, h5, h6⟩ := hd
    obtain ⟨rfl, hb1, hb2⟩ := h5 h0n
    subst e
    have HNW := Lib.hid (cp_news (W := w2.alloc (.cells #[] 3)) (b := bs) (off := off) (n := m) (Z := gdS Z m) (fun j hj => (World.cell?_of_block (a := ⟨bs, off + j, none⟩) (Below.heap_alloc w2 _ bs hb2)).trans (h6 j hj)))
    clear h5 h6 hsh hv2
    go_upto_region 6 with (first | (at_builtin; refine wpList_append_own _ rfl _ _ 26 rfl w2.heap.size 3 i0' (.int .i64 0) 1 8 Try.underlying26 hi00 hz00 hz10 hz20 rfl (by decide) (.slice (some ⟨w2.heap.size, 0, none⟩) 0 0) 0 [] rfl HLI.out ⟨bs, off, none⟩ m cs (nsV (fnL (gdS Z m) m)) rfl hl1 HNW.out (cp_one (gdS Z m) m) (by unfold maxLen; omega) (by omega) (by simp) ?_; intro v4 w4 hown hgr _; have HO := Lib.hid hown; have HG := Lib.hid hgr; clear hown hgr))
    have hb4 : Below w2.heap.size w2 w4 := HBA.out.grown HG.out (by omega) (fun k hk => by simp only [Value.ownBlock, Option.some.injEq] at hk; omega)
    have HC4 := Lib.hid (HC2.out.trans (hb4.chg B (B + 1)))
    have HQ4 := Lib.hid (HQ2.out.keep hb4 (by omega))
    have HR4 := Lib.hid (rdT_chg HR2.out (hb4.chg B (B + 1)))
    have HX4 := Lib.hid (hb4.chg B (B + 1))
    have HO4 := Lib.hid (cp_own HO.out (fun j _ => by have := HGR.out j; omega))
    obtain ⟨b4, c4, rfl, hb41, hb42, hb43⟩ := owI_block HO4.out h0n
    have hs4 := hb4.size
    clear hb4 HO HG HNW HLI
    go_wp2_with fail
    refine (pick_any B q1 2 w4 HQ4.out (by omega) (by omega) (by omega)).mono ?_
    rintro e w5 ⟨x, hx, rfl, hr5, hc5, hs5⟩
    have HC5 := Lib.hid (HC4.out.trans hc5)
    have HX5 := Lib.hid (HX4.out.trans hc5)
    have HQ5 := Lib.hid hr5
    have HR5 := Lib.hid (rdT_chg HR4.out hc5)
    have HO5 := Lib.hid (show OwI w2.heap.size w4.heap.size w5 (.slice (some ⟨b4, 0, none⟩) m c4) m (gdS Z m) from HO4.out.same (hc5.sameIn (Nat.le_refl _) (Or.inr (by omega))))
    clear hr5 hc5
    by_cases hx0 : x = 0
    · subst hx0
      go_wp2_with fail
      refine (pick_any B (q1 + 1) m w5 HQ5.out (by omega) (by omega) (by omega)).mono ?_
      rintro e w6 ⟨y, hy, rfl, hr6, hc6, hs6⟩
      have HC6 := Lib.hid (HC5.out.trans hc6)
      have HX6 := Lib.hid (HX5.out.trans hc6)
      have HQ6 := Lib.hid hr6
      have HR6 := Lib.hid (rdT_chg HR5.out hc6)
      have HO6 := Lib.hid (show OwI w2.heap.size w4.heap.size w6 (.slice (some ⟨b4, 0, none⟩) m c4) m (gdS Z m) from HO5.out.same (hc6.sameIn (by omega) (Or.inr (by omega))))
      clear hr6 hc6
      go_wp2_with fail
      refine (pick_any B (q1 + 1 + 1) 6 w6 HQ6.out (by omega) (by omega) (by omega)).mono ?_
      rintro e w7 ⟨z, hz7, rfl, hr7, hc7, hs7⟩
      have HC7 := Lib.hid (HC6.out.trans hc7)
      have HX7 := Lib.hid (HX6.out.trans hc7)
      have HQ7 := Lib.hid hr7
      have HR7 := Lib.hid (rdT_chg HR6.out hc7)
      have HO7 := Lib.hid (show OwI w2.heap.size w4.heap.size w7 (.slice (some ⟨b4, 0, none⟩) m c4) m (gdS Z m) from HO6.out.same (hc7.sameIn (by omega) (Or.inr (by omega))))
      clear hr7 hc7
      obtain ⟨cc, ff⟩ := owI_cellAt HO7.out hy
      have HPUT := Lib.hid (owI_put HO7.out hy ((z : Int) - 1) (by omega))
      have hym : (y : Int) < m := by omega
      have hbS : Below w2.heap.size w7 (w7.setCell ⟨b4, y, none⟩ (.int .i64 ((z : Int) - 1))) := (Below.refl _ _).setCell (p := ⟨b4, y, none⟩) (show w2.heap.size ≤ b4 by omega) _
      have HC8 := Lib.hid (HC7.out.then_below hbS (by omega))
      have HQ8 := Lib.hid (HQ7.out.keep hbS (by omega))
      have HR8 := Lib.hid (rdT_chg HR2.out (HX7.out.then_below hbS (Nat.le_refl _)))
      clear hbS
      go_wp2
      go_ret2
      exact ⟨b, cap, m, Z, b4, c4, setZ (gdS Z m) y ((z : Int) - 1), q1 + 3, rfl, HR8.out, HPUT.out.rd.mono (by omega) (by rw [setCell_size]; omega), hm, HZ.out, fun j hj => by
        unfold setZ
        split
        · omega
        · have := HGR.out j; omega, by omega, HQ8.out, HC8.out⟩
    · have hx0' : ((x : Int) == 0) = false := by rw [beq_eq_false_iff_ne]; omega
      go_wp2
      go_ret2
      exact ⟨b, cap, m, Z, b4, c4, gdS Z m, q1 + 1, rfl, HR5.out, HO5.out.rd.mono (by omega) (by omega), hm, HZ.out, fun j _ => by have := HGR.out j; omega, by omega, HQ5.out, HC5.out⟩
end Go.Proofs.Ythelaffjpmcdbaa
