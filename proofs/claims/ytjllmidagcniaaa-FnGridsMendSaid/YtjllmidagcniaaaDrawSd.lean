/- Rough grids whose rows can be written; two grids side by side, drawn. -/
import Derived.Test.YtjllmidagcniaaaDrawD
namespace Go.Proofs.Ytjllmidagcniaaa
open Go.RowKit
set_option linter.unusedVariables false

/-- a grid to read whose rows are rows of their own, from block lo on -/
def FltR (lo : Nat) (w : World) (v : Value) (g : G) : Prop := RdM lo w.heap.size w v g ∧ ∃ bt cap Bf Cf, Flt w v g.n bt cap Bf Cf g ∧ lo ≤ bt ∧ ∀ r, r < g.n → lo ≤ Bf r
theorem FltR.of {w : World} {v : Value} {k bt cap lo : Nat} {Bf Cf : Nat → Nat} {g : G} (h : Flt w v k bt cap Bf Cf g) (hlo : lo ≤ bt ∧ ∀ r, r < k → lo ≤ Bf r) (hg : g.n = k) (hz : ∀ r, r < k → ∀ c, c < g.len r → -9223372036854775808 ≤ g.z r c ∧ g.z r c ≤ 9223372036854775807) : FltR lo w v g := by
  refine ⟨h.rdM hlo hg hz, bt, cap, Bf, Cf, ?_, hlo.1, ?_⟩
  · rw [hg]; exact h
  · rw [hg]; exact hlo.2
/-- what a drawn grid leaves -/
def DrawPostF (B q n : Nat) (w : World) (e : Ending) (w' : World) : Prop :=
  ∃ v g, e = .returned v ∧ (∃ a l c, v = .slice a l c) ∧ FltR w.heap.size w' v g ∧ g.n = n ∧ GrShape g ∧ (∃ q', q' ≤ q + 200 ∧ Rdr w' B q') ∧ Chg B (B + 1) w w'
theorem draw_endF {w w2 X : World} {B q q' r C bt cap y : Nat} {Bf Cf : Nat → Nat} {g : G} (hfl : Flt w2 (.slice (some ⟨bt, 0, none⟩) r cap) r bt cap Bf Cf g) (hok : ∀ r', r' < r → g.len r' = C ∧ ∀ c, c < C → 0 ≤ g.z r' c ∧ g.z r' c ≤ 99) (hr1 : 0 < r) (hC : C ≤ 8) (hC1 : 1 ≤ C)
    (hX : ∀ k, k < w2.heap.size → k ≠ B → X.heap[k]? = w2.heap[k]?) (hs : w2.heap.size ≤ X.heap.size) (hrd : Rdr X B (q' + 2)) (hq : q' + 2 ≤ q + 200) (hch : Chg B (B + 1) w X) (hB : w.heap.size ≤ Bf 0) (hBw : B < w.heap.size) (hBr : ∀ s, s < r → w.heap.size ≤ Bf s) (hbt : w.heap.size ≤ bt) (hy : y < 3) :
    DrawPostF B q r w (.returned (.slice (some ⟨bt, 0, none⟩) r cap)) (X.setCell ⟨Bf 0, 0, none⟩ (.int .i64 (Lst y))) := by
  have h1 := (hfl.keep (w' := X) hs (hX bt hfl.lt (by omega)) (fun s hs => hX _ (hfl.row s hs).2.1 (by have := hBr s hs; omega))).set 0 0 hr1 (by have := (hok 0 hr1).1; omega) (Lst y)
  have hl := lst_range y hy
  refine ⟨_, ⟨r, g.len, fun s c => if s = 0 ∧ c = 0 then Lst y else g.z s c⟩, rfl, ⟨_, _, _, rfl⟩, FltR.of ⟨h1.v_eq, h1.le, h1.lt, h1.top, h1.row, h1.inj⟩ ⟨hbt, hBr⟩ rfl (fun s hs c hc => ?_), rfl, fun s hs => ⟨by have := (hok s hs).1; simp only; omega, ⟨by have := (hok s hs).1; simp only; omega, by have := (hok s hs).1; have := (hok 0 hr1).1; simp only; omega⟩, fun c hc => by have h3 := (hok s hs).2 c (by have := (hok s hs).1; simp only at hc; omega); simp only; split <;> omega⟩, ⟨q' + 2, hq, ?_⟩, ?_⟩
  · have h2 := hok s hs
    have := h2.2 c (by simp only at hc; omega)
    simp only
    split <;> omega
  · exact hrd.keep ((Below.refl (B + 1) X).setCell (p := ⟨Bf 0, 0, none⟩) (by show B + 1 ≤ Bf 0; omega) _) (Nat.lt_succ_self _)
  · exact Chg.then_below hch ((Below.refl w.heap.size X).setCell (p := ⟨Bf 0, 0, none⟩) hB _) (Nat.le_refl _)

set_option maxHeartbeats 4000000 in
set_option maxRecDepth 100000 in
theorem rough_flt (B q R C : Nat) (w : World) (h : Rdr w B q) (hq : q ≤ 50000) (hR : R ≤ 8) (hR1 : 1 ≤ R) (hC : C ≤ 8) (hC1 : 1 ≤ C) :
    Calls Try.prog 82 #[.pointer (some ⟨B, 0, none⟩), .int .i64 R, .int .i64 C] w (DrawPostF B q R w) := by
  obtain ⟨i0, hi0, hz0, hz1, hz2⟩ := info_parts Try.infoI
  obtain ⟨i1, hi1, hy0, hy1, hy2⟩ := info_parts Try.infoR
  have hBw : B < w.heap.size := by obtain ⟨_, _, _, _, _, _, _, _, _, a3, _⟩ := h; exact a3
  have HR0 := Lib.hid h
  clear h
  go_enter Try.func82, Try.ntmps82
  go_upto_if 15 with ((go_at_call 72; refine (pick_any B q 4 _ (HR0.out.keep ((Below.refl _ _).alloc (Nat.le_refl _) _) hBw) (by omega) (by omega) (by omega)).mono ?_; rintro e w1 ⟨x, hx, rfl, hr1, hc1, hs1⟩; have HR1 := Lib.hid hr1; have HC1 := Lib.hid hc1; have HS1 := Lib.hid hs1; clear hr1 hc1 hs1))
  go_cut [7] (fun s7 wx => ∃ hb, s7 = .slice (some ⟨hb, 0, none⟩) 8 8 ∧ Hts wx hb ∧ B < hb ∧ hb < wx.heap.size ∧ Rdr wx B (q + 1) ∧ Chg B (B + 1) w wx)
  case first =>
    go_wp2_with fail
    all_goals go_meet
    · refine ⟨_, rfl, hts_of (heap_alloc_new w1 _) (by omega), ?_, by simp, HR1.out.keep ((Below.refl w1.heap.size w1).alloc (Nat.le_refl _) _) (by have := HS1.out; simp at this; omega), ?_⟩
      · have := HS1.out; simp at this; omega
      · have hc := HC1.out
        have hb2 : Below w.heap.size w (w.alloc (.cells #[.int .i64 1, .int .i64 2, .int .i64 3, .int .i64 4, .int .i64 6, .int .i64 9, .int .i64 5, .int .i64 2] 3)) := (Below.refl _ _).alloc (Nat.le_refl _) _
        have hb3 : Below w1.heap.size w1 (w1.alloc (.cells #[.int .i64 0, .int .i64 10, .int .i64 25, .int .i64 40, .int .i64 55, .int .i64 70, .int .i64 99, .int .i64 12] 3)) := (Below.refl _ _).alloc (Nat.le_refl _) _
        exact (hb2.chg B (B + 1)).trans (hc.trans (hb3.chg B (B + 1)))
    · have hc := HC1.out
      have hb2 : Below w.heap.size w (w.alloc (.cells #[.int .i64 1, .int .i64 2, .int .i64 3, .int .i64 4, .int .i64 6, .int .i64 9, .int .i64 5, .int .i64 2] 3)) := (Below.refl _ _).alloc (Nat.le_refl _) _
      have hsz : w1.heap.size = w.heap.size + 1 := by have := HS1.out; simpa using this
      have hold := (hc.block w.heap.size (by simp) (by omega)).trans (heap_alloc_new w _)
      exact ⟨_, rfl, hts_of hold (by omega), hBw, by omega, HR1.out, (hb2.chg B (B + 1)).trans hc⟩
  case rest =>
    obtain ⟨hb, rfl, hts, hBh, hhb, hrd, hchg⟩ := hcut
    have HCH := Lib.hid hchg
    have hwc : w.heap.size ≤ wc.heap.size := hchg.size
    have HD0 := Lib.hid (Dr.start wc B (q + 1) hb C (by omega) hrd hts hhb)
    clear hts hrd hchg HR0
    have HH := Lib.hid hhb
    go_wp2
    go_loopw [8, 9] (fun o i wr => ∃ (r q' Bk : Nat) (v : Value) (RV : Nat → Value) (g : G), r ≤ R ∧ i = .int .i64 r ∧ v = o ∧ q' ≤ q + 1 + r * 8 ∧ Dr wc wr B q' hb v r Bk RV g C) (fun _ i _ => R - (intOf i).toNat)
    case atStart => exact ⟨0, q + 1, _, _, _, _, Nat.zero_le _, rfl, rfl, by omega, HD0.out⟩
    case round =>
      obtain ⟨r, q', Bk, v, RV, g, hr, rfl, rfl, hq', hdr⟩ := hrel
      by_cases hlt : r < R
      · have hlt' : (r : Int) < R := by omega
        have hsz := hdr.size
        have HDR := Lib.hid ((hdr.raise hsz.2 (Nat.le_refl _)).below hBh hhb ((Below.refl _ _).alloc (Nat.le_refl _) (.cells #[] 3)))
        have HRD := Lib.hid (Rd.start wr)
        clear hdr
        go_wp2
        generalize hB0 : wr.heap.size = B0 at HDR HRD ⊢
        have hB1 : wc.heap.size ≤ B0 := by omega
        clear hsz hB0
        go_loopw [10, 11] (fun o i wr => ∃ (c : Nat) (vr : Value), c ≤ C ∧ i = .int .i64 c ∧ vr = o ∧ Rd B0 wr vr c ∧ Dr wc wr B (q' + c) hb v r B0 RV g C) (fun _ i _ => C - (intOf i).toNat)
        case atStart => exact ⟨0, _, Nat.zero_le _, rfl, rfl, HRD.out, HDR.out⟩
        case round =>
          clear HDR HRD
          obtain ⟨c, vr, hc, rfl, rfl, hrd, hdr⟩ := hrel
          by_cases hcl : c < C
          · have hcl' : (c : Int) < C := by omega
            have HDR := Lib.hid hdr
            have HRD := Lib.hid hrd
            clear hdr hrd
            go_wp2_with fail
            refine (pick_any B (q' + c) 8 _ HDR.out.rdr (by omega) (by omega) (by omega)).mono ?_
            rintro e w2 ⟨x, hx, rfl, hr2, hc2, hs2⟩
            have hdr2 := HDR.out.pick hBh hhb hr2 hc2
            have hrd2 := HRD.out.pick hc2 (by omega)
            obtain ⟨H, hH⟩ := hdr2.hts
            obtain ⟨q1, q2⟩ := hH x hx
            have hsz2 := hdr2.size
            have HD2 := Lib.hid hdr2
            obtain ⟨Z, ⟨ys, hy1', hy2'⟩, hz2'⟩ := hrd2
            have HY2 := Lib.hid hy2'
            have HZ2 := Lib.hid hz2'
            have HQ2 := Lib.hid q2
            have hx' : (x : Int) < 8 := by omega
            clear hr2 hc2 hs2 hdr2 hH hy2' hz2' HDR HRD q2
            go_wp2_with (first | (at_builtin; refine wpList_append_own _ rfl _ _ 34 rfl B0 3 i0 (.int .i64 0) 1 8 Try.underlying34 hi0 hz0 hz1 hz2 rfl (by decide) _ c ys rfl (hy1'.alloc _) ⟨w2.heap.size, 0, none⟩ 1 1 [.int .i64 (H x)] rfl rfl (World.news_of_block (cs := #[.int .i64 (H x)]) (t := 3) (fr := (0, 0)) (heap_alloc_new w2 _)) (by simp [Value.oneCell']) (by unfold maxLen; omega) (by omega) (by simp; omega) ?_; intro v' w3 hown3 hg3 _))
            have hlow : ∀ k, vr.ownBlock = some k → B0 ≤ k := fun k hk => (hy1'.lt k hk).1
            have hbel : Below B0 w2 w3 := ((Below.refl B0 w2).alloc hsz2.2 _).grown hg3 (by simp; omega) hlow
            have HD3 := Lib.hid (HD2.out.below hBh hhb hbel)
            have HR3 := Lib.hid (Rd.push (by have := hy1'.1; omega) HY2.out HZ2.out HQ2.out hown3)
            clear hbel hown3 hg3 hy1' hlow q1
            go_wp2
            go_roundw
            case rel => exact ⟨c + 1, v', by omega, by go_num, rfl, HR3.out, HD3.out⟩
            case measure => simp [intOf]; omega
          · have ec : c = C := by omega
            subst ec
            have HD2 := Lib.hid hdr
            have hsz2 := hdr.size
            obtain ⟨bq, cq, rfl⟩ : ∃ bq cq, vr = .slice (some ⟨bq, 0, none⟩) c cq := by
              obtain ⟨Z, ⟨ys, hy1, _⟩, _⟩ := hrd
              obtain ⟨bq, cq, _, _, h3⟩ := own_slice hy1
              rcases h3 with h3 | h3
              · exact ⟨bq, cq, h3.1⟩
              · omega
            have HR2 := Lib.hid hrd
            obtain ⟨wb, eb, hgr⟩ := hdr.gr
            have htop := hgr.top
            rw [eb] at htop
            clear hdr hrd hgr eb
            go_wp2_with (first | (at_builtin; refine wpList_append_own _ rfl _ _ 23 rfl wc.heap.size 34 i1 (.slice none 0 0) 1 24 Try.underlying23 hi1 hy0 hy1 hy2 rfl (by decide) v r _ rfl (htop.alloc _) ⟨wr.heap.size, 0, none⟩ 1 1 [.slice (some ⟨bq, 0, none⟩) c cq] rfl rfl (World.news_of_block (cs := #[.slice (some ⟨bq, 0, none⟩) c cq]) (t := 34) (fr := (0, 0)) (heap_alloc_new wr _)) (by simp [Value.oneCell']) (by unfold maxLen; omega) (by omega) (by simp; omega) ?_; intro v' w2 hown2 hg2 _))
            obtain ⟨RV', g', hd3⟩ := HD2.out.push hBh hhb HR2.out hown2 hg2
            have HD3 := Lib.hid hd3
            clear hown2 hg2 htop hd3
            go_wp2
            go_roundw
            case rel => exact ⟨r + 1, q' + c, _, v', _, _, by omega, by go_num, rfl, by omega, HD3.out⟩
            case measure => simp [intOf]; omega
      · have er : r = R := by omega
        subst er
        have hsz := hdr.size
        have HDR := Lib.hid hdr
        clear hdr
        go_wp2_with fail
        refine (pick_any B q' 60 _ HDR.out.rdr (by omega) (by omega) (by omega)).mono ?_
        rintro e w2 ⟨x, hx, rfl, hr2, hc2, hs2⟩
        have hdr2 := HDR.out.pick hBh hhb hr2 hc2
        obtain ⟨wb, eb, hgr⟩ := hdr2.gr
        have hok := hdr2.ok
        have HOK := Lib.hid hok
        obtain ⟨bt, cap, Bf, Cf, hfl, hbt, hrows⟩ := hgr.flt (by omega) (fun s hs => by have := (hok s hs).1; omega)
        obtain rfl := hfl.v_eq
        have HCC := Lib.hid (HCH.out.trans hdr2.chg)
        have HRR := Lib.hid hr2
        have HFL := Lib.hid hfl
        have HRW := Lib.hid hrows
        have HGR := Lib.hid hgr
        have HEB := Lib.hid eb
        have hw2 : wc.heap.size ≤ w2.heap.size := hdr2.chg.size
        clear hr2 hc2 hs2 hdr2 hfl hrows hgr eb hok HDR HD0 HCH
        by_cases x0 : x = 0
        · subst x0
          have t0 := HFL.out.top 0 (by omega)
          have r0 := HFL.out.row 0 (by omega)
          have hl0 : 1 ≤ g.len 0 := by have := (HOK.out 0 (by omega)).1; omega
          have c1 := t0.1
          have hB1 : B < bt := by have := HEB.out; omega
          have hB2 : B < Bf 0 := by have := HEB.out; have := (HRW.out 0 (by omega)).2; omega
          have hbtl := HFL.out.lt
          have hcap := HFL.out.le
          have hb0l := r0.2.1
          have hne0 := r0.1
          have hr1 : (0 : Int) < r := by omega
          have hr2 : (0 : Int) < g.len 0 := by omega
          have hr3 : 0 < g.len 0 := by omega
          have hr4 : 0 < r := by omega
          have q0 := r0.2.2.2.2 0 (by omega)
          have HQ0 := Lib.hid q0
          have HT0 := Lib.hid t0
          clear t0 r0 q0
          go_wp2_with fail
          have RA := Lib.hid (show Rdr (w2.alloc (.cells #[.int .i64 (-1), .int .i64 100, .int .i64 99] 3)).drew B (q' + 1) from HRR.out.same (fun k hk => Below.heap_alloc w2 _ k (by omega)))
          have HLA := Lib.hid (show Chg B (B + 1) w2 (w2.alloc (.cells #[.int .i64 (-1), .int .i64 100, .int .i64 99] 3)).drew from (((Below.refl _ w2).alloc (Nat.le_refl _) _).chg B (B + 1)).drewN 1)
          have RB := Lib.hid (show Rdr w2.drew B (q' + 1) from HRR.out.same (fun _ _ => rfl))
          have FA := Lib.hid (fun (w5 : World) (hc : Chg B (B + 1) (w2.alloc (.cells #[.int .i64 (-1), .int .i64 100, .int .i64 99] 3)).drew w5) (y : Nat) (hy : y < 3) =>
            And.intro (call_facts (w2 := w2) (W := (w2.alloc (.cells #[.int .i64 (-1), .int .i64 100, .int .i64 99] 3)).drew) (fun k hk => Below.heap_alloc w2 _ k hk) (by show w2.heap.size ≤ (w2.alloc (.cells #[.int .i64 (-1), .int .i64 100, .int .i64 99] 3)).heap.size; simp) hc hbtl hb0l hB1 hB2 HT0.out.1 HQ0.out.1 HQ0.out.2)
              (lst_cell ((hc.block w2.heap.size (by show w2.heap.size < (w2.alloc (.cells #[.int .i64 (-1), .int .i64 100, .int .i64 99] 3)).heap.size; simp) (by omega)).trans (heap_alloc_new w2 (.cells #[.int .i64 (-1), .int .i64 100, .int .i64 99] 3))) hy))
          have FB := Lib.hid (fun (w5 : World) (hc : Chg B (B + 1) w2.drew w5) =>
            call_facts (w2 := w2) (W := w2.drew) (fun _ _ => rfl) (Nat.le_refl _) hc hbtl hb0l hB1 hB2 HT0.out.1 HQ0.out.1 HQ0.out.2)
          go_region_law
            (first
              | (go_simp; (refine (pick_any B (q' + 1) 3 _ RA.out (by omega) (by omega) (by omega)).mono ?_); rintro e w5 ⟨y, hy, rfl, hr5, hc5, hs5⟩; obtain ⟨⟨s1, s1o, k1, k1o, f1, f1o, hz5⟩, l1⟩ := FA.out w5 hc5 y hy; have hy' : (y : Int) < 3 := (by omega); have HR5 := Lib.hid hr5; have HC5 := Lib.hid hc5; clear hr5 hc5 hs5)
              | (go_simp; (refine (pick_any B (q' + 1) 3 _ RB.out (by omega) (by omega) (by omega)).mono ?_); rintro e w5 ⟨y, hy, rfl, hr5, hc5, hs5⟩; obtain ⟨s1, s1o, k1, k1o, f1, f1o, hz5⟩ := FB.out w5 hc5; have l2 : ∀ t, (w5.alloc (.cells #[.int .i64 (-1), .int .i64 100, .int .i64 99] t)).cell? ⟨w5.heap.size, y, none⟩ = some (.int .i64 (Lst y)) := fun t => lst_cell (heap_alloc_new w5 _) hy; have hy' : (y : Int) < 3 := (by omega); have HR5 := Lib.hid hr5; have HC5 := Lib.hid hc5; clear hr5 hc5 hs5))
          all_goals go_wp2
          all_goals go_ret
          all_goals first
            | exact draw_endF HFL.out HOK.out hr4 hC hC1 (fun k hk hn => (HC5.out.block k (Nat.lt_of_lt_of_le hk (by show w2.heap.size ≤ (w2.alloc (.cells #[.int .i64 (-1), .int .i64 100, .int .i64 99] 3)).heap.size; simp)) (by omega)).trans (Below.heap_alloc w2 _ k hk)) hz5 HR5.out (by omega) ((HCC.out.trans (HLA.out)).trans HC5.out) (by have := HEB.out; have := (HRW.out 0 hr4).2; omega) hBw (fun s hs => by have := HEB.out; have := (HRW.out s hs).2; omega) (by have := HEB.out; omega) hy
            | exact draw_endF HFL.out HOK.out hr4 hC hC1 (fun k hk hn => (Below.heap_alloc w5 _ k (by omega)).trans (HC5.out.block k hk (by omega))) (by simp; omega) (HR5.out.keep ((Below.refl w5.heap.size w5).alloc (Nat.le_refl _) _) (by omega)) (by omega) (((HCC.out.drewN 1).trans HC5.out).trans (((Below.refl _ w5).alloc (Nat.le_refl _) _).chg B (B + 1))) (by have := HEB.out; have := (HRW.out 0 hr4).2; omega) hBw (fun s hs => by have := HEB.out; have := (HRW.out s hs).2; omega) (by have := HEB.out; omega) hy
        · have e0 : ((x : Int) == 0) = false := by rw [beq_eq_false_iff_ne]; omega
          by_cases x1 : x = 1
          · subst x1
            clear e0
            obtain ⟨r1, rfl⟩ : ∃ r1, r = r1 + 1 := ⟨r - 1, by omega⟩
            have c1 := (HFL.out.top r1 (by omega)).1
            have hcap := HFL.out.le
            have hrw1 := (HRW.out r1 (by omega))
            have hgl : g.len r1 = C := (HOK.out r1 (by omega)).1
            have HGL := Lib.hid hgl
            obtain ⟨ys, hy1, hy2, hy3⟩ := HGR.out.rows r1 (by omega)
            rw [hrw1.1] at hy1
            have hy1' := hy1
            rw [HEB.out] at hy1'
            have HY3 := Lib.hid hy3
            have hd := HFL.out.row r1 (by omega)
            have hlen9 : g.len r1 ≤ 8 := by omega
            have hd1 := hd.1
            have hd2 := hd.2.1
            clear hrw1 hgl hy1 hy2 hy3 hd
            have hbtl := HFL.out.lt
            have ht1 := HFL.out.top r1 (by omega)
            have HT1 := Lib.hid ht1
            clear ht1
            go_wp2_with (first | (at_builtin; refine wpList_append_lies _ rfl _ _ 34 rfl wc.heap.size 3 i0 (.int .i64 0) 1 8 Try.underlying34 hi0 hz0 hz1 hz2 rfl (by decide) _ (g.len r1) ys rfl (hy1'.alloc _) ⟨w2.heap.size, 0, none⟩ 1 1 [.int .i64 3] rfl rfl (World.news_of_block (cs := #[.int .i64 3]) (t := 3) (fr := (0, 0)) (heap_alloc_new w2 _)) (by simp [Value.oneCell']) (by decide) (by unfold maxLen; omega) (by omega) (by simp; omega) (w2.heap.size + 1) (by simp) ?_; intro g' cap' w3 hown3 hg3 hat3 _; obtain ⟨⟨c3, f3⟩, hblk, hsz3, hat3', hcp3, hlt3', hc3⟩ := row_app hown3 hg3 hat3 hbtl hd1 HT1.out; have HBK := Lib.hid hblk; have HC3 := Lib.hid hc3; have HAT := Lib.hid hat3'; have hbl3 := ((Below.refl wc.heap.size w2).alloc hw2 _).grown hg3 (Nat.le_trans hw2 (by simp)) (fun k hk => (hy1'.lt k hk).1); have HBL3 := Lib.hid hbl3; clear hblk hc3 hat3' hown3 hg3 hat3 hbl3))
            go_ret
            obtain ⟨hcp31, hcp32⟩ := hcp3
            have hfin := Flt.setRow (w := w3) HFL.out (by omega) (HBK.out bt hbtl (fun e => hd1 e.symm)) r1 g' (g.len r1 + 1) cap' (fun c => if c < g.len r1 then g.z r1 c else 3) (by omega) (by rcases HAT.out with e | e <;> omega) hlt3' ⟨hcp31, hcp32⟩
              (fun c hc => ⟨by
                rw [(HC3.out c hc).1]
                by_cases e : c < g.len r1
                · simp only [e, if_true]; rw [List.getElem?_append_left (by have := hy1'.1; omega)]; exact HY3.out c e
                · have e2 : c = g.len r1 := by omega
                  simp only [e, if_false]
                  rw [e2, List.getElem?_append_right (by have := hy1'.1; omega)]
                  have := hy1'.1
                  simp only [Nat.mul_one] at this
                  rw [this]; simp, (HC3.out c hc).2⟩)
              (fun r hr hne => by
                have h1 := (HFL.out.row r hr).2.1
                rcases HAT.out with e | e
                · intro e2; exact hne (HFL.out.inj r r1 hr (by omega) (by omega))
                · omega)
              (fun r hr hne => HBK.out _ (HFL.out.row r hr).2.1 (fun e2 => hne (HFL.out.inj r r1 hr (by omega) e2)))
            refine ⟨_, ⟨r1 + 1, fun r => if r = r1 then g.len r1 + 1 else g.len r, fun r => if r = r1 then (fun c => if c < g.len r1 then g.z r1 c else 3) else g.z r⟩, rfl, ⟨_, _, _, rfl⟩,
              FltR.of ⟨hfin.v_eq, hfin.le, hfin.lt, hfin.top, hfin.row, hfin.inj⟩ ⟨by have := HEB.out; omega, fun s hs => by
                have h5 := (HRW.out s hs).2
                have h6 := HEB.out
                have h7 := HAT.out
                have h8 := (HRW.out r1 (by omega)).2
                split <;> omega⟩ rfl (fun s hs c hc => ?_), rfl, fun s hs => ?_, ⟨q' + 1, by omega, ?_⟩, ?_⟩
            · by_cases e : s = r1
              · simp only [e, if_true]
                by_cases e2 : c < g.len r1
                · simp only [e2, if_true]
                  have := (HOK.out r1 (by omega)).2 c (by have := HGL.out; omega)
                  omega
                · simp only [e2, if_false]; omega
              · simp only [e, if_false] at hc ⊢
                have h1 := HOK.out s hs
                have := h1.2 c (by omega)
                omega
            · have hs' : s < r1 + 1 := hs
              have h0 := (HOK.out 0 (by omega)).1
              have hs1 := (HOK.out s hs').1
              have hg1 := HGL.out
              refine ⟨by simp only; split <;> omega, ⟨by simp only; split <;> omega, ?_⟩, fun c hc => ?_⟩
              · by_cases e : s = r1
                · simp only [e, if_true]; split <;> omega
                · have e0 : ¬ (0 = r1) := by omega
                  simp only [e, e0, if_false]; omega
              · by_cases e : s = r1
                · simp only [e, if_true]
                  by_cases e2 : c < g.len r1
                  · simp only [e2, if_true]
                    have := (HOK.out r1 (by omega)).2 c (by omega)
                    omega
                  · simp only [e2, if_false]; omega
                · simp only [e, if_false] at hc ⊢
                  have := (HOK.out s hs').2 c (by omega)
                  omega
            · exact HRR.out.keep (HBL3.out.setCell (p := ⟨bt, r1, none⟩) (by have := HEB.out; show wc.heap.size ≤ bt; omega) _) (by omega)
            · exact Chg.then_below HCC.out (HBL3.out.setCell (p := ⟨bt, r1, none⟩) (by have := HEB.out; show wc.heap.size ≤ bt; omega) _) hwc
          · have e1 : ((x : Int) == 1) = false := by rw [beq_eq_false_iff_ne]; omega
            go_wp2
            go_ret
            refine ⟨_, ⟨r, g.len, g.z⟩, rfl, ⟨_, _, _, rfl⟩, FltR.of ⟨HFL.out.v_eq, HFL.out.le, HFL.out.lt, HFL.out.top, HFL.out.row, HFL.out.inj⟩ ⟨by have := HEB.out; omega, fun s hs => by have := HEB.out; have := (HRW.out s hs).2; omega⟩ rfl (fun s hs c hc => ?_), rfl, fun s hs => ⟨by have := (HOK.out s hs).1; simp only; omega, ⟨by have := (HOK.out s hs).1; simp only; omega, by have := (HOK.out s hs).1; have := (HOK.out 0 (by omega)).1; simp only; omega⟩, fun c hc => by have h3 := (HOK.out s hs).2 c (by have := (HOK.out s hs).1; simp only at hc; omega); simp only; omega⟩, ⟨q' + 1, by omega, HRR.out⟩, HCC.out⟩
            have h1 := HOK.out s hs
            have := h1.2 c (by simp only at hc; omega)
            simp only; omega


end Go.Proofs.Ytjllmidagcniaaa
