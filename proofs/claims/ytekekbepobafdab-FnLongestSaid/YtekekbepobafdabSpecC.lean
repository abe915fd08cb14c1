/- The model's GridMirror. -/
import Derived.Test.YtekekbepobafdabSpecB
namespace Go.Proofs.Ytekekbepobafdab
open Go.RowKit
set_option linter.unusedVariables false

set_option maxHeartbeats 1000000 in
set_option maxRecDepth 20000 in
theorem specGridMirror_no (v : Value) (lo hi : Nat) (g : G) (w : World) (hv : RdM lo hi w v g) (hh : hi ≤ w.heap.size) (h : ¬ g.Valid) :
    Calls Try.prog 19 #[v] w (SPost false G0 w) := by
  have HC := Lib.hid (fun (W : World) (hb : Below w.heap.size w W) => specValid_any v lo hi g W (hv.same (SameIn.below hb hh)))
  have HB := Lib.hid (G.vB_no h)
  have HB0 := Lib.hid ((Below.refl w.heap.size w).alloc (Nat.le_refl _) (.cells #[] 28))
  obtain ⟨ao, cap, b, off, Ao, Cp, rfl, a2, a3, a5, a6, a7⟩ := hv
  clear h a5 a6 a7
  by_cases h0 : g.n = 0
  · have H0 := Lib.hid h0
    have hlt : ¬ (0 : Int) < g.n := by omega
    clear h0
    go_enter Try.func19, Try.ntmps19
    go_wp2
    refine wp_loop_rounds 1 ?_
    rw [rounds_succ]
    go_wp2_with fail
    refine (HC.out _ HB0.out).mono ?_
    intro e w1 hq
    obtain ⟨rfl, hb⟩ := hq.below
    rw [HB.out]
    have HB1 := Lib.hid (HB0.out.trans (hb.mono (by simp)))
    clear hb hq
    go_wp2
    go_ret2
    exact ⟨_, rfl, ⟨_, _, _, rfl⟩, RdM.empty _ _ _ _ _ (by omega), HB1.out⟩
  · have hlt : (0 : Int) < g.n := by omega
    go_enter Try.func19, Try.ntmps19
    go_wp2
    refine wp_loop_rounds 1 ?_
    rw [rounds_succ]
    go_wp2_with fail
    refine (HC.out _ HB0.out).mono ?_
    intro e w1 hq
    obtain ⟨rfl, hb⟩ := hq.below
    rw [HB.out]
    have HB1 := Lib.hid (HB0.out.trans (hb.mono (by simp)))
    clear hb hq
    go_wp2_with fail
    refine (HC.out _ HB1.out).mono ?_
    intro e w2 hq
    obtain ⟨rfl, hb⟩ := hq.below
    rw [HB.out]
    have HB2 := Lib.hid (HB1.out.trans (hb.mono HB1.out.size))
    clear hb hq
    go_wp2
    go_ret2
    exact ⟨_, rfl, ⟨_, _, _, rfl⟩, RdM.empty _ _ _ _ _ (by omega), HB2.out⟩

set_option maxHeartbeats 4000000 in
set_option maxRecDepth 20000 in
theorem specGridMirror_yes (v : Value) (lo hi : Nat) (g : G) (w : World) (hv : RdM lo hi w v g) (hh : hi ≤ w.heap.size) (h : g.Valid) :
    Calls Try.prog 19 #[v] w (SPost true (mirrorG g) w) := by
  have HC := Lib.hid (fun (W : World) (hb : Below w.heap.size w W) => specValid_any v lo hi g W (hv.same (SameIn.below hb hh)))
  have HB := Lib.hid (G.vB_yes h)
  have HH := Lib.hid h
  obtain ⟨i0, hi0, hz0, hz1, hz2⟩ := info_parts Try.infoI
  obtain ⟨i1, hi1, hy0, hy1, hy2⟩ := info_parts Try.infoR
  obtain ⟨ao, cap, b, off, Ao, Cp, rfl, a2, a3, a5, a6, a7⟩ := hv
  obtain ⟨rfl, hb1, hb2⟩ := a5 (by have := h.1; omega)
  have hn7 : g.n ≤ 7 := h.1.2
  have hn1 : 1 ≤ g.n := h.1.1
  have hl7 : g.len 0 ≤ 7 := h.2.1.2
  have hl1 : 1 ≤ g.len 0 := h.2.1.1
  have HA6 := Lib.hid a6
  have HA7 := Lib.hid a7
  clear h a5 a6 a7
  have HG0 := Lib.hid (Gr.start w (fun _ => undef) (mirrorG g))
  go_enter Try.func19, Try.ntmps19
  go_wp2
  go_loopw [4, 5] (fun o i wr => ∃ (c : Nat) (v : Value) (B : Nat) (RV : Nat → Value), c ≤ g.n ∧ i = .int .i64 c ∧ v = o ∧ Gr w wr v c B RV (mirrorG g)) (fun _ i _ => g.n - (intOf i).toNat)
  case atStart => exact ⟨0, _, _, _, Nat.zero_le _, rfl, rfl, HG0.out⟩
  case round =>
    obtain ⟨c, v, B, RV, hc, rfl, rfl, hgr0⟩ := hrel
    by_cases hlt : c < g.n
    · have hlt' : (c : Int) < g.n := by omega
      have HGR0 := Lib.hid hgr0
      clear hgr0
      go_wp2_with fail
      refine (HC.out _ HGR0.out.below).mono ?_
      intro e wz hq
      obtain ⟨rfl, hbz⟩ := hq.below
      rw [HB.out]
      have hgr := HGR0.out.keep (hbz.mono HGR0.out.hi)
      clear hq hbz
      have p1 : wz.cell? ⟨b, off + c, none⟩ = some (.slice (Ao c) (g.len c) (Cp c)) := (hgr.below.cell (p := ⟨b, off + c, none⟩) (by show b < _; omega)).trans (HA6.out c hlt)
      have HGB := Lib.hid ((hgr.raise hgr.hi (Nat.le_refl _)).keep ((Below.refl _ _).alloc (Nat.le_refl _) (.cells #[] 3)))
      have HRW := Lib.hid (Rw.start wz ((mirrorG g).z c))
      have p1' : (wz.alloc (.cells #[] 3)).cell? ⟨b, off + c, none⟩ = some (.slice (Ao c) (g.len c) (Cp c)) := (World.cell?_of_block (a := ⟨b, off + c, none⟩) (Below.heap_alloc wz _ b (by have := hgr.below.size; omega))).trans p1
      have HLR := Lib.hid ((HH.out.2.2 c hlt).1)
      have hlr1 : g.len c ≤ 7 := by have := (HH.out.2.2 c hlt).1; omega
      have hlr2 : 1 ≤ g.len c := by have := (HH.out.2.2 c hlt).1; omega
      clear hgr p1
      go_wp2
      generalize hB0 : wz.heap.size = B0 at HGB HRW ⊢
      clear p1' hB0
      go_loopw [6, 7] (fun rv i wr => ∃ (m : Nat) (vr : Value), m ≤ g.len c ∧ i = .int .i64 ((g.len c : Int) - 1 - m) ∧ vr = rv ∧ Rw B0 wr vr m ((mirrorG g).z c) ∧ Gr w wr v c B0 RV (mirrorG g)) (fun _ i _ => (intOf i + 1).toNat)
      case atStart => exact ⟨0, _, Nat.zero_le _, by go_num, rfl, HRW.out, HGB.out⟩
      case round =>
        obtain ⟨m, vr, hm, rfl, rfl, hrw, hgr⟩ := hrel
        by_cases hml : m < g.len c
        · obtain ⟨r, hr⟩ : ∃ r, r + m + 1 = g.len c := ⟨g.len c - 1 - m, by omega⟩
          have er : (g.len c : Int) - 1 - m = (r : Int) := by omega
          rw [er]
          have ez : (mirrorG g).z c m = g.z c r := by simp only [mirrorG]; congr 1; have := HLR.out; omega
          have p1 : wr.cell? ⟨b, off + c, none⟩ = some (.slice (Ao c) (g.len c) (Cp c)) := (hgr.below.cell (p := ⟨b, off + c, none⟩) (by show b < _; omega)).trans (HA6.out c hlt)
          obtain ⟨ao1, cap1, b1, off1, e1, i2, i3, i4, i5, i6⟩ := HA7.out c hlt
          have i5' := (i5 (by omega))
          have ea : Ao c = ao1 := by simp only [Value.slice.injEq] at e1; exact e1.1
          rw [ea, i5'.1] at p1
          have p2 : wr.cell? ⟨b1, off1 + r, none⟩ = some (.int .i64 (g.z c r)) := (hgr.below.cell (p := ⟨b1, off1 + r, none⟩) (by show b1 < _; omega)).trans (i6 r (by omega))
          have hr' : (r : Int) < g.len c := by omega
          obtain ⟨ys, hy1', hy2'⟩ := hrw
          have HGR2 := Lib.hid hgr
          have HY2 := Lib.hid hy2'
          have HEZ := Lib.hid ez
          have hB0s : B0 ≤ wr.heap.size := hgr.hi
          clear i4 i5 i6 e1 ea i5' hgr hy2' ez er
          go_wp2_with (first | (at_builtin; refine wpList_append_own _ rfl _ _ 28 rfl B0 3 i0 (.int .i64 0) 1 8 Try.underlying28 hi0 hz0 hz1 hz2 rfl (by decide) _ m ys rfl (hy1'.alloc _) ⟨wr.heap.size, 0, none⟩ 1 1 [.int .i64 (g.z c r)] rfl rfl (World.news_of_block (cs := #[.int .i64 (g.z c r)]) (t := 3) (fr := (0, 0)) (heap_alloc_new wr _)) (by simp [Value.oneCell']) (by unfold maxLen; omega) (by omega) (by simp; omega) ?_; intro v' w2 hown2 hg2 _))
          have hlow : ∀ k, vr.ownBlock = some k → B0 ≤ k := fun k hk => (hy1'.lt k hk).1
          have hbel : Below B0 wr w2 := ((Below.refl B0 wr).alloc hB0s _).grown hg2 (by simp; omega) hlow
          have HG3 := Lib.hid (HGR2.out.keep hbel)
          have HR3 := Lib.hid (Rw.push (Z := (mirrorG g).z c) (by have := hy1'.1; omega) HY2.out (by rw [HEZ.out]; exact hown2))
          clear hbel hown2 hg2 hy1' hlow
          go_wp2
          go_roundw
          case rel => exact ⟨m + 1, v', by omega, by go_num, rfl, HR3.out, HG3.out⟩
          case measure => simp [intOf]
        · have em : m = g.len c := by omega
          subst em
          obtain ⟨ys, hy1', hy2'⟩ := hrw
          have HGR2 := Lib.hid hgr
          obtain ⟨bq, cq, rfl⟩ : ∃ bq cq, vr = .slice (some ⟨bq, 0, none⟩) (g.len c) cq := by
            obtain ⟨bq, cq, _, _, h3⟩ := own_slice hy1'
            rcases h3 with h3 | h3
            · exact ⟨bq, cq, h3.1⟩
            · omega
          have hy1'' := hy1'
          rw [HLR.out] at hy1'' hy2'
          have HRW2 : Hid (Rw B0 wr (.slice (some ⟨bq, 0, none⟩) (g.len c) cq) ((mirrorG g).len c) ((mirrorG g).z c)) := ⟨ys, by rw [HLR.out]; exact hy1'', hy2'⟩
          have htop := hgr.top
          have hB0s : w.heap.size ≤ wr.heap.size := hgr.below.size
          clear hgr hy1' hy2' hy1''
          go_wp2_with (first | (at_builtin; refine wpList_append_own _ rfl _ _ 23 rfl w.heap.size 28 i1 (.slice none 0 0) 1 24 Try.underlying23 hi1 hy0 hy1 hy2 rfl (by decide) v c _ rfl (htop.alloc _) ⟨wr.heap.size, 0, none⟩ 1 1 [.slice (some ⟨bq, 0, none⟩) (g.len c) cq] rfl rfl (World.news_of_block (cs := #[.slice (some ⟨bq, 0, none⟩) (g.len c) cq]) (t := 28) (fr := (0, 0)) (heap_alloc_new wr _)) (by simp [Value.oneCell']) (by unfold maxLen; omega) (by omega) (by simp; omega) ?_; intro v' w2 hown2 hg2 _))
          have HG3 := Lib.hid (HGR2.out.push HRW2.out hown2 hg2)
          clear hown2 hg2 htop
          go_wp2
          go_roundw
          case rel => exact ⟨c + 1, v', _, _, by omega, by go_num, rfl, HG3.out⟩
          case measure => simp [intOf]; omega
    · have ec : c = g.n := by omega
      subst ec
      obtain ⟨bq, cq, rfl⟩ : ∃ bq cq, v = .slice (some ⟨bq, 0, none⟩) g.n cq := by
        obtain ⟨bq, cq, _, _, h3⟩ := own_slice hgr0.top
        rcases h3 with h3 | h3
        · exact ⟨bq, cq, h3.1⟩
        · omega
      have HGR0 := Lib.hid hgr0
      clear hgr0
      go_wp2_with fail
      refine (HC.out _ HGR0.out.below).mono ?_
      intro e wz hq
      obtain ⟨rfl, hbz⟩ := hq.below
      rw [HB.out]
      have hgr := HGR0.out.keep (hbz.mono HGR0.out.hi)
      clear hq hbz
      have HM := Lib.hid (Gr.rdM (g := mirrorG g) hgr (G.range_of (mirror_valid HH.out)))
      have HBL := Lib.hid hgr.below
      clear hgr
      go_wp2
      go_ret2
      exact ⟨_, rfl, ⟨_, _, _, rfl⟩, HM.out, HBL.out⟩

end Go.Proofs.Ytekekbepobafdab
