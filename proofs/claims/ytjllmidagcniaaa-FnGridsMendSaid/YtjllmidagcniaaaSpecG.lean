/- The model's GridPart. -/
import Derived.Test.YtjllmidagcniaaaImplI
namespace Go.Proofs.Ytjllmidagcniaaa
open Go.RowKit
set_option linter.unusedVariables false

theorem part_valid {g : G} {t b l r : Nat} (h : g.PartOk t b l r) : (partG g t b l r).Valid := by
  obtain ⟨hc1, hc2, htb, hlr⟩ := h
  have p := has_of_cell hc1
  have q := has_of_cell hc2
  have h7 := hc1.1.1
  have l7 := hc1.1.2.1
  refine ⟨by simp only [partG]; omega, by simp only [partG]; omega, fun i hi => ⟨rfl, fun j hj => ?_⟩⟩
  simp only [partG] at *
  exact valid_at hc1.1 (by omega) (by omega)

set_option maxHeartbeats 4000000 in
set_option maxRecDepth 20000 in
theorem specGridPart_yes (v : Value) (lo hi : Nat) (g : G) (t b l r : Nat) (w : World) (hv : RdM lo hi w v g) (hh : hi ≤ w.heap.size) (h : g.PartOk t b l r) :
    Calls Try.prog 38 #[v, .int .i64 t, .int .i64 b, .int .i64 l, .int .i64 r] w (SPost true (partG g t b l r) w) := by
  have HPV := Lib.hid (part_valid h)
  obtain ⟨hc1, hc2, htb, hlr⟩ := h
  have HL1 := Lib.hid (fun (W : World) (hb : Below w.heap.size w W) => l1Cell_any v lo hi g t l W (hv.same (SameIn.below hb hh)))
  have HL2 := Lib.hid (fun (W : World) (hb : Below w.heap.size w W) => l1Cell_any v lo hi g b r W (hv.same (SameIn.below hb hh)))
  have HB1 := Lib.hid (G.cB_yes hc1)
  have HB2 := Lib.hid (G.cB_yes hc2)
  obtain ⟨p1, p2, p3, p4⟩ := has_of_cell hc1
  obtain ⟨q1, q2, q3, q4⟩ := has_of_cell hc2
  have hn7 := hc1.1.1.2
  have hl7 := hc1.1.2.1.2
  have HH := Lib.hid hc1.1
  obtain ⟨i0, hi0, hz0, hz1, hz2⟩ := info_parts Try.infoI
  obtain ⟨i1, hi1, hy0, hy1, hy2⟩ := info_parts Try.infoR
  obtain ⟨ao, cap, bb, off, Ao, Cp, rfl, a2, a3, a5, a6, a7⟩ := hv
  obtain ⟨rfl, hb1, hb2⟩ := a5 (by omega)
  have HA6 := Lib.hid a6
  have HA7 := Lib.hid a7
  have HG0 := Lib.hid (Gr.start w (fun _ => undef) (partG g t b l r))
  have hd1 : decide (b < t) = false := by simp; omega
  have hd2 : decide (r < l) = false := by simp; omega
  clear a5 a6 a7 hc1 hc2
  go_enter Try.func38, Try.ntmps38
  go_wp2_with fail
  refine (HL1.out _ HG0.out.below).mono ?_
  intro e w1 hq
  obtain ⟨rfl, hbx⟩ := hq.below
  rw [HB1.out]
  have HG1 := Lib.hid (HG0.out.keep (hbx.mono HG0.out.hi))
  clear hbx hq
  go_wp2_with fail
  refine (HL2.out _ HG1.out.below).mono ?_
  intro e w2 hq
  obtain ⟨rfl, hbx⟩ := hq.below
  rw [HB2.out]
  have HG2 := Lib.hid (HG1.out.keep (hbx.mono HG1.out.hi))
  clear hbx hq
  go_wp2
  go_loopw [12, 13] (fun o i wr => ∃ (k : Nat) (v : Value) (B : Nat) (RV : Nat → Value), k ≤ b - t + 1 ∧ i = .int .i64 ((t : Int) + k) ∧ v = o ∧ Gr w wr v k B RV (partG g t b l r)) (fun _ i _ => (b + 1 - intOf i).toNat)
  case atStart => exact ⟨0, _, _, _, Nat.zero_le _, by go_num, rfl, HG2.out⟩
  case round =>
    obtain ⟨k, v, B, RV, hk, rfl, rfl, hgr⟩ := hrel
    by_cases hlt : k < b - t + 1
    · obtain ⟨x, hx⟩ : ∃ x, x = t + k := ⟨_, rfl⟩
      have ex : (t : Int) + k = (x : Int) := by omega
      rw [ex]
      have hxn : x < g.n := by omega
      have hxn' : (x : Int) < g.n := by omega
      have hxb : (x : Int) ≤ b := by omega
      obtain ⟨ao1, cap1, b1, off1, e1, i2, i3, i4, i5, i6⟩ := HA7.out x hxn
      have hlx : g.len x = g.len 0 := (HH.out.2.2 x hxn).1
      have i5' := i5 (by omega)
      have ea : Ao x = ao1 ∧ Cp x = cap1 := by simp only [Value.slice.injEq] at e1; exact ⟨e1.1, e1.2.2⟩
      have hcp : g.len x ≤ Cp x := by omega
      have hcpne : ¬ Cp x = l := by omega
      have hr1 : (r : Int) + 1 ≤ Cp x := by omega
      have hr2 : r + 1 ≤ Cp x := by omega
      have hr3 : (l : Int) ≤ (r : Int) + 1 := by omega
      have hr4 : l ≤ r + 1 := by omega
      have pc : ∀ o, (wr.alloc o).cell? ⟨bb, off + x, none⟩ = some (.slice (some ⟨b1, off1, none⟩) (g.len x) (Cp x)) := fun o => by
        rw [World.cell?_of_block (a := ⟨bb, off + x, none⟩) (Below.heap_alloc wr o bb (by have := hgr.below.size; omega))]
        rw [← i5'.1, ← ea.1]
        exact (hgr.below.cell (p := ⟨bb, off + x, none⟩) (by show bb < _; omega)).trans (HA6.out x hxn)
      have HGB := Lib.hid ((hgr.raise hgr.hi (Nat.le_refl _)).keep ((Below.refl _ _).alloc (Nat.le_refl _) (.cells #[] 3)))
      have hrs := (Rw.start wr ((partG g t b l r).z k))
      obtain ⟨ys0, hs1, hs2⟩ := hrs
      have hys0 : ys0 = [] := List.length_eq_zero_iff.1 (by have := hs1.1; omega)
      subst hys0
      have hnews : ∀ j u, ((List.range (r + 1 - l)).map fun c => Value.int .i64 (g.z x (l + c)))[j]? = some u → (wr.alloc (.cells #[] 3)).cell? ((⟨b1, off1 + l, none⟩ : Addr).add j) = some u := by
        intro j u hj
        rw [List.getElem?_map, Option.map_eq_some_iff] at hj
        obtain ⟨c, hc1, rfl⟩ := hj
        rw [List.getElem?_eq_some_iff] at hc1
        obtain ⟨hc2, hc3⟩ := hc1
        simp at hc2 hc3
        subst hc3
        have : (⟨b1, off1 + l, none⟩ : Addr).add j = ⟨b1, off1 + (l + j), none⟩ := by unfold Addr.add; split <;> simp_all <;> omega
        rw [this, World.cell?_of_block (a := ⟨b1, off1 + (l + j), none⟩) (Below.heap_alloc wr _ b1 (by have := hgr.below.size; omega))]
        exact (hgr.below.cell (p := ⟨b1, off1 + (l + j), none⟩) (by show b1 < _; omega)).trans (i6 (l + j) (by omega))
      have HN := Lib.hid hnews
      have hwr : w.heap.size ≤ wr.heap.size := hgr.below.size
      have HX := Lib.hid hx
      have hx0 : (0 : Int) ≤ x := by omega
      have ez : ∀ i, i < r + 1 - l → ((List.range (r + 1 - l)).map fun c => Value.int .i64 (g.z x (l + c)))[i]? = some (.int .i64 ((partG g t b l r).z k i)) := fun i hi => by
        simp only [partG]
        rw [← hx]; simp [hi]
      have HEZ := Lib.hid ez
      have hlen2 : (partG g t b l r).len k = r + 1 - l := by simp only [partG]; omega
      have HLEN := Lib.hid hlen2
      clear hgr i4 i5 i6 e1 ea i5' hnews hs2 hx hlx ex ez hlen2
      go_wp2_with (first
        | (at_builtin; refine wpList_append_own _ rfl _ _ 34 rfl wr.heap.size 3 i0 (.int .i64 0) 1 8 Try.underlying34 hi0 hz0 hz1 hz2 rfl (by decide) (.slice (some ⟨wr.heap.size, 0, none⟩) 0 0) 0 [] rfl hs1 ⟨b1, off1 + l, none⟩ (r + 1 - l) (Cp x - l) ((List.range (r + 1 - l)).map fun c => Value.int .i64 (g.z x (l + c))) rfl (by simp) HN.out (by simp [Value.oneCell']) (by unfold maxLen; omega) (by omega) (by simp) ?_; intro v1 w1 hown1 hg1 _; simp only [List.nil_append, Nat.zero_add] at hown1; obtain ⟨aq, cq, rfl⟩ := own_shape hown1; have HR1 := Lib.hid (show Rw wr.heap.size w1 (.slice aq (r + 1 - l) cq) (r + 1 - l) ((partG g t b l r).z k) from ⟨_, hown1, HEZ.out⟩); have hbl1 : Below wr.heap.size (wr.alloc (.cells #[] 3)) w1 := ((Below.refl _ _).grown hg1 (by simp) (fun j hj => by simp [Value.ownBlock] at hj; exact Nat.le_of_eq hj)); have HG1 := Lib.hid (HGB.out.keep hbl1); have hs1' : wr.heap.size ≤ w1.heap.size := Nat.le_trans (by simp) hbl1.size; have htop1 := HG1.out.top; clear hown1 hg1 hbl1)
        | (at_builtin; refine wpList_append_own _ rfl _ _ 23 rfl w.heap.size 34 i1 (.slice none 0 0) 1 24 Try.underlying23 hi1 hy0 hy1 hy2 rfl (by decide) v k _ rfl (htop1.alloc _) ⟨w1.heap.size, 0, none⟩ 1 1 [.slice aq (r + 1 - l) cq] rfl rfl (World.news_of_block (cs := #[.slice aq (r + 1 - l) cq]) (t := 34) (fr := (0, 0)) (heap_alloc_new w1 _)) (by simp [Value.oneCell']) (by unfold maxLen; omega) (by omega) (by simp; omega) ?_; intro v2 w2 hown2 hg2 _; have HG2 := Lib.hid (HG1.out.push (by rw [HLEN.out]; exact HR1.out) hown2 hg2); clear hown2 hg2 htop1))
      go_roundw
      case rel => exact ⟨k + 1, v2, _, _, by omega, by have := HX.out; go_num, rfl, HG2.out⟩
      case measure => simp [intOf]; omega
    · have ec : k = b - t + 1 := by omega
      obtain ⟨bq, cq, rfl⟩ : ∃ bq cq, v = .slice (some ⟨bq, 0, none⟩) (b - t + 1) cq := by
        obtain ⟨bq, cq, _, _, h3⟩ := own_slice hgr.top
        rcases h3 with h3 | h3
        · exact ⟨bq, cq, by rw [h3.1, ec]⟩
        · omega
      subst ec
      have HM := Lib.hid (Gr.rdM (g := partG g t b l r) hgr (G.range_of HPV.out))
      have HBL := Lib.hid hgr.below
      have hgt : ¬ ((t : Int) + ((b - t + 1 : Nat) : Int) ≤ (b : Int)) := by omega
      clear hgr
      go_wp2
      go_ret2
      exact ⟨_, rfl, ⟨_, _, _, rfl⟩, HM.out, HBL.out⟩

set_option maxHeartbeats 2000000 in
set_option maxRecDepth 20000 in
theorem specGridPart_no (v : Value) (lo hi : Nat) (g : G) (t b l r : Int) (w : World) (hv : RdM lo hi w v g) (hh : hi ≤ w.heap.size) (h : ¬ g.PartOk t b l r) :
    Calls Try.prog 38 #[v, .int .i64 t, .int .i64 b, .int .i64 l, .int .i64 r] w (SPost false G0 w) := by
  have HL1 := Lib.hid (fun (W : World) (hb : Below w.heap.size w W) => l1Cell_any v lo hi g t l W (hv.same (SameIn.below hb hh)))
  have HL2 := Lib.hid (fun (W : World) (hb : Below w.heap.size w W) => l1Cell_any v lo hi g b r W (hv.same (SameIn.below hb hh)))
  have HB0 := Lib.hid ((Below.refl w.heap.size w).alloc (Nat.le_refl _) (.cells #[] 34))
  have HNO := Lib.hid h
  clear hv h
  by_cases h1 : g.Cell t l
  case neg =>
    have HC1 := Lib.hid (G.cB_no h1)
    clear h1
    go_enter Try.func38, Try.ntmps38
    go_wp2_with fail
    refine (HL1.out _ HB0.out).mono ?_
    intro e w1 hq
    obtain ⟨rfl, hbx⟩ := hq.below
    rw [HC1.out]
    have HB1 := Lib.hid (HB0.out.trans (hbx.mono HB0.out.size))
    clear hbx hq
    go_wp2
    go_ret2
    exact ⟨_, rfl, ⟨_, _, _, rfl⟩, RdM.empty _ _ _ _ _ (by omega), HB1.out⟩
  case pos =>
    have HC1 := Lib.hid (G.cB_yes h1)
    by_cases h2 : g.Cell b r
    case neg =>
      have HC2 := Lib.hid (G.cB_no h2)
      clear h1 h2
      go_enter Try.func38, Try.ntmps38
      go_wp2_with fail
      refine (HL1.out _ HB0.out).mono ?_
      intro e w1 hq
      obtain ⟨rfl, hbx⟩ := hq.below
      rw [HC1.out]
      have HB1 := Lib.hid (HB0.out.trans (hbx.mono HB0.out.size))
      clear hbx hq
      go_wp2_with fail
      refine (HL2.out _ HB1.out).mono ?_
      intro e w2 hq
      obtain ⟨rfl, hbx⟩ := hq.below
      rw [HC2.out]
      have HB2 := Lib.hid (HB1.out.trans (hbx.mono HB1.out.size))
      clear hbx hq
      go_wp2
      go_ret2
      exact ⟨_, rfl, ⟨_, _, _, rfl⟩, RdM.empty _ _ _ _ _ (by omega), HB2.out⟩
    case pos =>
      have HC2 := Lib.hid (G.cB_yes h2)
      have hcase : b < t ∨ (t ≤ b ∧ r < l) := by
        by_cases e1 : b < t
        · exact Or.inl e1
        · by_cases e2 : r < l
          · exact Or.inr ⟨by omega, e2⟩
          · exact absurd ⟨h1, h2, by omega, by omega⟩ HNO.out
      clear h1 h2
      rcases hcase with hcase | ⟨hc1, hc2⟩
      all_goals
        go_enter Try.func38, Try.ntmps38
        go_wp2_with fail
        refine (HL1.out _ HB0.out).mono ?_
        intro e w1 hq
        obtain ⟨rfl, hbx⟩ := hq.below
        rw [HC1.out]
        have HB1 := Lib.hid (HB0.out.trans (hbx.mono HB0.out.size))
        clear hbx hq
        go_wp2_with fail
        refine (HL2.out _ HB1.out).mono ?_
        intro e w2 hq
        obtain ⟨rfl, hbx⟩ := hq.below
        rw [HC2.out]
        have HB2 := Lib.hid (HB1.out.trans (hbx.mono HB1.out.size))
        clear hbx hq
        go_wp2
        go_ret2
        exact ⟨_, rfl, ⟨_, _, _, rfl⟩, RdM.empty _ _ _ _ _ (by omega), HB2.out⟩

end Go.Proofs.Ytjllmidagcniaaa
