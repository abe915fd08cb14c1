/- The model's GridBeside. -/
import Derived.Test.YtdiehjigfmjjiaaRange
namespace Go.Proofs.Ytdiehjigfmjjiaa
open Go.RowKit
set_option linter.unusedVariables false

def besideG (a b : G) : G := { n := a.n, len := fun _ => a.len 0 + b.len 0, z := fun r c => if c < a.len 0 then a.z r c else b.z r (c - a.len 0) }
/-- what GridBeside asks -/
def BesideOk (a b : G) : Prop := a.Valid ∧ b.Valid ∧ a.n = b.n ∧ a.len 0 + b.len 0 ≤ 7

theorem beside_valid {a b : G} (ha : a.Valid) (hb : b.Valid) (hn : a.n = b.n) : (besideG a b).Valid ↔ a.len 0 + b.len 0 ≤ 7 := by
  constructor
  · intro h; exact h.2.1.2
  · intro h
    refine ⟨ha.1, ⟨by have := ha.2.1; simp only [besideG]; omega, h⟩, fun r hr => ⟨rfl, fun c hc => ?_⟩⟩
    simp only [besideG] at hr hc ⊢
    split
    · exact valid_at ha hr (by omega)
    · exact valid_at hb (by omega) (by omega)

theorem beside_range {a b : G} (ha : a.Valid) (hb : b.Valid) (hn : a.n = b.n) : ∀ r, r < (besideG a b).n → ∀ c, c < (besideG a b).len r → -9223372036854775808 ≤ (besideG a b).z r c ∧ (besideG a b).z r c ≤ 9223372036854775807 := by
  intro r hr c hc
  simp only [besideG] at hr hc ⊢
  split
  · have := valid_at ha hr (c := c) (by omega); omega
  · have := valid_at hb (r := r) (c := c - a.len 0) (by omega) (by omega); omega

theorem news_of {W : World} {b1 off1 n : Nat} {Z : Nat → Int} (hc : ∀ j, j < n → W.cell? ⟨b1, off1 + j, none⟩ = some (.int .i64 (Z j))) :
    ∀ j u, ((List.range n).map fun c => Value.int .i64 (Z c))[j]? = some u → W.cell? ((⟨b1, off1, none⟩ : Addr).add j) = some u := by
  intro j u hj
  rw [List.getElem?_map, Option.map_eq_some_iff] at hj
  obtain ⟨c, hc1, rfl⟩ := hj
  rw [List.getElem?_eq_some_iff] at hc1
  obtain ⟨hc2, hc3⟩ := hc1
  simp at hc2 hc3
  subst hc3
  have : (⟨b1, off1, none⟩ : Addr).add j = ⟨b1, off1 + j, none⟩ := by unfold Addr.add; split <;> simp_all
  rw [this]
  exact hc j hc2

/-- a row of a grid that is no empty row, opened -/
theorem RdM.rowAt {lo hi : Nat} {w : World} {v : Value} {g : G} (h : RdM lo hi w v g) {r : Nat} (hr : r < g.n) (hl : 0 < g.len r) :
    ∃ b off cap b1 off1 cp, v = .slice (some ⟨b, off, none⟩) g.n cap ∧ w.cell? ⟨b, off + r, none⟩ = some (.slice (some ⟨b1, off1, none⟩) (g.len r) cp) ∧ (∀ c, c < g.len r → w.cell? ⟨b1, off1 + c, none⟩ = some (.int .i64 (g.z r c))) ∧ b < hi ∧ b1 < hi ∧ g.len r ≤ cp := by
  obtain ⟨ao, cap, b, off, Ao, Cp, rfl, a2, a3, a5, a6, a7⟩ := h
  obtain ⟨rfl, _, hb⟩ := a5 (by omega)
  obtain ⟨ao1, cap1, b1, off1, e1, i2, i3, i4, i5, i6⟩ := a7 r hr
  have i5' := i5 hl
  have ea : Ao r = ao1 ∧ Cp r = cap1 := by simp only [Value.slice.injEq] at e1; exact ⟨e1.1, e1.2.2⟩
  exact ⟨b, off, cap, b1, off1, Cp r, rfl, by rw [← i5'.1, ← ea.1]; exact a6 r hr, i6, hb, i5'.2.2, by omega⟩

theorem beside_row {a b : G} {k B0 g2 cq2 : Nat} {w2 : World} (ha : a.len k = a.len 0) (hb : b.len k = b.len 0)
    (h : w2.ownsRow B0 3 1 (.slice (some ⟨g2, 0, none⟩) (a.len k + b.len k) cq2) (a.len k + b.len k) (((List.range (a.len k)).map fun c => Value.int .i64 (a.z k c)) ++ (List.range (b.len k)).map fun c => Value.int .i64 (b.z k c))) :
    Rw B0 w2 (.slice (some ⟨g2, 0, none⟩) (a.len k + b.len k) cq2) ((besideG a b).len k) ((besideG a b).z k) := by
  have e : (besideG a b).len k = a.len k + b.len k := by simp only [besideG]; omega
  rw [e]
  refine ⟨_, h, fun i hi => ?_⟩
  simp only [besideG]
  by_cases h1 : i < a.len k
  · rw [List.getElem?_append_left (by simpa using h1), if_pos (by omega)]; simp [h1]
  · rw [List.getElem?_append_right (by simpa using Nat.le_of_not_lt h1), if_neg (by omega)]
    have h3 : i - a.len 0 < b.len k := by omega
    simp [h3, ha]

def BsPost (a b : G) (w : World) (e : Ending) (w' : World) : Prop := (BesideOk a b → SPost true (besideG a b) w e w') ∧ (¬ BesideOk a b → SPost false G0 w e w')

set_option maxHeartbeats 8000000 in
set_option maxRecDepth 20000 in
theorem specGridBeside_both (v u : Value) (lo hi : Nat) (a b : G) (w : World) (hv : RdM lo hi w v a) (hu : RdM lo hi w u b) (hh : hi ≤ w.heap.size) (ha : a.Valid) (hb : b.Valid) (hn : a.n = b.n) :
    Calls Try.prog 8 #[v, u] w (BsPost a b w) := by
  have HV := Lib.hid (fun (W : World) (hb : Below w.heap.size w W) => specValid_any v lo hi a W (hv.same (SameIn.below hb hh)))
  have HU := Lib.hid (fun (W : World) (hb : Below w.heap.size w W) => specValid_any u lo hi b W (hu.same (SameIn.below hb hh)))
  have HRV := Lib.hid hv
  have HRU := Lib.hid hu
  have HBA := Lib.hid (G.vB_yes ha)
  have HBB := Lib.hid (G.vB_yes hb)
  have HA := Lib.hid ha
  have HB := Lib.hid hb
  have HN := Lib.hid hn
  have hn7 := ha.1.2
  have hn1 := ha.1.1
  have hla7 := ha.2.1.2
  have hlb7 := hb.2.1.2
  have hla1 := ha.2.1.1
  have hlb1 := hb.2.1.1
  obtain ⟨i0, hi0, hz0, hz1, hz2⟩ := info_parts Try.infoI
  obtain ⟨i1, hi1, hy0, hy1, hy2⟩ := info_parts Try.infoR
  obtain ⟨b1, of1, cap1, _, _, _, rfl, _, _, hbb1, _, _⟩ := hv.rowAt (r := 0) (by omega) (by omega)
  obtain ⟨b2, of2, cap2, _, _, _, rfl, _, _, hbb2, _, _⟩ := hu.rowAt (r := 0) (by omega) (by omega)
  have hx : ((a.n : Int) != b.n) = false := by rw [hn]; simp
  have HG0 := Lib.hid (Gr.start w (fun _ => undef) (besideG a b))
  clear hv hu ha hb hn
  go_enter Try.func8, Try.ntmps8
  go_wp2_with fail
  refine (HV.out _ HG0.out.below).mono ?_
  intro e w1 hq
  obtain ⟨rfl, hbx⟩ := hq.below
  rw [HBA.out]
  have HG1 := Lib.hid (HG0.out.keep (hbx.mono HG0.out.hi))
  clear hbx hq
  go_wp2_with fail
  refine (HU.out _ HG1.out.below).mono ?_
  intro e w2 hq
  obtain ⟨rfl, hbx⟩ := hq.below
  rw [HBB.out]
  have HG2 := Lib.hid (HG1.out.keep (hbx.mono HG1.out.hi))
  clear hbx hq
  go_wp2
  clear hx
  go_loopw [6, 7] (fun o i wr => ∃ (k : Nat) (v : Value) (B : Nat) (RV : Nat → Value), k ≤ a.n ∧ i = .int .i64 k ∧ v = o ∧ Gr w wr v k B RV (besideG a b)) (fun _ i _ => a.n - (intOf i).toNat)
  case atStart => exact ⟨0, _, _, _, Nat.zero_le _, rfl, rfl, HG2.out⟩
  case round =>
    obtain ⟨k, v, B, RV, hk, rfl, rfl, hgr⟩ := hrel
    by_cases hlt : k < a.n
    · have hlt' : (k : Int) < a.n := by omega
      have hltb : k < b.n := by have := HN.out; omega
      have hltb' : (k : Int) < b.n := by omega
      have hk0 : (0 : Int) ≤ k := by omega
      have hla : a.len k = a.len 0 := (HA.out.2.2 k hlt).1
      have hlb : b.len k = b.len 0 := (HB.out.2.2 k hltb).1
      obtain ⟨x1, y1, z1, c1, d1, cp1, e1, p1, p2, _, hc1, _⟩ := HRV.out.rowAt hlt (by omega)
      simp only [Value.slice.injEq, Option.some.injEq, Addr.mk.injEq, and_true, true_and] at e1
      obtain ⟨⟨rfl, rfl⟩, rfl⟩ := e1
      obtain ⟨x2, y2, z2, c2, d2, cp2, e2, p3, p4, _, hc2, _⟩ := HRU.out.rowAt hltb (by omega)
      simp only [Value.slice.injEq, Option.some.injEq, Addr.mk.injEq, and_true, true_and] at e2
      obtain ⟨⟨rfl, rfl⟩, rfl⟩ := e2
      have hwr : w.heap.size ≤ wr.heap.size := hgr.below.size
      have s1 : wr.cell? ⟨b1, of1 + k, none⟩ = some (.slice (some ⟨c1, d1, none⟩) (a.len k) cp1) := (hgr.below.cell (p := ⟨b1, of1 + k, none⟩) (by show b1 < _; omega)).trans p1
      have s2 : wr.cell? ⟨b2, of2 + k, none⟩ = some (.slice (some ⟨c2, d2, none⟩) (b.len k) cp2) := (hgr.below.cell (p := ⟨b2, of2 + k, none⟩) (by show b2 < _; omega)).trans p3
      have q1 : ∀ j, j < a.len k → wr.cell? ⟨c1, d1 + j, none⟩ = some (.int .i64 (a.z k j)) := fun j hj => (hgr.below.cell (p := ⟨c1, d1 + j, none⟩) (by show c1 < _; omega)).trans (p2 j hj)
      have q2 : ∀ j, j < b.len k → wr.cell? ⟨c2, d2 + j, none⟩ = some (.int .i64 (b.z k j)) := fun j hj => (hgr.below.cell (p := ⟨c2, d2 + j, none⟩) (by show c2 < _; omega)).trans (p4 j hj)
      have Q1 := Lib.hid q1
      have Q2 := Lib.hid q2
      have hb0 : Below wr.heap.size wr (wr.alloc (.cells #[] 3)).drew := ((Below.refl _ _).alloc (Nat.le_refl _) _).drew
      have HB0 := Lib.hid hb0
      have S0 := Lib.hid (show (wr.alloc (.cells #[] 3)).drew.cell? ⟨b1, of1 + k, none⟩ = some (.slice (some ⟨c1, d1, none⟩) (a.len k) cp1) ∧ (wr.alloc (.cells #[] 3)).drew.cell? ⟨b2, of2 + k, none⟩ = some (.slice (some ⟨c2, d2, none⟩) (b.len k) cp2) from ⟨(hb0.cell (p := ⟨b1, of1 + k, none⟩) (by show b1 < _; omega)).trans s1, (hb0.cell (p := ⟨b2, of2 + k, none⟩) (by show b2 < _; omega)).trans s2⟩)
      have hrs := (Rw.start wr ((besideG a b).z k))
      obtain ⟨ys0, hs1, hs2⟩ := hrs
      have hys0 : ys0 = [] := List.length_eq_zero_iff.1 (by have := hs1.1; omega)
      subst hys0
      have hs1d : (wr.alloc (.cells #[] 3)).drew.ownsRow wr.heap.size 3 1 (.slice (some ⟨wr.heap.size, 0, none⟩) 0 0) 0 [] := hs1
      have HS1 := Lib.hid hs1d
      have HGR := Lib.hid hgr
      have HLA := Lib.hid hla
      have HLB := Lib.hid hlb
      have hlak : a.len k ≤ 7 ∧ 1 ≤ a.len k := by omega
      have hlbk : b.len k ≤ 7 ∧ 1 ≤ b.len k := by omega
      have hbw1 : b1 < wr.heap.size := by omega
      have hbx1 : b1 < w.heap.size := by omega
      have hbx2 : b2 < w.heap.size := by omega
      have hbw2 : b2 < wr.heap.size := by omega
      obtain ⟨hla71, hla11⟩ := hlak
      obtain ⟨hlb71, hlb11⟩ := hlbk
      clear hs1 hs1d hs2 hb0 q1 q2 p1 p2 p3 p4 hgr hla hlb
      go_wp2_with fail
      go_region_held3 (fun w' => w'.cell? ⟨b1, of1 + k, none⟩ = some (.slice (some ⟨c1, d1, none⟩) (a.len k) cp1) ∧ w'.cell? ⟨b2, of2 + k, none⟩ = some (.slice (some ⟨c2, d2, none⟩) (b.len k) cp2))
        (first | exact ⟨s1, s2⟩ | exact S0.out | exact k3.out | exact k2a.out | exact k2.out | exact k1.out)
        (first
          | (refine step_append_lies _ (by rfl) _ _ 29 (by rfl) wr.heap.size 3 i0 _ 1 8 Try.underlying29 hi0 hz0 hz1 hz2 rfl (by omega) (.slice (some ⟨wr.heap.size, 0, none⟩) 0 0) 0 [] (by rfl) HS1.out ⟨c1, d1, none⟩ (a.len k) cp1 ((List.range (a.len k)).map fun c => Value.int .i64 (a.z k c)) (by rfl) (by simp) (news_of (fun j hj => (HB0.out.cell (p := ⟨c1, d1 + j, none⟩) (by show c1 < _; omega)).trans (Q1.out j hj))) (by simp [Value.oneCell']) (by omega) (by unfold maxLen; omega) (by omega) (by simp) (wr.heap.size + 1) (by simp) ?_; intro g1 cq1 w1 hown1 hg1 hat1 hl1; simp only [List.nil_append, Nat.zero_add] at hown1 ⊢; have HBL1 := Lib.hid (HB0.out.trans ((Below.refl wr.heap.size _).grown hg1 (by simp) (fun j hj => by simp [Value.ownBlock] at hj; exact Nat.le_of_eq hj))); have k1 := Lib.hid (show w1.cell? ⟨b1, of1 + k, none⟩ = some (.slice (some ⟨c1, d1, none⟩) (a.len k) cp1) ∧ w1.cell? ⟨b2, of2 + k, none⟩ = some (.slice (some ⟨c2, d2, none⟩) (b.len k) cp2) from ⟨(HBL1.out.cell (p := ⟨b1, of1 + k, none⟩) hbw1).trans s1, (HBL1.out.cell (p := ⟨b2, of2 + k, none⟩) hbw2).trans s2⟩); have hws1 := HBL1.out.size; have HO1 := Lib.hid hown1; clear hown1 hg1 hat1)
          | (refine step_append_lies _ (by rfl) _ _ 29 (by rfl) wr.heap.size 3 i0 _ 1 8 Try.underlying29 hi0 hz0 hz1 hz2 rfl (by omega) (.slice (some ⟨g1, 0, none⟩) (a.len k) cq1) (a.len k) _ (by rfl) HO1.out ⟨c2, d2, none⟩ (b.len k) cp2 ((List.range (b.len k)).map fun c => Value.int .i64 (b.z k c)) (by rfl) (by simp) (news_of (fun j hj => (HBL1.out.cell (p := ⟨c2, d2 + j, none⟩) (by show c2 < _; omega)).trans (Q2.out j hj))) (by simp [Value.oneCell']) (by omega) (by unfold maxLen; omega) (by omega) (by omega) w1.heap.size rfl ?_; intro g2 cq2 w2 hown2 hg2 hat2 hl2; have HBL2 := Lib.hid (HBL1.out.trans ((Below.refl wr.heap.size _).grown hg2 hws1 (fun j hj => (HO1.out.lt j hj).1))); have k2 := Lib.hid (show w2.cell? ⟨b1, of1 + k, none⟩ = some (.slice (some ⟨c1, d1, none⟩) (a.len k) cp1) ∧ w2.cell? ⟨b2, of2 + k, none⟩ = some (.slice (some ⟨c2, d2, none⟩) (b.len k) cp2) from ⟨(HBL2.out.cell (p := ⟨b1, of1 + k, none⟩) hbw1).trans s1, (HBL2.out.cell (p := ⟨b2, of2 + k, none⟩) hbw2).trans s2⟩); have hws2 := HBL2.out.size; have HO2 := Lib.hid hown2; have HGR2 := Lib.hid ((HGR.out.raise HGR.out.hi (Nat.le_refl _)).keep HBL2.out); have htop2 := HGR2.out.top; have hbl2a := (Below.refl w2.heap.size w2).alloc (Nat.le_refl _) (.cells #[.slice (some ⟨g2, 0, none⟩) (a.len k + b.len k) cq2] 29); have k2a := Lib.hid (show (w2.alloc (.cells #[.slice (some ⟨g2, 0, none⟩) (a.len k + b.len k) cq2] 29)).cell? ⟨b1, of1 + k, none⟩ = some (.slice (some ⟨c1, d1, none⟩) (a.len k) cp1) ∧ (w2.alloc (.cells #[.slice (some ⟨g2, 0, none⟩) (a.len k + b.len k) cq2] 29)).cell? ⟨b2, of2 + k, none⟩ = some (.slice (some ⟨c2, d2, none⟩) (b.len k) cp2) from ⟨(hbl2a.cell (p := ⟨b1, of1 + k, none⟩) (Nat.lt_of_lt_of_le hbw1 hws2)).trans k2.out.1, (hbl2a.cell (p := ⟨b2, of2 + k, none⟩) (Nat.lt_of_lt_of_le hbw2 hws2)).trans k2.out.2⟩); clear hown2 hg2 hat2 hbl2a)
          | (refine step_append_lies _ (by rfl) _ _ 23 (by rfl) w.heap.size 29 i1 _ 1 24 Try.underlying23 hi1 hy0 hy1 hy2 rfl (by omega) v k _ (by rfl) (htop2.alloc _) ⟨w2.heap.size, 0, none⟩ 1 1 [.slice (some ⟨g2, 0, none⟩) (a.len k + b.len k) cq2] (by rfl) (by rfl) (World.news_of_block (cs := #[.slice (some ⟨g2, 0, none⟩) (a.len k + b.len k) cq2]) (t := 29) (fr := (0, 0)) (heap_alloc_new w2 _)) (by simp [Value.oneCell']) (by omega) (by unfold maxLen; omega) (by omega) (by simp; omega) (w2.heap.size + 1) (by simp) ?_; intro g3 cq3 w3 hown3 hg3 hat3 hl3; have HGR3 := Lib.hid (HGR2.out.push (beside_row HLA.out HLB.out HO2.out) hown3 hg3); have k3 := Lib.hid (show w3.cell? ⟨b1, of1 + k, none⟩ = some (.slice (some ⟨c1, d1, none⟩) (a.len k) cp1) ∧ w3.cell? ⟨b2, of2 + k, none⟩ = some (.slice (some ⟨c2, d2, none⟩) (b.len k) cp2) from ⟨(HGR3.out.below.cell (p := ⟨b1, of1 + k, none⟩) hbx1).trans ((HGR2.out.below.cell (p := ⟨b1, of1 + k, none⟩) hbx1).symm.trans k2.out.1), (HGR3.out.below.cell (p := ⟨b2, of2 + k, none⟩) hbx2).trans ((HGR2.out.below.cell (p := ⟨b2, of2 + k, none⟩) hbx2).symm.trans k2.out.2)⟩); clear hown3 hg3 hat3 htop2))
      all_goals go_wp2
      all_goals go_roundw
      case rel => exact ⟨k + 1, _, _, _, by omega, by go_num, rfl, HGR3.out⟩
      case measure => simp [intOf]; omega
    · have ec : k = a.n := by omega
      subst ec
      obtain ⟨bq, cq, rfl⟩ : ∃ bq cq, v = .slice (some ⟨bq, 0, none⟩) a.n cq := by
        obtain ⟨bq, cq, _, _, h3⟩ := own_slice hgr.top
        rcases h3 with h3 | h3
        · exact ⟨bq, cq, h3.1⟩
        · omega
      have HM := Lib.hid (Gr.rdM (g := besideG a b) hgr (beside_range HA.out HB.out HN.out))
      have HBL := Lib.hid hgr.below
      clear hgr
      go_wp2_with fail
      refine (specValid_any _ _ _ _ _ HM.out).mono ?_
      intro e w4 hq
      obtain ⟨rfl, hb4⟩ := hq.below
      have HM2 := Lib.hid (HM.out.keep hb4)
      have HB2 := Lib.hid (HBL.out.trans (hb4.mono HBL.out.size))
      have hs4 := hb4.size
      clear hb4 hq
      by_cases hval : (besideG a b).Valid
      · rw [G.vB_yes hval]
        have HOK := Lib.hid (show BesideOk a b from ⟨HA.out, HB.out, HN.out, (beside_valid HA.out HB.out HN.out).1 hval⟩)
        clear hval
        go_wp2
        go_ret2
        exact ⟨fun _ => ⟨_, rfl, ⟨_, _, _, rfl⟩, HM2.out.mono (Nat.le_refl _) hs4, HB2.out⟩, fun h => absurd HOK.out h⟩
      · rw [G.vB_no hval]
        have HOK := Lib.hid (show ¬ BesideOk a b from fun h => hval ((beside_valid HA.out HB.out HN.out).2 h.2.2.2))
        clear hval
        go_wp2
        go_ret2
        exact ⟨fun h => absurd h HOK.out, fun _ => ⟨_, rfl, ⟨_, _, _, rfl⟩, RdM.empty _ _ _ _ _ (by omega), HB2.out.alloc HB2.out.size _⟩⟩

set_option maxHeartbeats 4000000 in
set_option maxRecDepth 20000 in
theorem specGridBeside_any (v u : Value) (lo hi : Nat) (a b : G) (w : World) (hv : RdM lo hi w v a) (hu : RdM lo hi w u b) (hh : hi ≤ w.heap.size) :
    Calls Try.prog 8 #[v, u] w (BsPost a b w) := by
  have HV := Lib.hid (fun (W : World) (hb : Below w.heap.size w W) => specValid_any v lo hi a W (hv.same (SameIn.below hb hh)))
  have HU := Lib.hid (fun (W : World) (hb : Below w.heap.size w W) => specValid_any u lo hi b W (hu.same (SameIn.below hb hh)))
  have HB0 := Lib.hid ((Below.refl w.heap.size w).alloc (Nat.le_refl _) (.cells #[] 29))
  by_cases ha : a.Valid
  case neg =>
    have HC1 := Lib.hid (G.vB_no ha)
    have HNO := Lib.hid (show ¬ BesideOk a b from fun h => ha h.1)
    clear hv hu ha
    go_enter Try.func8, Try.ntmps8
    go_wp2_with fail
    refine (HV.out _ HB0.out).mono ?_
    intro e w1 hq
    obtain ⟨rfl, hbx⟩ := hq.below
    rw [HC1.out]
    have HB1 := Lib.hid (HB0.out.trans (hbx.mono HB0.out.size))
    clear hbx hq
    go_wp2
    go_ret2
    exact ⟨fun h => absurd h HNO.out, fun _ => ⟨_, rfl, ⟨_, _, _, rfl⟩, RdM.empty _ _ _ _ _ (by omega), HB1.out⟩⟩
  case pos =>
    by_cases hb : b.Valid
    case neg =>
      have HC1 := Lib.hid (G.vB_yes ha)
      have HC2 := Lib.hid (G.vB_no hb)
      have HNO := Lib.hid (show ¬ BesideOk a b from fun h => hb h.2.1)
      clear hv hu ha hb
      go_enter Try.func8, Try.ntmps8
      go_wp2_with fail
      refine (HV.out _ HB0.out).mono ?_
      intro e w1 hq
      obtain ⟨rfl, hbx⟩ := hq.below
      rw [HC1.out]
      have HB1 := Lib.hid (HB0.out.trans (hbx.mono HB0.out.size))
      clear hbx hq
      go_wp2_with fail
      refine (HU.out _ HB1.out).mono ?_
      intro e w2 hq
      obtain ⟨rfl, hbx⟩ := hq.below
      rw [HC2.out]
      have HB2 := Lib.hid (HB1.out.trans (hbx.mono HB1.out.size))
      clear hbx hq
      go_wp2
      go_ret2
      exact ⟨fun h => absurd h HNO.out, fun _ => ⟨_, rfl, ⟨_, _, _, rfl⟩, RdM.empty _ _ _ _ _ (by omega), HB2.out⟩⟩
    case pos =>
      by_cases hn : a.n = b.n
      · exact specGridBeside_both v u lo hi a b w hv hu hh ha hb hn
      · have HC1 := Lib.hid (G.vB_yes ha)
        have HC2 := Lib.hid (G.vB_yes hb)
        have HNO := Lib.hid (show ¬ BesideOk a b from fun h => hn h.2.2.1)
        have hx : ((a.n : Int) != b.n) = true := by rw [bne_iff_ne]; omega
        obtain ⟨b1, of1, cap1, _, _, _, rfl, _, _, _, _, _⟩ := hv.rowAt (r := 0) (by have := ha.1; omega) (by have := ha.2.1; omega)
        obtain ⟨b2, of2, cap2, _, _, _, rfl, _, _, _, _, _⟩ := hu.rowAt (r := 0) (by have := hb.1; omega) (by have := hb.2.1; omega)
        clear hv hu ha hb hn
        go_enter Try.func8, Try.ntmps8
        go_wp2_with fail
        refine (HV.out _ HB0.out).mono ?_
        intro e w1 hq
        obtain ⟨rfl, hbx⟩ := hq.below
        rw [HC1.out]
        have HB1 := Lib.hid (HB0.out.trans (hbx.mono HB0.out.size))
        clear hbx hq
        go_wp2_with fail
        refine (HU.out _ HB1.out).mono ?_
        intro e w2 hq
        obtain ⟨rfl, hbx⟩ := hq.below
        rw [HC2.out]
        have HB2 := Lib.hid (HB1.out.trans (hbx.mono HB1.out.size))
        clear hbx hq
        go_wp2
        go_ret2
        exact ⟨fun h => absurd h HNO.out, fun _ => ⟨_, rfl, ⟨_, _, _, rfl⟩, RdM.empty _ _ _ _ _ (by omega), HB2.out⟩⟩

end Go.Proofs.Ytdiehjigfmjjiaa
