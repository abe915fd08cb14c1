/- Two grids joined along their common side: what is reckoned; the model. -/
import Derived.Test.YtjllmidagcniaaaGpA
import Derived.Test.YtjllmidagcniaaaApp
import Derived.Test.YtjllmidagcniaaaSpecH
namespace Go.Proofs.Ytjllmidagcniaaa
open Go.RowKit
set_option linter.unusedVariables false

def joinG (a b : G) : G := { n := a.n, len := fun _ => a.len 0 + (b.len 0 - 1), z := fun r c => if c < a.len 0 then a.z r c else b.z r (c - a.len 0 + 1) }
/-- what GridsJoin asks -/
def JoinOk (a b : G) : Prop := agB a b = true ∧ a.len 0 + (b.len 0 - 1) ≤ 7
theorem agB_ok {a b : G} (h : agB a b = true) : RwOk a b := Classical.byContradiction fun hn => by
  have := gapV_no hn
  simp [agB, this] at h
theorem join_valid {a b : G} (h : RwOk a b) : (joinG a b).Valid ↔ a.len 0 + (b.len 0 - 1) ≤ 7 := by
  constructor
  · intro h; exact h.2.1.2
  · intro hl
    refine ⟨h.1.1, ⟨by have := h.1.2.1; simp only [joinG]; omega, hl⟩, fun r hr => ⟨rfl, fun c hc => ?_⟩⟩
    simp only [joinG] at hr hc ⊢
    split
    · exact valid_at h.1 hr (by omega)
    · exact valid_at h.2.1 (by have := h.2.2; omega) (by omega)
theorem join_range {a b : G} (h : RwOk a b) : ∀ r, r < (joinG a b).n → ∀ c, c < (joinG a b).len r → -9223372036854775808 ≤ (joinG a b).z r c ∧ (joinG a b).z r c ≤ 9223372036854775807 := by
  intro r hr c hc
  simp only [joinG] at hr hc ⊢
  split
  · have := valid_at h.1 hr (c := c) (by omega); omega
  · have := valid_at h.2.1 (r := r) (c := c - a.len 0 + 1) (by have := h.2.2; omega) (by omega); omega
theorem join_row {a b : G} {k B0 g2 cq2 m : Nat} {w2 : World} (ha : a.len k = a.len 0) (hm : b.len 0 - 1 = m)
    (h : w2.ownsRow B0 3 1 (.slice (some ⟨g2, 0, none⟩) (a.len k + m) cq2) (a.len k + m) (((List.range (a.len k)).map fun c => Value.int .i64 (a.z k c)) ++ (List.range m).map fun c => Value.int .i64 (b.z k (c + 1)))) :
    Rw B0 w2 (.slice (some ⟨g2, 0, none⟩) (a.len k + m) cq2) ((joinG a b).len k) ((joinG a b).z k) := by
  have e : (joinG a b).len k = a.len k + m := by simp only [joinG]; omega
  rw [e]
  refine ⟨_, h, fun i hi => ?_⟩
  simp only [joinG]
  by_cases h1 : i < a.len k
  · rw [List.getElem?_append_left (by simpa using h1), if_pos (by omega)]; simp [h1]
  · rw [List.getElem?_append_right (by simpa using Nat.le_of_not_lt h1), if_neg (by omega)]
    have h3 : i - a.len 0 < m := by omega
    simp [h3, ha]

def JnPost (a b : G) (w : World) (e : Ending) (w' : World) : Prop := (JoinOk a b → SPost true (joinG a b) w e w') ∧ (¬ JoinOk a b → SPost false G0 w e w')

set_option maxHeartbeats 2000000 in
set_option maxRecDepth 20000 in
theorem specGridsJoin_no (v u : Value) (lo hi : Nat) (a b : G) (w : World) (hv : RdM lo hi w v a) (hu : RdM lo hi w u b) (hh : hi ≤ w.heap.size) (h : agB a b = false) :
    Calls Try.prog 21 #[v, u] w (JnPost a b w) := by
  have HC := Lib.hid (fun (W : World) (hb : Below w.heap.size w W) => specGridsAgree_any v u lo hi a b W (hv.same (SameIn.below hb hh)) (hu.same (SameIn.below hb hh)))
  have HNO := Lib.hid (show ¬ JoinOk a b from fun g => by have g1 := g.1; rw [h] at g1; cases g1)
  have HE := Lib.hid h
  have hG0 : ¬ G0.Valid := fun g => by have := g.1.1; simp [G0] at this
  have HV := Lib.hid (G.vB_no hG0)
  have HB0 := Lib.hid ((Below.refl w.heap.size w).alloc (Nat.le_refl _) (.cells #[] 34))
  obtain ⟨va, vc, rfl⟩ : ∃ x y, v = .slice x a.n y := by obtain ⟨x, y, _, _, _, _, e, _⟩ := hv; exact ⟨x, y, e⟩
  obtain ⟨ua, uc, rfl⟩ : ∃ x y, u = .slice x b.n y := by obtain ⟨x, y, _, _, _, _, e, _⟩ := hu; exact ⟨x, y, e⟩
  clear hv hu h hG0
  go_enter Try.func21, Try.ntmps21
  go_wp2
  go_loopw [6, 7] (fun o i wr => o = .slice (some ⟨w.heap.size, 0, none⟩) 0 0 ∧ i = .int .i64 0 ∧ wr = w.alloc (.cells #[] 34)) (fun _ i _ => 0)
  case atStart => exact ⟨rfl, rfl, rfl⟩
  case round =>
    obtain ⟨rfl, rfl, rfl⟩ := hrel
    by_cases hn : a.n = 0
    · have hn' : ¬ ((0 : Int) < a.n) := by omega
      go_wp2_with fail
      refine (specValid_any _ 0 0 G0 _ (RdM.empty _ _ _ _ _ (by omega))).mono ?_
      intro e w4 hq
      obtain ⟨rfl, hb4⟩ := hq.below
      have HB2 := Lib.hid (HB0.out.trans (hb4.mono HB0.out.size))
      rw [HV.out]
      clear hb4 hq
      go_wp2
      go_ret2
      exact ⟨fun h => absurd h HNO.out, fun _ => ⟨_, rfl, ⟨_, _, _, rfl⟩, RdM.empty _ _ _ _ _ (by omega), HB2.out.alloc HB2.out.size _⟩⟩
    · have hn' : (0 : Int) < a.n := by omega
      go_wp2_with fail
      refine (HC.out _ HB0.out).mono ?_
      rintro e w1 ⟨rfl, hb1⟩
      have HB1 := Lib.hid (HB0.out.trans (hb1.mono HB0.out.size))
      rw [HE.out]
      clear hb1
      go_wp2_with fail
      refine (specValid_any _ 0 0 G0 _ (RdM.empty _ _ _ _ _ (by omega))).mono ?_
      intro e w4 hq
      obtain ⟨rfl, hb4⟩ := hq.below
      have HB2 := Lib.hid (HB1.out.trans (hb4.mono HB1.out.size))
      rw [HV.out]
      clear hb4 hq
      go_wp2
      go_ret2
      exact ⟨fun h => absurd h HNO.out, fun _ => ⟨_, rfl, ⟨_, _, _, rfl⟩, RdM.empty _ _ _ _ _ (by omega), HB2.out.alloc HB2.out.size _⟩⟩

set_option maxHeartbeats 8000000 in
set_option maxRecDepth 20000 in
theorem specGridsJoin_yes (v u : Value) (lo hi : Nat) (a b : G) (w : World) (hv : RdM lo hi w v a) (hu : RdM lo hi w u b) (hh : hi ≤ w.heap.size) (h : agB a b = true) :
    Calls Try.prog 21 #[v, u] w (JnPost a b w) := by
  have HC := Lib.hid (fun (W : World) (hb : Below w.heap.size w W) => specGridsAgree_any v u lo hi a b W (hv.same (SameIn.below hb hh)) (hu.same (SameIn.below hb hh)))
  have HE := Lib.hid h
  have hok := agB_ok h
  have HH := Lib.hid hok
  have HRV := Lib.hid hv
  have HRU := Lib.hid hu
  have hn7 := hok.1.1.2
  have hn1 := hok.1.1.1
  have hla7 := hok.1.2.1.2
  have hlb7 := hok.2.1.2.1.2
  have hla1 := hok.1.2.1.1
  have hlb1 := hok.2.1.2.1.1
  have hbn1 := hok.2.1.1.1
  obtain ⟨i1, hi1, hy0, hy1, hy2⟩ := info_parts Try.infoR
  obtain ⟨b1, of1, cap1, _, _, _, rfl, _, _, hbb1, _, _⟩ := hv.rowAt (r := 0) (by omega) (by omega)
  obtain ⟨b2, of2, cap2, _, _, _, rfl, _, _, hbb2, _, _⟩ := hu.rowAt (r := 0) (by omega) (by omega)
  have HG0 := Lib.hid (Gr.start w (fun _ => undef) (joinG a b))
  obtain ⟨m, em⟩ : ∃ m, b.len 0 - 1 = m := ⟨_, rfl⟩
  have hm6 : m ≤ 6 := by omega
  have HM := Lib.hid em
  clear hv hu h hok em hlb1 hlb7
  go_enter Try.func21, Try.ntmps21
  go_wp2
  go_loopw [6, 7] (fun o i wr => ∃ (k : Nat) (v : Value) (B : Nat) (RV : Nat → Value), k ≤ a.n ∧ i = .int .i64 k ∧ v = o ∧ Gr w wr v k B RV (joinG a b)) (fun _ i _ => a.n - (intOf i).toNat)
  case atStart => exact ⟨0, _, _, _, Nat.zero_le _, rfl, rfl, HG0.out⟩
  case round =>
    obtain ⟨k, v, B, RV, hk, rfl, rfl, hgr⟩ := hrel
    by_cases hlt : k < a.n
    · have hlt' : (k : Int) < a.n := by omega
      have hltb : k < b.n := by have := HH.out.2.2; omega
      have hltb' : (k : Int) < b.n := by omega
      have hk0 : (0 : Int) ≤ k := by omega
      have hla : a.len k = a.len 0 := (HH.out.1.2.2 k hlt).1
      have hlb : b.len k = b.len 0 := (HH.out.2.1.2.2 k hltb).1
      have hlb1 := HH.out.2.1.2.1.1
      obtain ⟨x1, y1, z1, c1, d1, cp1, e1, p1, p2, _, hc1, _⟩ := HRV.out.rowAt hlt (by omega)
      simp only [Value.slice.injEq, Option.some.injEq, Addr.mk.injEq, and_true, true_and] at e1
      obtain ⟨⟨rfl, rfl⟩, rfl⟩ := e1
      obtain ⟨x2, y2, z2, c2, d2, cp2, e2, p3, p4, _, hc2, hcp2⟩ := HRU.out.rowAt hltb (by omega)
      simp only [Value.slice.injEq, Option.some.injEq, Addr.mk.injEq, and_true, true_and] at e2
      obtain ⟨⟨rfl, rfl⟩, rfl⟩ := e2
      obtain ⟨L2, eL2⟩ : ∃ L2, b.len k = L2 := ⟨_, rfl⟩
      rw [eL2] at p3 p4 hcp2
      have hLm : L2 = m + 1 := by have := HM.out; omega
      have hcpi : (L2 : Int) ≤ cp2 := by omega
      have hL1 : (1 : Int) ≤ L2 := by omega
      have hHC := HC.out wr hgr.below
      have HLA := Lib.hid hla
      have HGR := Lib.hid hgr
      have hlak : a.len k ≤ 7 ∧ 1 ≤ a.len k := by omega
      obtain ⟨hla71, hla11⟩ := hlak
      have HP := Lib.hid (And.intro p1 p3)
      have HP2 := Lib.hid p2
      have HP4 := Lib.hid p4
      have hbx1 : b1 < w.heap.size := by omega
      have hbx2 : b2 < w.heap.size := by omega
      have hcx1 : c1 < w.heap.size := by omega
      have hcx2 : c2 < w.heap.size := by omega
      have hL1n : 1 ≤ L2 := by omega
      have hL0 : 0 < L2 := by omega
      have hL2m : L2 - 1 = m := by omega
      have HLM := Lib.hid hLm
      clear p1 p2 p3 p4 hgr hla hlb eL2 hLm
      go_wp2_with fail
      refine hHC.mono ?_
      rintro e w1 ⟨rfl, hb1⟩
      rw [HE.out]
      have HG1 := Lib.hid (HGR.out.keep (hb1.mono HGR.out.hi))
      have hz1 : w.heap.size ≤ w1.heap.size := HG1.out.below.size
      have s1 : w1.cell? ⟨b1, of1 + k, none⟩ = some (.slice (some ⟨c1, d1, none⟩) (a.len k) cp1) := (HG1.out.below.cell (p := ⟨b1, of1 + k, none⟩) hbx1).trans HP.out.1
      have s2 : w1.cell? ⟨b2, of2 + k, none⟩ = some (.slice (some ⟨c2, d2, none⟩) L2 cp2) := (HG1.out.below.cell (p := ⟨b2, of2 + k, none⟩) hbx2).trans HP.out.2
      have Q1 := Lib.hid (fun (W : World) (hW : Below w1.heap.size w1 W) (j : Nat) (hj : j < a.len k) => (hW.cell (p := ⟨c1, d1 + j, none⟩) (by show c1 < _; omega)).trans ((HG1.out.below.cell (p := ⟨c1, d1 + j, none⟩) hcx1).trans (HP2.out j hj)))
      have Q2 := Lib.hid (fun (W : World) (hW : Below w1.heap.size w1 W) (j : Nat) (hj : j < L2) => (hW.cell (p := ⟨c2, d2 + j, none⟩) (by show c2 < _; omega)).trans ((HG1.out.below.cell (p := ⟨c2, d2 + j, none⟩) hcx2).trans (HP4.out j hj)))
      have hb0 : Below w1.heap.size w1 (w1.alloc (.cells #[] 3)).drew := ((Below.refl _ _).alloc (Nat.le_refl _) _).drew
      have HB0 := Lib.hid hb0
      have S0 := Lib.hid (show (w1.alloc (.cells #[] 3)).drew.cell? ⟨b1, of1 + k, none⟩ = some (.slice (some ⟨c1, d1, none⟩) (a.len k) cp1) ∧ (w1.alloc (.cells #[] 3)).drew.cell? ⟨b2, of2 + k, none⟩ = some (.slice (some ⟨c2, d2, none⟩) L2 cp2) from ⟨(hb0.cell (p := ⟨b1, of1 + k, none⟩) (by show b1 < _; omega)).trans s1, (hb0.cell (p := ⟨b2, of2 + k, none⟩) (by show b2 < _; omega)).trans s2⟩)
      have hrs := (Rw.start w1 ((joinG a b).z k))
      obtain ⟨ys0, hs1, hs2⟩ := hrs
      have hys0 : ys0 = [] := List.length_eq_zero_iff.1 (by have := hs1.1; omega)
      subst hys0
      have hs1d : (w1.alloc (.cells #[] 3)).drew.ownsRow w1.heap.size 3 1 (.slice (some ⟨w1.heap.size, 0, none⟩) 0 0) 0 [] := hs1
      have HS1 := Lib.hid hs1d
      have hbw1 : b1 < w1.heap.size := by omega
      have hbw2 : b2 < w1.heap.size := by omega
      clear hs1 hs1d hs2 hb0 hb1 hHC
      by_cases hcc : cp2 = 1
      case pos =>
        have hm0 : m = 0 := by omega
        have HMM := Lib.hid hm0
        clear hm0
        subst hcc
        go_wp2_with fail
        go_region_held3 (fun w' => w'.cell? ⟨b1, of1 + k, none⟩ = some (.slice (some ⟨c1, d1, none⟩) (a.len k) cp1) ∧ w'.cell? ⟨b2, of2 + k, none⟩ = some (.slice (some ⟨c2, d2, none⟩) L2 1))
          (first | exact ⟨s1, s2⟩ | exact S0.out | exact k3.out | exact k2a.out | exact k2.out | exact k1.out)
          (first
            | (refine step_append_ints (by rfl) _ _ (by rfl) w1.heap.size (.slice (some ⟨w1.heap.size, 0, none⟩) 0 0) 0 [] (by rfl) HS1.out ⟨c1, d1, none⟩ (a.len k) cp1 (a.z k) (by rfl) (fun j hj => by rw [add_none]; exact Q1.out _ HB0.out j hj) (by omega) (by omega) (by simp) ?_; intro g1 cq1 w2 hown1 hg1 hl1; simp only [List.nil_append, Nat.zero_add] at hown1 ⊢; have HBL1 := Lib.hid (HB0.out.trans ((Below.refl w1.heap.size _).grown hg1 (by simp) (fun j hj => by simp [Value.ownBlock] at hj; exact Nat.le_of_eq hj))); have k1 := Lib.hid (show w2.cell? ⟨b1, of1 + k, none⟩ = some (.slice (some ⟨c1, d1, none⟩) (a.len k) cp1) ∧ w2.cell? ⟨b2, of2 + k, none⟩ = some (.slice (some ⟨c2, d2, none⟩) L2 1) from ⟨(HBL1.out.cell (p := ⟨b1, of1 + k, none⟩) hbw1).trans s1, (HBL1.out.cell (p := ⟨b2, of2 + k, none⟩) hbw2).trans s2⟩); have hws1 := HBL1.out.size; have HO1 := Lib.hid hown1; clear hown1 hg1)
            | (refine step_append_ints (by rfl) _ _ (by rfl) w1.heap.size (.slice (some ⟨g1, 0, none⟩) (a.len k) cq1) (a.len k) _ (by rfl) HO1.out ⟨c2, d2, none⟩ m 0 (fun j => b.z k (j + 1)) (by rfl) (fun j hj => by have := HMM.out; omega) (by omega) (by omega) (by omega) ?_; intro g2 cq2 w3 hown2 hg2 hl2; have HBL2 := Lib.hid (HBL1.out.trans ((Below.refl w1.heap.size _).grown hg2 hws1 (fun j hj => (HO1.out.lt j hj).1))); have k2 := Lib.hid (show w3.cell? ⟨b1, of1 + k, none⟩ = some (.slice (some ⟨c1, d1, none⟩) (a.len k) cp1) ∧ w3.cell? ⟨b2, of2 + k, none⟩ = some (.slice (some ⟨c2, d2, none⟩) L2 1) from ⟨(HBL2.out.cell (p := ⟨b1, of1 + k, none⟩) hbw1).trans s1, (HBL2.out.cell (p := ⟨b2, of2 + k, none⟩) hbw2).trans s2⟩); have hws2 := HBL2.out.size; have HO2 := Lib.hid hown2; have HGR2 := Lib.hid ((HG1.out.raise HG1.out.hi (Nat.le_refl _)).keep HBL2.out); have htop2 := HGR2.out.top; have hbl2a := (Below.refl w3.heap.size w3).alloc (Nat.le_refl _) (.cells #[.slice (some ⟨g2, 0, none⟩) (a.len k + m) cq2] 34); have k2a := Lib.hid (show (w3.alloc (.cells #[.slice (some ⟨g2, 0, none⟩) (a.len k + m) cq2] 34)).cell? ⟨b1, of1 + k, none⟩ = some (.slice (some ⟨c1, d1, none⟩) (a.len k) cp1) ∧ (w3.alloc (.cells #[.slice (some ⟨g2, 0, none⟩) (a.len k + m) cq2] 34)).cell? ⟨b2, of2 + k, none⟩ = some (.slice (some ⟨c2, d2, none⟩) L2 1) from ⟨(hbl2a.cell (p := ⟨b1, of1 + k, none⟩) (Nat.lt_of_lt_of_le hbw1 hws2)).trans k2.out.1, (hbl2a.cell (p := ⟨b2, of2 + k, none⟩) (Nat.lt_of_lt_of_le hbw2 hws2)).trans k2.out.2⟩); clear hown2 hg2 hbl2a)
            | (refine step_append_lies _ (by rfl) _ _ 23 (by rfl) w.heap.size 34 i1 _ 1 24 Try.underlying23 hi1 hy0 hy1 hy2 rfl (by omega) v k _ (by rfl) (htop2.alloc _) ⟨w3.heap.size, 0, none⟩ 1 1 [.slice (some ⟨g2, 0, none⟩) (a.len k + m) cq2] (by rfl) (by rfl) (World.news_of_block (cs := #[.slice (some ⟨g2, 0, none⟩) (a.len k + m) cq2]) (t := 34) (fr := (0, 0)) (heap_alloc_new w3 _)) (by simp [Value.oneCell']) (by omega) (by unfold maxLen; omega) (by omega) (by simp; omega) (w3.heap.size + 1) (by simp) ?_; intro g3 cq3 w4 hown3 hg3 hat3 hl3; have HGR3 := Lib.hid (HGR2.out.push (join_row HLA.out HM.out HO2.out) hown3 hg3); have k3 := Lib.hid (show w4.cell? ⟨b1, of1 + k, none⟩ = some (.slice (some ⟨c1, d1, none⟩) (a.len k) cp1) ∧ w4.cell? ⟨b2, of2 + k, none⟩ = some (.slice (some ⟨c2, d2, none⟩) L2 1) from ⟨(HGR3.out.below.cell (p := ⟨b1, of1 + k, none⟩) hbx1).trans ((HGR2.out.below.cell (p := ⟨b1, of1 + k, none⟩) hbx1).symm.trans k2.out.1), (HGR3.out.below.cell (p := ⟨b2, of2 + k, none⟩) hbx2).trans ((HGR2.out.below.cell (p := ⟨b2, of2 + k, none⟩) hbx2).symm.trans k2.out.2)⟩); clear hown3 hg3 hat3 htop2))
        all_goals go_wp2
        all_goals go_roundw
        case rel => exact ⟨k + 1, _, _, _, by omega, by go_num, rfl, HGR3.out⟩
        case measure => simp [intOf]; omega
      case neg =>
        go_wp2_with fail
        go_region_held3 (fun w' => w'.cell? ⟨b1, of1 + k, none⟩ = some (.slice (some ⟨c1, d1, none⟩) (a.len k) cp1) ∧ w'.cell? ⟨b2, of2 + k, none⟩ = some (.slice (some ⟨c2, d2, none⟩) L2 cp2))
          (first | exact ⟨s1, s2⟩ | exact S0.out | exact k3.out | exact k2a.out | exact k2.out | exact k1.out)
          (first
            | (refine step_append_ints (by rfl) _ _ (by rfl) w1.heap.size (.slice (some ⟨w1.heap.size, 0, none⟩) 0 0) 0 [] (by rfl) HS1.out ⟨c1, d1, none⟩ (a.len k) cp1 (a.z k) (by rfl) (fun j hj => by rw [add_none]; exact Q1.out _ HB0.out j hj) (by omega) (by omega) (by simp) ?_; intro g1 cq1 w2 hown1 hg1 hl1; simp only [List.nil_append, Nat.zero_add] at hown1 ⊢; have HBL1 := Lib.hid (HB0.out.trans ((Below.refl w1.heap.size _).grown hg1 (by simp) (fun j hj => by simp [Value.ownBlock] at hj; exact Nat.le_of_eq hj))); have k1 := Lib.hid (show w2.cell? ⟨b1, of1 + k, none⟩ = some (.slice (some ⟨c1, d1, none⟩) (a.len k) cp1) ∧ w2.cell? ⟨b2, of2 + k, none⟩ = some (.slice (some ⟨c2, d2, none⟩) L2 cp2) from ⟨(HBL1.out.cell (p := ⟨b1, of1 + k, none⟩) hbw1).trans s1, (HBL1.out.cell (p := ⟨b2, of2 + k, none⟩) hbw2).trans s2⟩); have hws1 := HBL1.out.size; have HO1 := Lib.hid hown1; clear hown1 hg1)
            | (refine step_append_ints (by rfl) _ _ (by rfl) w1.heap.size (.slice (some ⟨g1, 0, none⟩) (a.len k) cq1) (a.len k) _ (by rfl) HO1.out ⟨c2, d2 + 1, none⟩ m (cp2 - 1) (fun j => b.z k (j + 1)) (by rfl) (fun j hj => by rw [add_none]; have := Q2.out _ HBL1.out (j + 1) (by have := HLM.out; omega); rw [show d2 + 1 + j = d2 + (j + 1) by omega]; exact this) (by omega) (by omega) (by omega) ?_; intro g2 cq2 w3 hown2 hg2 hl2; have HBL2 := Lib.hid (HBL1.out.trans ((Below.refl w1.heap.size _).grown hg2 hws1 (fun j hj => (HO1.out.lt j hj).1))); have k2 := Lib.hid (show w3.cell? ⟨b1, of1 + k, none⟩ = some (.slice (some ⟨c1, d1, none⟩) (a.len k) cp1) ∧ w3.cell? ⟨b2, of2 + k, none⟩ = some (.slice (some ⟨c2, d2, none⟩) L2 cp2) from ⟨(HBL2.out.cell (p := ⟨b1, of1 + k, none⟩) hbw1).trans s1, (HBL2.out.cell (p := ⟨b2, of2 + k, none⟩) hbw2).trans s2⟩); have hws2 := HBL2.out.size; have HO2 := Lib.hid hown2; have HGR2 := Lib.hid ((HG1.out.raise HG1.out.hi (Nat.le_refl _)).keep HBL2.out); have htop2 := HGR2.out.top; have hbl2a := (Below.refl w3.heap.size w3).alloc (Nat.le_refl _) (.cells #[.slice (some ⟨g2, 0, none⟩) (a.len k + m) cq2] 34); have k2a := Lib.hid (show (w3.alloc (.cells #[.slice (some ⟨g2, 0, none⟩) (a.len k + m) cq2] 34)).cell? ⟨b1, of1 + k, none⟩ = some (.slice (some ⟨c1, d1, none⟩) (a.len k) cp1) ∧ (w3.alloc (.cells #[.slice (some ⟨g2, 0, none⟩) (a.len k + m) cq2] 34)).cell? ⟨b2, of2 + k, none⟩ = some (.slice (some ⟨c2, d2, none⟩) L2 cp2) from ⟨(hbl2a.cell (p := ⟨b1, of1 + k, none⟩) (Nat.lt_of_lt_of_le hbw1 hws2)).trans k2.out.1, (hbl2a.cell (p := ⟨b2, of2 + k, none⟩) (Nat.lt_of_lt_of_le hbw2 hws2)).trans k2.out.2⟩); clear hown2 hg2 hbl2a)
            | (refine step_append_lies _ (by rfl) _ _ 23 (by rfl) w.heap.size 34 i1 _ 1 24 Try.underlying23 hi1 hy0 hy1 hy2 rfl (by omega) v k _ (by rfl) (htop2.alloc _) ⟨w3.heap.size, 0, none⟩ 1 1 [.slice (some ⟨g2, 0, none⟩) (a.len k + m) cq2] (by rfl) (by rfl) (World.news_of_block (cs := #[.slice (some ⟨g2, 0, none⟩) (a.len k + m) cq2]) (t := 34) (fr := (0, 0)) (heap_alloc_new w3 _)) (by simp [Value.oneCell']) (by omega) (by unfold maxLen; omega) (by omega) (by simp; omega) (w3.heap.size + 1) (by simp) ?_; intro g3 cq3 w4 hown3 hg3 hat3 hl3; have HGR3 := Lib.hid (HGR2.out.push (join_row HLA.out HM.out HO2.out) hown3 hg3); have k3 := Lib.hid (show w4.cell? ⟨b1, of1 + k, none⟩ = some (.slice (some ⟨c1, d1, none⟩) (a.len k) cp1) ∧ w4.cell? ⟨b2, of2 + k, none⟩ = some (.slice (some ⟨c2, d2, none⟩) L2 cp2) from ⟨(HGR3.out.below.cell (p := ⟨b1, of1 + k, none⟩) hbx1).trans ((HGR2.out.below.cell (p := ⟨b1, of1 + k, none⟩) hbx1).symm.trans k2.out.1), (HGR3.out.below.cell (p := ⟨b2, of2 + k, none⟩) hbx2).trans ((HGR2.out.below.cell (p := ⟨b2, of2 + k, none⟩) hbx2).symm.trans k2.out.2)⟩); clear hown3 hg3 hat3 htop2))
        all_goals go_wp2
        all_goals go_roundw
        case rel => exact ⟨k + 1, _, _, _, by omega, by go_num, rfl, HGR3.out⟩
        case measure => simp [intOf]; omega
    · have ec : k = a.n := by omega
      subst ec
      have HC1 := Lib.hid (HC.out _ hgr.below)
      obtain ⟨bq, cq, rfl⟩ : ∃ bq cq, v = .slice (some ⟨bq, 0, none⟩) a.n cq := by
        obtain ⟨bq, cq, _, _, h3⟩ := own_slice hgr.top
        rcases h3 with h3 | h3
        · exact ⟨bq, cq, h3.1⟩
        · omega
      have HM := Lib.hid (Gr.rdM (g := joinG a b) hgr (join_range HH.out))
      have HBL := Lib.hid hgr.below
      clear hgr
      go_wp2_with fail
      refine (specValid_any _ _ _ _ _ HM.out).mono ?_
      intro e w4 hq
      obtain ⟨rfl, hb4⟩ := hq.below
      have HM2 := Lib.hid (HM.out.keep hb4)
      have HB2 := Lib.hid (HBL.out.trans (hb4.mono HBL.out.size))
      have hs4 := hb4.size
      clear hb4 hq
      by_cases hval : (joinG a b).Valid
      · rw [G.vB_yes hval]
        have HOK := Lib.hid (show JoinOk a b from ⟨HE.out, (join_valid HH.out).1 hval⟩)
        clear hval
        go_wp2
        go_ret2
        exact ⟨fun _ => ⟨_, rfl, ⟨_, _, _, rfl⟩, HM2.out.mono (Nat.le_refl _) hs4, HB2.out⟩, fun h => absurd HOK.out h⟩
      · rw [G.vB_no hval]
        have HOK := Lib.hid (show ¬ JoinOk a b from fun h => hval ((join_valid HH.out).2 h.2))
        clear hval
        go_wp2
        go_ret2
        exact ⟨fun h => absurd h HOK.out, fun _ => ⟨_, rfl, ⟨_, _, _, rfl⟩, RdM.empty _ _ _ _ _ (by omega), HB2.out.alloc HB2.out.size _⟩⟩

end Go.Proofs.Ytjllmidagcniaaa
