/- The program's heap by rank: pop. -/
import Derived.Test.YtlbdglhippapnabHpI2
namespace Go.Proofs.Ytlbdglhippapnab
open Go.RowKit
set_option linter.unusedVariables false

set_option maxHeartbeats 1000000 in
set_option maxRecDepth 100000 in
theorem pop_none (hb : Nat) (ob : Option Nat) (Z : Nat → Int) (f : Nat → Nat) (w : World) (h : HpW w hb ob Z f 0) :
    Calls Try.prog 64 #[.pointer (some ⟨hb, 0, none⟩)] w (fun e w' => e = .returned (.tuple #[.agg #[.int .i64 0, .int .i64 0], .bool false]) ∧ Below w.heap.size w w') := by
  obtain ⟨v, hbx, hrow⟩ := h
  have hlt : hb < w.heap.size := (Array.getElem?_eq_some_iff.1 hbx).1
  have hvs : ∃ a c, v = .slice a 0 c := by
    rcases hrow with ⟨rfl, _, _⟩ | ⟨b, cap, rfl, _⟩
    · exact ⟨_, _, rfl⟩
    · exact ⟨_, _, rfl⟩
  obtain ⟨av, cv, rfl⟩ := hvs
  clear hrow
  obtain ⟨k1, k2, ksz, kb⟩ : let W := (w.alloc (.cells #[.int .i64 0, .int .i64 0] 60)).alloc (.cells #[.int .i64 0, .int .i64 0] 60)
      W.heap[w.heap.size]? = some (.cells #[.int .i64 0, .int .i64 0] 60 (0, 0)) ∧ W.heap[w.heap.size + 1]? = some (.cells #[.int .i64 0, .int .i64 0] 60 (0, 0)) ∧ W.heap.size = w.heap.size + 2 ∧ Below w.heap.size w W := by
    have e1 : (w.alloc (.cells #[.int .i64 0, .int .i64 0] 60)).heap.size = w.heap.size + 1 := by simp
    have b2 := fun k hk => Below.heap_alloc (w.alloc (.cells #[.int .i64 0, .int .i64 0] 60)) (.cells #[.int .i64 0, .int .i64 0] 60) k hk
    refine ⟨(b2 _ (by omega)).trans (heap_alloc_new w _), ?_, by simp, ((Below.refl _ _).alloc (Nat.le_refl _) _).alloc (by simp) _⟩
    have := heap_alloc_new (w.alloc (.cells #[.int .i64 0, .int .i64 0] 60)) (.cells #[.int .i64 0, .int .i64 0] 60)
    rw [e1] at this
    exact this
  have c0 := one_cell ((Below.heap_alloc w (.cells #[.int .i64 0, .int .i64 0] 60) hb hlt).trans hbx)
  obtain ⟨c1, c2, f1, f2⟩ := cells2 k1
  obtain ⟨c3, c4, _, _⟩ := cells2 k2
  have HE := Lib.hid k1
  have HB := Lib.hid kb
  clear k1 k2 ksz kb hbx
  go_enter Try.func64, Try.ntmps64
  go_wp2
  exact bodyPost_ret (results_cell_row_tmp rfl _ _ w.heap.size _ #[.int .i64 0, .int .i64 0] _ _ rfl HE.out Try.underlying60 rfl Try.sizeSpot (.bool false) rfl) rfl ⟨rfl, HB.out⟩

/-- what a pop leaves where something is left -/
def PopPost (hb : Nat) (ob : Option Nat) (Z : Nat → Int) (n : Nat) (S : Nat → Prop) (w : World) (e : Ending) (w' : World) : Prop :=
  ∃ x f', e = .returned (.tuple #[.agg #[.int .i64 (Z x), .int .i64 x], .bool true]) ∧ S x ∧ (∀ y, S y → hiB Z y x = false) ∧ HpW w' hb ob Z f' n ∧ HpS Z f' n (fun y => S y ∧ y ≠ x) ∧ HpFr hb ob w w'

theorem pop_mid {w wr : World} {hb b cap n x : Nat} {Z : Nat → Int} {S : Nat → Prop} {f : Nat → Nat} (hS : HpS Z f (n + 1) S) (hbx : wr.heap[hb]? = some (.cells #[.slice (some ⟨b, 0, none⟩) (n + 1) cap] 56 (0, 0))) (hrow : HpR wr b cap Z f (n + 1)) (hlb : hb < b) (hcp : n + 1 ≤ cap ∧ cap ≤ maxLen) (hx : f n = x) {z : Int} (hz : Z x = z) :
    DnI (((wr.setCell ⟨b, 0, none⟩ (.int .i64 z)).setCell ⟨b, 1, none⟩ (.int .i64 x)).setCell ⟨hb, 0, none⟩ (.slice (some ⟨b, 0, none⟩) n cap)) (((wr.setCell ⟨b, 0, none⟩ (.int .i64 z)).setCell ⟨b, 1, none⟩ (.int .i64 x)).setCell ⟨hb, 0, none⟩ (.slice (some ⟨b, 0, none⟩) n cap)) hb b cap Z n 0 (fun y => S y ∧ y ≠ f 0) (topF f n) := by
  subst hz
  have h1 : ((wr.setCell ⟨b, 0, none⟩ (.int .i64 (Z x))).setCell ⟨b, 1, none⟩ (.int .i64 x)).heap[hb]? = some (.cells #[.slice (some ⟨b, 0, none⟩) (n + 1) cap] 56 (0, 0)) := by
    rw [Below.heap_setCell _ _ _ _ (by simp; omega), Below.heap_setCell _ _ _ _ (by simp; omega), hbx]
  have h2 : HpR ((wr.setCell ⟨b, 0, none⟩ (.int .i64 (Z x))).setCell ⟨b, 1, none⟩ (.int .i64 x)) b cap Z (topF f n) n := by
    have := (hrow.less (Nat.le_succ n)).put (i := 0) (x := x) (g := topF f n) (fun k hk => by unfold topF; rw [hx])
    simpa using this
  refine ⟨dnOk_top hS.ok, topF_inj hS.inj, fun y => by rw [topF_in hS.inj, ← hS.mem], ?_, h2.keep (Below.heap_setCell _ _ _ _ (by simp; omega)), HpFr.refl _ _ _, ⟨by omega, hcp.2⟩, hlb⟩
  have := heap_setCell_same _ hb 0 _ _ (.slice (some ⟨b, 0, none⟩) n cap) h1
  simpa using this

theorem hpFr_pop {w wr : World} {hb b : Nat} {u v x : Value} (h : HpFr hb (some b) w wr) : HpFr hb (some b) w (((wr.setCell ⟨b, 0, none⟩ u).setCell ⟨b, 1, none⟩ v).setCell ⟨hb, 0, none⟩ x) := by
  have h2 := (h.setCell (b := b) (c := 0) (Or.inl rfl) u).setCell (b := b) (c := 1) (Or.inl rfl) v
  refine ⟨h2.os, h2.tape, h2.output, by simpa [World.setCell] using h2.size, fun k h0 h1 h3 => ?_⟩
  rw [Below.heap_setCell _ _ _ _ (by simpa using h1), h2.block k h0 h1 h3]

theorem HpW.keep {W W' : World} {hb : Nat} {ob : Option Nat} {Z : Nat → Int} {f : Nat → Nat} {n : Nat} (h : HpW W hb ob Z f n) (h1 : W'.heap[hb]? = W.heap[hb]?) (h2 : ∀ b, ob = some b → W'.heap[b]? = W.heap[b]?) : HpW W' hb ob Z f n := by
  obtain ⟨v, a1, a2⟩ := h
  refine ⟨v, h1.trans a1, ?_⟩
  rcases a2 with a2 | ⟨b, cap, e1, e2, e3, e4, e5, e6⟩
  · exact Or.inl a2
  · exact Or.inr ⟨b, cap, e1, e2, e3, e4, e5, e6.keep (h2 b e2)⟩
theorem hpS_eq {Z : Nat → Int} {f : Nat → Nat} {n : Nat} {S T : Nat → Prop} (h : HpS Z f n S) (e : ∀ y, S y ↔ T y) : HpS Z f n T := ⟨h.ok, h.inj, fun y => (e y).symm.trans (h.mem y)⟩

set_option maxHeartbeats 4000000 in
set_option maxRecDepth 100000 in
theorem pop_any (hb : Nat) (ob : Option Nat) (Z : Nat → Int) (f : Nat → Nat) (n : Nat) (S : Nat → Prop) (w : World) (h : HpW w hb ob Z f (n + 1)) (hS : HpS Z f (n + 1) S) (hn : n ≤ 999) :
    Calls Try.prog 64 #[.pointer (some ⟨hb, 0, none⟩)] w (PopPost hb ob Z n S w) := by
  obtain ⟨v, hbx, hrow⟩ := h
  rcases hrow with ⟨_, h, _⟩ | ⟨b, cap, rfl, rfl, hlb, hc, hm, hr⟩
  · omega
  have hlt : hb < w.heap.size := (Array.getElem?_eq_some_iff.1 hbx).1
  have hltb := hr.lt
  have HR := Lib.hid hr
  have HS := Lib.hid hS
  have HBX := Lib.hid hbx
  have HTOP := Lib.hid (show S (f 0) ∧ ∀ y, S y → hiB Z y (f 0) = false from ⟨(hS.mem _).2 ⟨0, by omega, rfl⟩, fun y hy => hpOk_in hS.ok ((hS.mem y).1 hy)⟩)
  obtain ⟨x, ex⟩ : ∃ x, f 0 = x := ⟨_, rfl⟩
  have EX := Lib.hid ex
  obtain ⟨y, ey⟩ : ∃ y, f n = y := ⟨_, rfl⟩
  have EY := Lib.hid ey
  obtain ⟨zx, ezx⟩ : ∃ z, Z x = z := ⟨_, rfl⟩
  have EZX := Lib.hid ezx
  obtain ⟨zy, ezy⟩ : ∃ z, Z y = z := ⟨_, rfl⟩
  have EZY := Lib.hid ezy
  have hm' : cap ≤ 9223372036854775807 := by unfold maxLen at hm; omega
  have HM := Lib.hid hm
  have c1 := one_cell ((Below.heap_alloc w (.cells #[.int .i64 0, .int .i64 0] 60) hb hlt).trans hbx)
  have hra := hr.keep (Below.heap_alloc w (.cells #[.int .i64 0, .int .i64 0] 60) b hltb)
  obtain ⟨a1, a2, a3, a4⟩ := hra.at (k := 0) hc (by omega)
  rw [ex, ezx] at a1
  rw [ex] at a2
  simp only [Nat.zero_mul, Nat.zero_add] at a1 a2
  obtain ⟨b1, b2, b3, b4⟩ := hra.at (k := n) hc (by omega)
  rw [ey, ezy] at b1
  rw [ey] at b2
  clear hr hS hbx ex ey ezx ezy hm hra a3 a4 b3 b4
  have hn0 : (0 : Int) < (n : Int) + 1 := by omega
  have hne0 : ((n : Int) + 1 == 0) = false := by rw [beq_eq_false_iff_ne]; omega
  have hn1 : (n : Int) < (n : Int) + 1 := by omega
  go_enter Try.func64, Try.ntmps64
  go_wp2_with fail
  go_region
  have V1 := (Below.heap_alloc (w.alloc (.cells #[.int .i64 0, .int .i64 0] 60)) (.cells #[.int .i64 zx, .int .i64 x] 60) w.heap.size (by simp)).trans (heap_alloc_new w (.cells #[.int .i64 0, .int .i64 0] 60))
  have V2 := heap_alloc_new (w.alloc (.cells #[.int .i64 0, .int .i64 0] 60)) (.cells #[.int .i64 zx, .int .i64 x] 60)
  rw [World.size_alloc] at V2
  have V3 : Below w.heap.size w ((w.alloc (.cells #[.int .i64 0, .int .i64 0] 60)).alloc (.cells #[.int .i64 zx, .int .i64 x] 60)).drew := below_drewN (((Below.refl w.heap.size w).alloc (Nat.le_refl _) _).alloc (by simp) _) 1
  have V4 : ((w.alloc (.cells #[.int .i64 0, .int .i64 0] 60)).alloc (.cells #[.int .i64 zx, .int .i64 x] 60)).drew.heap.size = w.heap.size + 2 := by show ((w.alloc _).alloc _).heap.size = _; simp
  obtain ⟨V0, hV0⟩ : ∃ V0, ((w.alloc (.cells #[.int .i64 0, .int .i64 0] 60)).alloc (.cells #[.int .i64 zx, .int .i64 x] 60)).drew = V0 := ⟨_, rfl⟩
  have V1' : V0.heap[w.heap.size]? = some (.cells #[.int .i64 0, .int .i64 0] 60 (0, 0)) := by rw [← hV0]; exact V1
  have V2' : V0.heap[w.heap.size + 1]? = some (.cells #[.int .i64 zx, .int .i64 x] 60 (0, 0)) := by rw [← hV0]; exact V2
  rw [hV0] at V3 V4 ⊢
  clear V1 V2 hV0 c1 a1 a2 b1 b2
  have HV1 := Lib.hid V1'
  have HV2 := Lib.hid V2'
  have HV3 := Lib.hid V3
  have HV4 := Lib.hid V4
  have hbx0 := (V3.block hb hlt).trans HBX.out
  have hr0 := HR.out.keep (V3.block b hltb)
  have c1 := one_cell hbx0
  obtain ⟨a1, a2, a3, a4⟩ := hr0.at (k := 0) hc (by omega)
  rw [EX.out, EZX.out] at a1
  rw [EX.out] at a2
  simp only [Nat.zero_mul, Nat.zero_add] at a1 a2 a3 a4
  obtain ⟨b1, b2, b3, b4⟩ := hr0.at (k := n) hc (by omega)
  rw [EY.out, EZY.out] at b1
  rw [EY.out] at b2
  have hd : V0.drew.heap = V0.heap := rfl
  have HDN := Lib.hid (show DnI (((V0.setCell ⟨b, 0, none⟩ (.int .i64 zy)).setCell ⟨b, 1, none⟩ (.int .i64 y)).drew.setCell ⟨hb, 0, none⟩ (.slice (some ⟨b, 0, none⟩) n cap)) (((V0.setCell ⟨b, 0, none⟩ (.int .i64 zy)).setCell ⟨b, 1, none⟩ (.int .i64 y)).drew.setCell ⟨hb, 0, none⟩ (.slice (some ⟨b, 0, none⟩) n cap)) hb b cap Z n 0 (fun y => S y ∧ y ≠ f 0) (topF f n) from pop_mid (w := w) (wr := V0.drew) HS.out (by rw [hd]; exact hbx0) (hr0.keep rfl) hlb ⟨hc, HM.out⟩ EY.out EZY.out)
  have HFR := Lib.hid (show HpFr hb (some b) w (((V0.setCell ⟨b, 0, none⟩ (.int .i64 zy)).setCell ⟨b, 1, none⟩ (.int .i64 y)).drew.setCell ⟨hb, 0, none⟩ (.slice (some ⟨b, 0, none⟩) n cap)) from hpFr_pop (w := w) (wr := V0.drew) (hb := hb) (b := b) (u := .int .i64 zy) (v := .int .i64 y) (x := .slice (some ⟨b, 0, none⟩) n cap) (HpFr.ofBelow (V3.drew) (Nat.le_refl _)))
  have hhb : hb ≠ b := by omega
  have c5 : ((V0.setCell ⟨b, 0, none⟩ (.int .i64 zy)).setCell ⟨b, 1, none⟩ (.int .i64 y)).drew.cell? ⟨hb, 0, none⟩ = some (.slice (some ⟨b, 0, none⟩) (n + 1) cap) := show ((V0.drew.setCell ⟨b, 0, none⟩ (.int .i64 zy)).setCell ⟨b, 1, none⟩ (.int .i64 y)).cell? ⟨hb, 0, none⟩ = _ by
    rw [World.cell?_setCell_other _ _ _ _ (by simp), World.cell?_setCell_other _ _ _ _ (by simp)]; exact c1
  have f5 : ((V0.setCell ⟨b, 0, none⟩ (.int .i64 zy)).setCell ⟨b, 1, none⟩ (.int .i64 y)).drew.frozen? ⟨hb, 0, none⟩ = false := show ((V0.drew.setCell ⟨b, 0, none⟩ (.int .i64 zy)).setCell ⟨b, 1, none⟩ (.int .i64 y)).frozen? ⟨hb, 0, none⟩ = false by
    rw [World.frozen?_setCell, World.frozen?_setCell]; simp [World.frozen?, hd, hbx0]
  have HSZ := Lib.hid (show (((V0.setCell ⟨b, 0, none⟩ (.int .i64 zy)).setCell ⟨b, 1, none⟩ (.int .i64 y)).drew.setCell ⟨hb, 0, none⟩ (.slice (some ⟨b, 0, none⟩) n cap)).heap.size = w.heap.size + 2 from show (((V0.drew.setCell ⟨b, 0, none⟩ (.int .i64 zy)).setCell ⟨b, 1, none⟩ (.int .i64 y)).setCell ⟨hb, 0, none⟩ (.slice (some ⟨b, 0, none⟩) n cap)).heap.size = w.heap.size + 2 by rw [← V4]; simp [World.setCell, hd])
  have HK1 := Lib.hid (show (((V0.setCell ⟨b, 0, none⟩ (.int .i64 zy)).setCell ⟨b, 1, none⟩ (.int .i64 y)).drew.setCell ⟨hb, 0, none⟩ (.slice (some ⟨b, 0, none⟩) n cap)).heap[w.heap.size]? = some (.cells #[.int .i64 0, .int .i64 0] 60 (0, 0)) from show (((V0.drew.setCell ⟨b, 0, none⟩ (.int .i64 zy)).setCell ⟨b, 1, none⟩ (.int .i64 y)).setCell ⟨hb, 0, none⟩ (.slice (some ⟨b, 0, none⟩) n cap)).heap[w.heap.size]? = _ by
    rw [Below.heap_setCell _ _ _ _ (by simp; omega), Below.heap_setCell _ _ _ _ (by simp; omega), Below.heap_setCell _ _ _ _ (by simp; omega)]; exact V1')
  have HK2 := Lib.hid (show (((V0.setCell ⟨b, 0, none⟩ (.int .i64 zy)).setCell ⟨b, 1, none⟩ (.int .i64 y)).drew.setCell ⟨hb, 0, none⟩ (.slice (some ⟨b, 0, none⟩) n cap)).heap[w.heap.size + 1]? = some (.cells #[.int .i64 zx, .int .i64 x] 60 (0, 0)) from show (((V0.drew.setCell ⟨b, 0, none⟩ (.int .i64 zy)).setCell ⟨b, 1, none⟩ (.int .i64 y)).setCell ⟨hb, 0, none⟩ (.slice (some ⟨b, 0, none⟩) n cap)).heap[w.heap.size + 1]? = _ by
    rw [Below.heap_setCell _ _ _ _ (by simp; omega), Below.heap_setCell _ _ _ _ (by simp; omega), Below.heap_setCell _ _ _ _ (by simp; omega)]; exact V2')
  clear V1' V2' V3 V4 hbx0 hr0 hd
  go_wp2_with fail
  go_region
  clear a1 a2 b1 b2 a3 a4 b3 b4 c1
  go_wp2_with fail
  refine (settle_any hb b cap Z (topF f n) n _ _ HDN.out (by omega)).mono ?_
  rintro e w9 ⟨⟨v, rfl⟩, f', hpw, hps, hfr⟩
  have hs9 := hfr.size
  rw [HSZ.out] at hs9
  have g1 := (hfr.block w.heap.size (by rw [HSZ.out]; omega) (by omega) (by simp; omega)).trans HK1.out
  have g2 := (hfr.block (w.heap.size + 1) (by rw [HSZ.out]; omega) (by omega) (by simp; omega)).trans HK2.out
  obtain ⟨d1, d2, d3, d4⟩ := cells2 g1
  obtain ⟨d5, d6, _, _⟩ := cells2 g2
  have HE := Lib.hid (two_set w9 w.heap.size _ _ (.int .i64 zx) (.int .i64 x) g1)
  have G1 := Lib.hid (hpw.keep (W' := (w9.setCell ⟨w.heap.size, 0, none⟩ (.int .i64 zx)).setCell ⟨w.heap.size, 1, none⟩ (.int .i64 x)) (by rw [Below.heap_setCell _ _ _ _ (by simp; omega), Below.heap_setCell _ _ _ _ (by simp; omega)]) (fun b' e => by cases e; rw [Below.heap_setCell _ _ _ _ (by simp; omega), Below.heap_setCell _ _ _ _ (by simp; omega)]))
  have G2 := Lib.hid hps
  have G3 := Lib.hid (((HFR.out.trans hfr (Or.inl rfl)).setCell (b := w.heap.size) (c := 0) (Or.inr ⟨_, rfl, Nat.le_refl _⟩) (.int .i64 zx)).setCell (b := w.heap.size) (c := 1) (Or.inr ⟨_, rfl, Nat.le_refl _⟩) (.int .i64 x))
  clear hpw hps hfr g1 g2 c5 f5
  go_wp2
  refine bodyPost_ret (results_cell_row_tmp rfl _ _ w.heap.size _ #[.int .i64 zx, .int .i64 x] _ _ rfl HE.out Try.underlying60 rfl Try.sizeSpot (.bool true) rfl) rfl ?_
  refine ⟨x, f', by rw [EZX.out], by rw [← EX.out]; exact HTOP.out.1, by rw [← EX.out]; exact HTOP.out.2, G1.out, hpS_eq G2.out (fun y => by rw [EX.out]), G3.out⟩

end Go.Proofs.Ytlbdglhippapnab
