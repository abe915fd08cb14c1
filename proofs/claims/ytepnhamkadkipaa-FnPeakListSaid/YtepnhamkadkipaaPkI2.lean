/- Reliefs with cells, and of peaks, in the program; PeakIs. -/
import Derived.Test.YtepnhamkadkipaaPkI
namespace Go.Proofs.Ytepnhamkadkipaa
open Go.RowKit
set_option linter.unusedVariables false

/-- what a relief with cells leaves -/
def RwPost (p : Prop) (g : G) (w : World) (e : Ending) (w' : World) : Prop :=
  (p → ∃ n gg cap, e = .returned (.tuple #[.agg #[.int .i64 g.n, .int .i64 (g.len 0), .slice (some ⟨gg, 0, none⟩) n cap], .bool true]) ∧ Rv w' g.n (g.len 0) n gg cap g.flat ∧ w.heap.size ≤ gg ∧ Below w.heap.size w w') ∧ (¬ p → RelNo w e w')

theorem RwPost.yes {p : Prop} {g : G} {w w' : World} {e : Ending} (hp : p) (h : ∃ n gg cap, e = .returned (.tuple #[.agg #[.int .i64 g.n, .int .i64 (g.len 0), .slice (some ⟨gg, 0, none⟩) n cap], .bool true]) ∧ Rv w' g.n (g.len 0) n gg cap g.flat ∧ w.heap.size ≤ gg ∧ Below w.heap.size w w') : RwPost p g w e w' := ⟨fun _ => h, fun k => absurd hp k⟩
theorem RwPost.no {p : Prop} {g : G} {w w' : World} {e : Ending} (hp : ¬ p) (h : RelNo w e w') : RwPost p g w e w' := ⟨fun k => absurd k hp, fun _ => h⟩

theorem rv_set3 {w : World} {R C n gg cap : Nat} {Z : Nat → Int} (h : Rv w R C n gg cap Z) {b : Nat} (hb : gg ≠ b) (x y z : Value) : Rv (((w.setCell ⟨b, 0, none⟩ x).setCell ⟨b, 1, none⟩ y).setCell ⟨b, 2, none⟩ z) R C n gg cap Z :=
  ⟨h.n_eq, by simpa [World.setCell] using h.lt, h.le, fun i hi => (cell3_far _ _ _ _ _ _ hb).trans (h.cell i hi)⟩

set_option maxHeartbeats 4000000 in
set_option maxRecDepth 100000 in
theorem reliefWith_one (v : Value) (lo hi : Nat) (g : G) (i : Int) (b : Nat) (w : World) (hv : RdM lo hi w v g) (hh : hi ≤ w.heap.size) (hb : w.cell? ⟨b, 0, none⟩ = some (.int .i64 i)) :
    Calls Try.prog 38 #[v, .slice (some ⟨b, 0, none⟩) 1 1] w (RwPost (g.PkIn i) g w) := by
  have hbl := World.block_lt_of_cell? _ _ hb
  have hb0 := (Below.refl w.heap.size w).alloc (Nat.le_refl _) (.cells #[.int .i64 0, .int .i64 0, .slice none 0 0] 49)
  have HB0 := Lib.hid hb0
  have hv1 := hv.same (SameIn.below hb0 hh)
  have hh1 := Nat.le_trans hh hb0.size
  have HCB := Lib.hid ((hb0.cell (p := ⟨b, 0, none⟩) hbl).trans hb)
  by_cases hval : g.Valid
  case neg =>
    have HC := Lib.hid (reliefOf_no v lo hi g (w.alloc (.cells #[.int .i64 0, .int .i64 0, .slice none 0 0] 49)) hv1 hh1 hval)
    have HNP := Lib.hid (show ¬ g.PkIn i from fun h => hval h.1)
    clear hv hb0 hval hv1 hh1 hb
    go_enter Try.func38, Try.ntmps38
    go_wp2_with fail
    refine HC.out.mono ?_
    rintro e w1 ⟨rfl, hb1⟩
    have hs1 := hb1.size
    simp only [World.size_alloc] at hs1
    have hR := (hb1.block w.heap.size (by simp)).trans (heap_alloc_new w (.cells #[.int .i64 0, .int .i64 0, .slice none 0 0] 49))
    have hB1 := HB0.out.trans (hb1.mono (by simp))
    have hR2 := (Below.heap_alloc w1 (.cells #[.int .i64 0, .int .i64 0, .slice none 0 0] 49) w.heap.size (by omega)).trans hR
    have HB1 := Lib.hid (hB1.alloc (by omega) (.cells #[.int .i64 0, .int .i64 0, .slice none 0 0] 49))
    obtain ⟨r0, r1, r2, f0, f1, f2⟩ := cells3 hR2
    have HE := Lib.hid (three_set _ w.heap.size _ _ _ (.int .i64 0) (.int .i64 0) (.slice none 0 0) hR2)
    have HBB := Lib.hid (below3 HB1.out (Nat.le_refl w.heap.size) (.int .i64 0) (.int .i64 0) (.slice none 0 0))
    clear hb1 hR hB1 hR2
    go_wp2
    exact bodyPost_ret (results_cell_row_tmp rfl _ _ w.heap.size _ #[.int .i64 0, .int .i64 0, .slice none 0 0] _ _ rfl HE.out Try.underlying49 rfl Try.sizeRel (.bool false) rfl) rfl (RwPost.no HNP.out ⟨rfl, HBB.out⟩)
  case pos =>
    have HC := Lib.hid (reliefOf_yes v lo hi g (w.alloc (.cells #[.int .i64 0, .int .i64 0, .slice none 0 0] 49)) hv1 hh1 hval)
    have h49 := mul_le_49 hval.1.2 hval.2.1.2
    have HPI := Lib.hid (show (0 ≤ i ∧ i < (g.n * g.len 0 : Nat)) ↔ g.PkIn i from ⟨fun h => ⟨hval, h⟩, fun h => h.2⟩)
    clear hv hb0 hval hv1 hh1 hb
    go_enter Try.func38, Try.ntmps38
    go_wp2_with fail
    refine HC.out.mono ?_
    intro e w1 hq
    obtain ⟨n, gg, cap, xs, hnn, rfl, hown, hvals, hb1⟩ := hq
    have hrv := Rv.of_own hown hnn hvals
    have hgs := (hown.lt gg rfl).1
    simp only [World.size_alloc] at hgs
    have HNN := Lib.hid hnn
    have hn49 : n ≤ 49 := by omega
    have hs1 := hb1.size
    simp only [World.size_alloc] at hs1
    have hR := (hb1.block w.heap.size (by simp)).trans (heap_alloc_new w (.cells #[.int .i64 0, .int .i64 0, .slice none 0 0] 49))
    have hB1 := HB0.out.trans (hb1.mono (by simp))
    have HLOC := Lib.hid (heap_alloc_new w1 (.cells #[.int .i64 g.n, .int .i64 (g.len 0), .slice (some ⟨gg, 0, none⟩) n cap] 49))
    have HR := Lib.hid ((Below.heap_alloc w1 (.cells #[.int .i64 g.n, .int .i64 (g.len 0), .slice (some ⟨gg, 0, none⟩) n cap] 49) w.heap.size (by omega)).trans hR)
    have HRV := Lib.hid (hrv.keep ((Below.refl w1.heap.size w1).alloc (Nat.le_refl _) (.cells #[.int .i64 g.n, .int .i64 (g.len 0), .slice (some ⟨gg, 0, none⟩) n cap] 49)) (Nat.le_refl _))
    have HB1 := Lib.hid (hB1.alloc (by omega) (.cells #[.int .i64 g.n, .int .i64 (g.len 0), .slice (some ⟨gg, 0, none⟩) n cap] 49))
    have HCB1 := Lib.hid ((Below.cell ((Below.refl w1.heap.size w1).alloc (Nat.le_refl _) (.cells #[.int .i64 g.n, .int .i64 (g.len 0), .slice (some ⟨gg, 0, none⟩) n cap] 49)) (p := ⟨b, 0, none⟩) (show b < w1.heap.size by omega)).trans ((hb1.cell (p := ⟨b, 0, none⟩) (show b < (w.alloc (.cells #[.int .i64 0, .int .i64 0, .slice none 0 0] 49)).heap.size by simp; omega)).trans HCB.out))
    have hs2 : w1.heap.size + 1 ≤ (w1.alloc (.cells #[.int .i64 g.n, .int .i64 (g.len 0), .slice (some ⟨gg, 0, none⟩) n cap] 49)).heap.size := by simp
    clear hown hvals hrv hb1 hR hB1 hnn
    go_wp2
    generalize hW1 : w1.alloc (.cells #[.int .i64 g.n, .int .i64 (g.len 0), .slice (some ⟨gg, 0, none⟩) n cap] 49) = W1 at HLOC HR HRV HB1 HCB1 hs2 ⊢
    clear hW1
    go_loopw [9, 20] (fun _ x20 wr => ∃ k : Nat, k ≤ 1 ∧ x20 = .int .i64 k ∧ (k = 1 → g.PkIn i) ∧ Below W1.heap.size W1 wr) (fun _ x20 _ => 1 - (intOf x20).toNat)
    case atStart => exact ⟨0, by omega, rfl, fun h => (by omega), Below.refl _ _⟩
    case round =>
      obtain ⟨k, hk, rfl, hpk, hbk⟩ := hrel
      have HBK := Lib.hid hbk
      have hsk := hbk.size
      have HR2 := Lib.hid ((hbk.block w.heap.size (by omega)).trans HR.out)
      have HL2 := Lib.hid ((hbk.block w1.heap.size (by omega)).trans HLOC.out)
      have HPK := Lib.hid hpk
      clear hbk hpk
      obtain ⟨d0, d1, d2, _, _, _⟩ := cells3 HL2.out
      by_cases hk0 : k = 0
      case pos =>
        subst hk0
        have cb := (HBK.out.cell (p := ⟨b, 0, none⟩) (show b < W1.heap.size by omega)).trans HCB1.out
        by_cases hin : 0 ≤ i ∧ i < (n : Int)
        case pos =>
          have HIN := Lib.hid (hasIndex_any g.n (g.len 0) gg cap n i wr (by omega))
          have HP := Lib.hid (HPI.out.1 (by rw [← HNN.out]; exact hin))
          rw [decide_eq_true hin] at HIN
          clear hin
          go_wp2_with fail
          refine HIN.out.mono ?_
          rintro e w3 ⟨rfl, hb3⟩
          have HB3 := Lib.hid (HBK.out.trans (hb3.mono hsk))
          clear hb3
          go_wp2
          go_roundw
          case rel => exact ⟨1, Nat.le_refl _, by go_num, fun _ => HP.out, HB3.out⟩
          case measure => simp [intOf]
        case neg =>
          have HIN := Lib.hid (hasIndex_any g.n (g.len 0) gg cap n i wr (by omega))
          have HP := Lib.hid (show ¬ g.PkIn i from fun h => hin (by rw [HNN.out]; exact HPI.out.2 h))
          rw [decide_eq_false hin] at HIN
          clear hin
          go_wp2_with fail
          refine HIN.out.mono ?_
          rintro e w3 ⟨rfl, hb3⟩
          have hs3 := hb3.size
          have hR3 := (hb3.block w.heap.size (by omega)).trans HR2.out
          obtain ⟨r0, r1, r2, f0, f1, f2⟩ := cells3 hR3
          have HE := Lib.hid (three_set _ w.heap.size _ _ _ (.int .i64 0) (.int .i64 0) (.slice none 0 0) hR3)
          have HBB := Lib.hid (below3 (HB1.out.trans ((HBK.out.trans (hb3.mono hsk)).mono (by omega))) (Nat.le_refl w.heap.size) (.int .i64 0) (.int .i64 0) (.slice none 0 0))
          clear hb3 hR3
          go_wp2
          exact bodyPost_ret (results_cell_row_tmp rfl _ _ w.heap.size _ #[.int .i64 0, .int .i64 0, .slice none 0 0] _ _ rfl HE.out Try.underlying49 rfl Try.sizeRel (.bool false) rfl) rfl (RwPost.no HP.out ⟨rfl, HBB.out⟩)
      case neg =>
        obtain rfl : k = 1 := by omega
        have HP := Lib.hid (HPK.out rfl)
        obtain ⟨r0, r1, r2, f0, f1, f2⟩ := cells3 HR2.out
        have HE := Lib.hid (three_set _ w.heap.size _ _ _ (.int .i64 g.n) (.int .i64 (g.len 0)) (.slice (some ⟨gg, 0, none⟩) n cap) HR2.out)
        have HBB := Lib.hid (below3 (HB1.out.trans (HBK.out.mono (by omega))) (Nat.le_refl w.heap.size) (.int .i64 g.n) (.int .i64 (g.len 0)) (.slice (some ⟨gg, 0, none⟩) n cap))
        have HRV2 := Lib.hid (rv_set3 (HRV.out.keep HBK.out (Nat.le_refl _)) (show gg ≠ w.heap.size by omega) (.int .i64 g.n) (.int .i64 (g.len 0)) (.slice (some ⟨gg, 0, none⟩) n cap))
        clear hk0
        go_wp2
        exact bodyPost_ret (results_cell_row_tmp rfl _ _ w.heap.size _ #[.int .i64 g.n, .int .i64 (g.len 0), .slice (some ⟨gg, 0, none⟩) n cap] _ _ rfl HE.out Try.underlying49 rfl Try.sizeRel (.bool true) rfl) rfl (RwPost.yes HP.out ⟨n, gg, cap, rfl, HRV2.out, by omega, HBB.out⟩)

theorem pkB_in {g : G} {i : Int} (h : g.pkB i = true) : g.PkIn i := by
  apply Classical.byContradiction
  intro k
  rw [G.pkB_no k] at h
  cases h

set_option maxHeartbeats 4000000 in
set_option maxRecDepth 100000 in
theorem reliefOfPeak_any (v : Value) (lo hi : Nat) (g : G) (i : Int) (w : World) (hv : RdM lo hi w v g) (hh : hi ≤ w.heap.size) :
    Calls Try.prog 47 #[v, .int .i64 i] w (RwPost (g.pkB i = true) g w) := by
  have hb0 := ((Below.refl w.heap.size w).alloc (Nat.le_refl _) (.cells #[.int .i64 0, .int .i64 0, .slice none 0 0] 49)).alloc (by simp) (.cells #[.int .i64 i] 3)
  have HB0 := Lib.hid hb0
  have h1 := heap_alloc_new (w.alloc (.cells #[.int .i64 0, .int .i64 0, .slice none 0 0] 49)) (.cells #[.int .i64 i] 3)
  rw [World.size_alloc] at h1
  have HC := Lib.hid (reliefWith_one v lo hi g i (w.heap.size + 1) ((w.alloc (.cells #[.int .i64 0, .int .i64 0, .slice none 0 0] 49)).alloc (.cells #[.int .i64 i] 3)) (hv.same (SameIn.below hb0 hh)) (Nat.le_trans hh hb0.size) (one_cell h1))
  have HZ := Lib.hid ((Below.heap_alloc (w.alloc (.cells #[.int .i64 0, .int .i64 0, .slice none 0 0] 49)) (.cells #[.int .i64 i] 3) w.heap.size (by simp)).trans (heap_alloc_new w (.cells #[.int .i64 0, .int .i64 0, .slice none 0 0] 49)))
  have HSZ := Lib.hid (show ((w.alloc (.cells #[.int .i64 0, .int .i64 0, .slice none 0 0] 49)).alloc (.cells #[.int .i64 i] 3)).heap.size = w.heap.size + 2 by simp)
  clear hv hb0 h1
  by_cases hin : g.PkIn i
  case neg =>
    have HNP := Lib.hid (show ¬ g.pkB i = true from fun h => hin (pkB_in h))
    have HC2 := Lib.hid (HC.out.mono (fun e w' h => h.2 hin))
    clear hin HC
    go_enter Try.func47, Try.ntmps47
    go_wp2_with fail
    refine HC2.out.mono ?_
    rintro e w1 ⟨rfl, hb1⟩
    have hs1 := hb1.size
    rw [HSZ.out] at hs1
    have hR := (hb1.block w.heap.size (by rw [HSZ.out]; omega)).trans HZ.out
    have hB1 := HB0.out.trans (hb1.mono (by rw [HSZ.out]; omega))
    have hR2 := (Below.heap_alloc w1 (.cells #[.int .i64 0, .int .i64 0, .slice none 0 0] 49) w.heap.size (by omega)).trans hR
    have HB1 := Lib.hid (hB1.alloc (by omega) (.cells #[.int .i64 0, .int .i64 0, .slice none 0 0] 49))
    obtain ⟨r0, r1, r2, f0, f1, f2⟩ := cells3 hR2
    have HE := Lib.hid (three_set _ w.heap.size _ _ _ (.int .i64 0) (.int .i64 0) (.slice none 0 0) hR2)
    have HBB := Lib.hid (below3 HB1.out (Nat.le_refl w.heap.size) (.int .i64 0) (.int .i64 0) (.slice none 0 0))
    clear hb1 hR hB1 hR2
    go_wp2
    exact bodyPost_ret (results_cell_row_tmp rfl _ _ w.heap.size _ #[.int .i64 0, .int .i64 0, .slice none 0 0] _ _ rfl HE.out Try.underlying49 rfl Try.sizeRel (.bool false) rfl) rfl (RwPost.no HNP.out ⟨rfl, HBB.out⟩)
  case pos =>
    have HC2 := Lib.hid (HC.out.mono (fun e w' h => h.1 hin))
    have h7 := hin.1.1.2
    have h77 := hin.1.2.1.2
    obtain ⟨x, hx⟩ : ∃ x : Ix (g.n * g.len 0), (x.1 : Int) = i := ⟨⟨i.toNat, by have := hin.2; omega⟩, by have := hin.2; show ((i.toNat : Nat) : Int) = i; omega⟩
    have HPK := Lib.hid (G.pkB_yes (i := x) hin.1)
    rw [hx] at HPK
    have HX := Lib.hid hx
    clear hin HC hx
    obtain ⟨q, eq⟩ : ∃ q, pkQ g.n (g.len 0) g.flat x = q := ⟨_, rfl⟩
    have EQ := Lib.hid eq
    rw [eq] at HPK
    clear eq
    go_enter Try.func47, Try.ntmps47
    go_wp2_with fail
    refine HC2.out.mono ?_
    rintro e w1 ⟨n, gg, cap, rfl, hrv, hge, hb1⟩
    have hs1 := hb1.size
    rw [HSZ.out] at hs1
    have hR := (hb1.block w.heap.size (by rw [HSZ.out]; omega)).trans HZ.out
    have hB1 := HB0.out.trans (hb1.mono (by rw [HSZ.out]; omega))
    have hgl := hrv.lt
    have HLOC := Lib.hid (heap_alloc_new w1 (.cells #[.int .i64 g.n, .int .i64 (g.len 0), .slice (some ⟨gg, 0, none⟩) n cap] 49))
    have HR := Lib.hid ((Below.heap_alloc w1 (.cells #[.int .i64 g.n, .int .i64 (g.len 0), .slice (some ⟨gg, 0, none⟩) n cap] 49) w.heap.size (by omega)).trans hR)
    have HRV := Lib.hid (hrv.keep ((Below.refl w1.heap.size w1).alloc (Nat.le_refl _) (.cells #[.int .i64 g.n, .int .i64 (g.len 0), .slice (some ⟨gg, 0, none⟩) n cap] 49)) (Nat.le_refl _))
    have HB1 := Lib.hid (hB1.alloc (by omega) (.cells #[.int .i64 g.n, .int .i64 (g.len 0), .slice (some ⟨gg, 0, none⟩) n cap] 49))
    have hs2 : w1.heap.size + 1 ≤ (w1.alloc (.cells #[.int .i64 g.n, .int .i64 (g.len 0), .slice (some ⟨gg, 0, none⟩) n cap] 49)).heap.size := by simp
    have HIP := Lib.hid (isPeak_any g.n (g.len 0) gg cap n h7 h77 g.flat x (w1.alloc (.cells #[.int .i64 g.n, .int .i64 (g.len 0), .slice (some ⟨gg, 0, none⟩) n cap] 49)) HRV.out)
    rw [EQ.out, HX.out] at HIP
    rw [HSZ.out] at hge
    have hgz : gg ≠ w.heap.size := by omega
    clear hrv hb1 hR hB1
    obtain ⟨d0, d1, d2, _, _, _⟩ := cells3 HLOC.out
    cases q
    case false =>
      go_wp2_with fail
      refine HIP.out.mono ?_
      rintro e w2 ⟨rfl, hb2⟩
      have hR2 := (hb2.block w.heap.size (by omega)).trans HR.out
      obtain ⟨r0, r1, r2, f0, f1, f2⟩ := cells3 hR2
      have HE := Lib.hid (three_set _ w.heap.size _ _ _ (.int .i64 0) (.int .i64 0) (.slice none 0 0) hR2)
      have HBB := Lib.hid (below3 (HB1.out.trans (hb2.mono (by omega))) (Nat.le_refl w.heap.size) (.int .i64 0) (.int .i64 0) (.slice none 0 0))
      clear hb2 hR2 d0 d1 d2
      go_wp2
      exact bodyPost_ret (results_cell_row_tmp rfl _ _ w.heap.size _ #[.int .i64 0, .int .i64 0, .slice none 0 0] _ _ rfl HE.out Try.underlying49 rfl Try.sizeRel (.bool false) rfl) rfl (RwPost.no (by rw [HPK.out]; simp) ⟨rfl, HBB.out⟩)
    case true =>
      go_wp2_with fail
      refine HIP.out.mono ?_
      rintro e w2 ⟨rfl, hb2⟩
      have hR2 := (hb2.block w.heap.size (by omega)).trans HR.out
      obtain ⟨k0, k1, k2, _, _, _⟩ := cells3 ((hb2.block w1.heap.size (by omega)).trans HLOC.out)
      obtain ⟨r0, r1, r2, f0, f1, f2⟩ := cells3 hR2
      have HE := Lib.hid (three_set _ w.heap.size _ _ _ (.int .i64 g.n) (.int .i64 (g.len 0)) (.slice (some ⟨gg, 0, none⟩) n cap) hR2)
      have HBB := Lib.hid (below3 (HB1.out.trans (hb2.mono (by omega))) (Nat.le_refl w.heap.size) (.int .i64 g.n) (.int .i64 (g.len 0)) (.slice (some ⟨gg, 0, none⟩) n cap))
      have HRV2 := Lib.hid (rv_set3 (HRV.out.keep hb2 (Nat.le_refl _)) hgz (.int .i64 g.n) (.int .i64 (g.len 0)) (.slice (some ⟨gg, 0, none⟩) n cap))
      clear hb2 hR2 d0 d1 d2
      go_wp2
      exact bodyPost_ret (results_cell_row_tmp rfl _ _ w.heap.size _ #[.int .i64 g.n, .int .i64 (g.len 0), .slice (some ⟨gg, 0, none⟩) n cap] _ _ rfl HE.out Try.underlying49 rfl Try.sizeRel (.bool true) rfl) rfl (RwPost.yes HPK.out ⟨n, gg, cap, rfl, HRV2.out, by omega, HBB.out⟩)

set_option maxHeartbeats 1000000 in
set_option maxRecDepth 100000 in
theorem implPeakIs_any (v : Value) (lo hi : Nat) (g : G) (i : Int) (w : World) (hv : RdM lo hi w v g) (hh : hi ≤ w.heap.size) :
    Calls Try.prog 24 #[v, .int .i64 i] w (BlPost (g.pkB i) w) := by
  have HC := Lib.hid (reliefOfPeak_any v lo hi g i w hv hh)
  clear hv
  by_cases h : g.pkB i = true
  · have HC2 := Lib.hid (HC.out.mono (fun e w' k => k.1 h))
    have HH := Lib.hid h
    clear HC h
    go_enter Try.func24, Try.ntmps24
    go_wp2_with fail
    refine HC2.out.mono ?_
    rintro e w1 ⟨n, gg, cap, rfl, _, _, hb1⟩
    have HB1 := Lib.hid (hb1.alloc hb1.size (.cells #[.int .i64 g.n, .int .i64 (g.len 0), .slice (some ⟨gg, 0, none⟩) n cap] 49))
    clear hb1
    go_wp2
    go_ret
    exact ⟨by rw [HH.out]; rfl, HB1.out⟩
  · have HC2 := Lib.hid (HC.out.mono (fun e w' k => k.2 h))
    have HH := Lib.hid (show g.pkB i = false by simpa using h)
    clear HC h
    go_enter Try.func24, Try.ntmps24
    go_wp2_with fail
    refine HC2.out.mono ?_
    rintro e w1 ⟨rfl, hb1⟩
    have HB1 := Lib.hid (hb1.alloc hb1.size (.cells #[.int .i64 0, .int .i64 0, .slice none 0 0] 49))
    clear hb1
    go_wp2
    go_ret
    exact ⟨by rw [HH.out]; rfl, HB1.out⟩

end Go.Proofs.Ytepnhamkadkipaa
