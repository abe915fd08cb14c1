/- The pass between two cells: the model and the program. -/
import Derived.Test.YtlbdglhippapnabKeyI
namespace Go.Proofs.Ytlbdglhippapnab
open Go.RowKit
set_option linter.unusedVariables false

set_option maxHeartbeats 2000000 in
set_option maxRecDepth 100000 in
theorem l4Has_any (v : Value) (lo hi : Nat) (g : G) (i : Int) (w : World) (hv : RdM lo hi w v g) : ∃ b, (b = true ↔ g.PkIn i) ∧ Calls Try.prog 44 #[v, .int .i64 i] w (EqPost b w) := by
  have HV := Lib.hid (specValid_any v lo hi g w hv)
  by_cases h : g.Valid
  · have HB := Lib.hid (G.vB_yes h)
    have h49 := mul_le_49 h.1.2 h.2.1.2
    have h0 : 1 ≤ g.n * g.len 0 := Nat.mul_le_mul h.1.1 h.2.1.1
    have HC := Lib.hid (fun n => l2Cells_any v lo hi g (w.drewN n) (hv.same (fun _ _ _ => rfl)) h)
    obtain ⟨N, eN⟩ : ∃ N, g.n * g.len 0 = N := ⟨_, rfl⟩
    have hP : g.PkIn i ↔ 0 ≤ i ∧ i < (N : Int) := by unfold G.PkIn; rw [eN]; exact ⟨fun x => x.2, fun x => ⟨h, x⟩⟩
    rw [eN] at h49 h0 HC
    have HP := Lib.hid hP
    clear hP eN hv
    by_cases hi : 0 ≤ i ∧ i < (N : Int)
    · refine ⟨true, ⟨fun _ => HP.out.2 hi, fun _ => rfl⟩, ?_⟩
      obtain ⟨hi1, hi2⟩ := hi
      clear h
      go_enter Try.func44, Try.ntmps44
      go_wp2_with fail
      refine HV.out.mono ?_
      rintro e w1 ⟨rfl, n1, rfl⟩
      rw [HB.out]
      go_wp2_with fail
      refine (HC.out n1).mono ?_
      rintro e w1 ⟨rfl, rfl⟩
      go_wp2_with fail
      refine (l6In_yes _ _ _ _ hi1 (by omega)).mono ?_
      rintro e w1 ⟨rfl, rfl⟩
      go_wp2
      go_ret
      exact ⟨rfl, _, rfl⟩
    · refine ⟨false, ⟨fun e => (by cases e), fun e => absurd (HP.out.1 e) hi⟩, ?_⟩
      have hi3 : i < 0 ∨ (N : Int) - 1 < i := by omega
      have HI := Lib.hid hi3
      clear h hi hi3
      go_enter Try.func44, Try.ntmps44
      go_wp2_with fail
      refine HV.out.mono ?_
      rintro e w1 ⟨rfl, n1, rfl⟩
      rw [HB.out]
      go_wp2_with fail
      refine (HC.out n1).mono ?_
      rintro e w1 ⟨rfl, rfl⟩
      go_wp2_with fail
      refine (l6In_no _ _ _ _ HI.out).mono ?_
      rintro e w1 ⟨rfl, rfl⟩
      go_wp2
      go_ret
      exact ⟨rfl, _, rfl⟩
  · have HB := Lib.hid (G.vB_no h)
    refine ⟨false, ⟨fun e => (by cases e), fun e => absurd e.1 h⟩, ?_⟩
    clear h hv
    go_enter Try.func44, Try.ntmps44
    go_wp2_with fail
    refine HV.out.mono ?_
    rintro e w1 ⟨rfl, n1, rfl⟩
    rw [HB.out]
    go_wp2
    go_ret
    exact ⟨rfl, _, rfl⟩

set_option maxHeartbeats 4000000 in
set_option maxRecDepth 100000 in
theorem reliefWith_all (v : Value) (lo hi : Nat) (g : G) (f : Nat → Int) (m : Nat) (hm0 : 0 < m) (hm9 : m ≤ 9) (b : Nat) (w : World) (hv : RdM lo hi w v g) (hh : hi ≤ w.heap.size) (hb : ∀ j, j < m → w.cell? ⟨b, j, none⟩ = some (.int .i64 (f j))) :
    Calls Try.prog 46 #[v, .slice (some ⟨b, 0, none⟩) m m] w (RwPost (∀ j, j < m → g.PkIn (f j)) g w) := by
  have hbl := World.block_lt_of_cell? _ _ (hb 0 hm0)
  have hb0 := (Below.refl w.heap.size w).alloc (Nat.le_refl _) (.cells #[.int .i64 0, .int .i64 0, .slice none 0 0] 38)
  have HB0 := Lib.hid hb0
  have hv1 := hv.same (SameIn.below hb0 hh)
  have hh1 := Nat.le_trans hh hb0.size
  have HCB := Lib.hid (fun j (hj : j < m) => (hb0.cell (p := ⟨b, j, none⟩) hbl).trans (hb j hj))
  by_cases hval : g.Valid
  case neg =>
    have HC := Lib.hid (reliefOf_no v lo hi g (w.alloc (.cells #[.int .i64 0, .int .i64 0, .slice none 0 0] 38)) hv1 hh1 hval)
    have HNP := Lib.hid (show ¬ ∀ j, j < m → g.PkIn (f j) from fun h => hval (h 0 hm0).1)
    clear hv hb0 hval hv1 hh1 hb
    go_enter Try.func46, Try.ntmps46
    go_wp2_with fail
    refine HC.out.mono ?_
    rintro e w1 ⟨rfl, hb1⟩
    have hs1 := hb1.size
    simp only [World.size_alloc] at hs1
    have hR := (hb1.block w.heap.size (by simp)).trans (heap_alloc_new w (.cells #[.int .i64 0, .int .i64 0, .slice none 0 0] 38))
    have hB1 := HB0.out.trans (hb1.mono (by simp))
    have hR2 := (Below.heap_alloc w1 (.cells #[.int .i64 0, .int .i64 0, .slice none 0 0] 38) w.heap.size (by omega)).trans hR
    have HB1 := Lib.hid (hB1.alloc (by omega) (.cells #[.int .i64 0, .int .i64 0, .slice none 0 0] 38))
    obtain ⟨r0, r1, r2, f0, f1, f2⟩ := cells3 hR2
    have HE := Lib.hid (three_set _ w.heap.size _ _ _ (.int .i64 0) (.int .i64 0) (.slice none 0 0) hR2)
    have HBB := Lib.hid (below3 HB1.out (Nat.le_refl w.heap.size) (.int .i64 0) (.int .i64 0) (.slice none 0 0))
    clear hb1 hR hB1 hR2
    go_wp2
    exact bodyPost_ret (results_cell_row_tmp rfl _ _ w.heap.size _ #[.int .i64 0, .int .i64 0, .slice none 0 0] _ _ rfl HE.out Try.underlying38 rfl Try.sizeRel (.bool false) rfl) rfl (RwPost.no HNP.out ⟨rfl, HBB.out⟩)
  case pos =>
    have HC := Lib.hid (reliefOf_yes v lo hi g (w.alloc (.cells #[.int .i64 0, .int .i64 0, .slice none 0 0] 38)) hv1 hh1 hval)
    have h49 := mul_le_49 hval.1.2 hval.2.1.2
    have HPI := Lib.hid (fun (i : Int) => show (0 ≤ i ∧ i < (g.n * g.len 0 : Nat)) ↔ g.PkIn i from ⟨fun h => ⟨hval, h⟩, fun h => h.2⟩)
    clear hv hb0 hval hv1 hh1 hb
    go_enter Try.func46, Try.ntmps46
    go_wp2_with fail
    refine HC.out.mono ?_
    intro e w1 hq
    obtain ⟨n, gg, cap, xs, hnn, rfl, hown, hvals, hb1⟩ := hq
    have hrv := Rv.of_own hown hnn hvals
    have hgs := (hown.lt gg rfl).1
    simp only [World.size_alloc] at hgs
    have HNN := Lib.hid hnn
    have hn49 : n ≤ 49 := by omega
    have hs1 := hb1.size
    simp only [World.size_alloc] at hs1
    have hR := (hb1.block w.heap.size (by simp)).trans (heap_alloc_new w (.cells #[.int .i64 0, .int .i64 0, .slice none 0 0] 38))
    have hB1 := HB0.out.trans (hb1.mono (by simp))
    have HLOC := Lib.hid (heap_alloc_new w1 (.cells #[.int .i64 g.n, .int .i64 (g.len 0), .slice (some ⟨gg, 0, none⟩) n cap] 38))
    have HR := Lib.hid ((Below.heap_alloc w1 (.cells #[.int .i64 g.n, .int .i64 (g.len 0), .slice (some ⟨gg, 0, none⟩) n cap] 38) w.heap.size (by omega)).trans hR)
    have HRV := Lib.hid (hrv.keep ((Below.refl w1.heap.size w1).alloc (Nat.le_refl _) (.cells #[.int .i64 g.n, .int .i64 (g.len 0), .slice (some ⟨gg, 0, none⟩) n cap] 38)) (Nat.le_refl _))
    have HB1 := Lib.hid (hB1.alloc (by omega) (.cells #[.int .i64 g.n, .int .i64 (g.len 0), .slice (some ⟨gg, 0, none⟩) n cap] 38))
    have HCB1 := Lib.hid (fun j (hj : j < m) => (Below.cell ((Below.refl w1.heap.size w1).alloc (Nat.le_refl _) (.cells #[.int .i64 g.n, .int .i64 (g.len 0), .slice (some ⟨gg, 0, none⟩) n cap] 38)) (p := ⟨b, j, none⟩) (show b < w1.heap.size by omega)).trans ((hb1.cell (p := ⟨b, j, none⟩) (show b < (w.alloc (.cells #[.int .i64 0, .int .i64 0, .slice none 0 0] 38)).heap.size by simp; omega)).trans (HCB.out j hj)))
    have hs2 : w1.heap.size + 1 ≤ (w1.alloc (.cells #[.int .i64 g.n, .int .i64 (g.len 0), .slice (some ⟨gg, 0, none⟩) n cap] 38)).heap.size := by simp
    clear hown hvals hrv hb1 hR hB1 hnn
    go_wp2
    generalize hW1 : w1.alloc (.cells #[.int .i64 g.n, .int .i64 (g.len 0), .slice (some ⟨gg, 0, none⟩) n cap] 38) = W1 at HLOC HR HRV HB1 HCB1 hs2 ⊢
    clear hW1
    go_loopw [9, 20] (fun _ x20 wr => ∃ k : Nat, k ≤ m ∧ x20 = .int .i64 k ∧ (∀ j, j < k → g.PkIn (f j)) ∧ Below W1.heap.size W1 wr) (fun _ x20 _ => m - (intOf x20).toNat)
    case atStart => exact ⟨0, by omega, rfl, fun j h => (by omega), Below.refl _ _⟩
    case round =>
      obtain ⟨k, hk, rfl, hpk, hbk⟩ := hrel
      have HBK := Lib.hid hbk
      have hsk := hbk.size
      have HR2 := Lib.hid ((hbk.block w.heap.size (by omega)).trans HR.out)
      have HL2 := Lib.hid ((hbk.block w1.heap.size (by omega)).trans HLOC.out)
      have HPK := Lib.hid hpk
      clear hbk hpk
      obtain ⟨d0, d1, d2, _, _, _⟩ := cells3 HL2.out
      by_cases hk0 : k < m
      case pos =>
        have hkm : (k : Int) < m := by omega
        have cb := (HBK.out.cell (p := ⟨b, k, none⟩) (show b < W1.heap.size by omega)).trans (HCB1.out k hk0)
        have HPK2 := Lib.hid (fun (hp : g.PkIn (f k)) (j : Nat) (hj : j < k + 1) => show g.PkIn (f j) from by
          by_cases e : j = k
          · rw [e]; exact hp
          · exact HPK.out j (by omega))
        have HNO := Lib.hid (fun (hp : ¬ g.PkIn (f k)) => show ¬ ∀ j, j < m → g.PkIn (f j) from fun h => hp (h k hk0))
        obtain ⟨i, ei⟩ : ∃ i, f k = i := ⟨_, rfl⟩
        rw [ei] at cb HPK2 HNO
        clear ei hk0
        by_cases hin : 0 ≤ i ∧ i < (n : Int)
        case pos =>
          have HIN := Lib.hid (hasIndex_any g.n (g.len 0) gg cap n i wr (by omega))
          have HP := Lib.hid (HPK2.out ((HPI.out i).1 (by rw [← HNN.out]; exact hin)))
          rw [decide_eq_true hin] at HIN
          clear hin
          go_wp2_with fail
          refine HIN.out.mono ?_
          rintro e w3 ⟨rfl, hb3⟩
          have HB3 := Lib.hid (HBK.out.trans (hb3.mono hsk))
          clear hb3
          go_wp2
          go_roundw
          case rel => exact ⟨k + 1, by omega, by go_num, HP.out, HB3.out⟩
          case measure => simp [intOf]; omega
        case neg =>
          have HIN := Lib.hid (hasIndex_any g.n (g.len 0) gg cap n i wr (by omega))
          have HP := Lib.hid (HNO.out (fun h => hin (by rw [HNN.out]; exact (HPI.out i).2 h)))
          rw [decide_eq_false hin] at HIN
          clear hin
          go_wp2_with fail
          refine HIN.out.mono ?_
          rintro e w3 ⟨rfl, hb3⟩
          have hs3 := hb3.size
          have hR3 := (hb3.block w.heap.size (by omega)).trans HR2.out
          obtain ⟨r0, r1, r2, f0, f1, f2⟩ := cells3 hR3
          have HE := Lib.hid (three_set _ w.heap.size _ _ _ (.int .i64 0) (.int .i64 0) (.slice none 0 0) hR3)
          have HBB := Lib.hid (below3 (HB1.out.trans ((HBK.out.trans (hb3.mono hsk)).mono (by omega))) (Nat.le_refl w.heap.size) (.int .i64 0) (.int .i64 0) (.slice none 0 0))
          clear hb3 hR3
          go_wp2
          exact bodyPost_ret (results_cell_row_tmp rfl _ _ w.heap.size _ #[.int .i64 0, .int .i64 0, .slice none 0 0] _ _ rfl HE.out Try.underlying38 rfl Try.sizeRel (.bool false) rfl) rfl (RwPost.no HP.out ⟨rfl, HBB.out⟩)
      case neg =>
        obtain rfl : k = m := by omega
        have hge : ¬ (k : Int) < k := by omega
        have HP := Lib.hid HPK.out
        obtain ⟨r0, r1, r2, f0, f1, f2⟩ := cells3 HR2.out
        have HE := Lib.hid (three_set _ w.heap.size _ _ _ (.int .i64 g.n) (.int .i64 (g.len 0)) (.slice (some ⟨gg, 0, none⟩) n cap) HR2.out)
        have HBB := Lib.hid (below3 (HB1.out.trans (HBK.out.mono (by omega))) (Nat.le_refl w.heap.size) (.int .i64 g.n) (.int .i64 (g.len 0)) (.slice (some ⟨gg, 0, none⟩) n cap))
        have HRV2 := Lib.hid (rv_set3 (HRV.out.keep HBK.out (Nat.le_refl _)) (show gg ≠ w.heap.size by omega) (.int .i64 g.n) (.int .i64 (g.len 0)) (.slice (some ⟨gg, 0, none⟩) n cap))
        clear hk0
        go_wp2
        exact bodyPost_ret (results_cell_row_tmp rfl _ _ w.heap.size _ #[.int .i64 g.n, .int .i64 (g.len 0), .slice (some ⟨gg, 0, none⟩) n cap] _ _ rfl HE.out Try.underlying38 rfl Try.sizeRel (.bool true) rfl) rfl (RwPost.yes HP.out ⟨n, gg, cap, rfl, HRV2.out, by omega, HBB.out⟩)

open Classical in
noncomputable def G.psB (g : G) (a b : Int) : Int := if h : g.PkIn a ∧ g.PkIn b then psV g.n (g.len 0) g.flat ⟨a.toNat, by have := h.1.2; omega⟩ b.toNat else -1
theorem G.psB_no {g : G} {a b : Int} (h : ¬ (g.PkIn a ∧ g.PkIn b)) : g.psB a b = -1 := by unfold G.psB; rw [dif_neg h]
theorem G.psB_yes {g : G} {a b : Ix (g.n * g.len 0)} (h : g.Valid) : g.psB (a.1 : Int) (b.1 : Int) = psV g.n (g.len 0) g.flat a b.1 := by
  have h1 : g.PkIn (a.1 : Int) ∧ g.PkIn (b.1 : Int) := ⟨⟨h, by omega, by have := a.2; omega⟩, ⟨h, by omega, by have := b.2; omega⟩⟩
  unfold G.psB
  rw [dif_pos h1]
  rfl

end Go.Proofs.Ytlbdglhippapnab
