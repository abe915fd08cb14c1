/- The length of a run, in the program. -/
import Derived.Test.YtekekbepobafdabWRun
namespace Go.Proofs.Ytekekbepobafdab
open Go.RowKit Go.Shelf
set_option linter.unusedVariables false
attribute [local go_sem] Oper.semAt_some

theorem run_stops (n : Nat) (hn : 1 ≤ n) (Bi Bm R C gg cap cnt : Nat) (hR : R ≤ 7) (hC : C ≤ 7) (Z : Nat → Int) (hZ : ∀ x, x < R * C → 0 ≤ Z x ∧ Z x ≤ 99) (i : Ix (R * C)) (w : World) (hBi : Bi < w.heap.size) (hBm : Bm < w.heap.size) (hi : w.cell? ⟨Bi, 0, none⟩ = some (.int .i64 i.1))
    (hm : w.cell? ⟨Bm, 0, none⟩ = some (.int .i64 R) ∧ w.cell? ⟨Bm, 1, none⟩ = some (.int .i64 C) ∧ w.cell? ⟨Bm, 2, none⟩ = some (.slice (some ⟨gg, 0, none⟩) cnt cap)) (hrv : Rv w R C cnt gg cap Z) :
    SeqStopsK Fence.wide n Try.prog 100 #[.pointer (some ⟨Bi, 0, none⟩), .pointer (some ⟨Bm, 0, none⟩)] (fun x : Ix (R * C) => #[Value.int .i64 x.1]) (Kb2 Bm gg) (fun ys => ys = runL R C Z i) (fun pre => pre <+: runL R C Z i) (runL R C Z i).length w := fun l J Jx W hW hJ _ hY h0 =>
  run1_in n hn l Bi Bm R C gg cap cnt hR hC Z hZ i J Jx W hJ hY (Nat.lt_of_lt_of_le hBm hW.size) ((hW.cell (p := ⟨Bi, 0, none⟩) hBi).trans hi)
    ((hW.cell (p := ⟨Bm, 0, none⟩) hBm).trans hm.1) ((hW.cell (p := ⟨Bm, 1, none⟩) hBm).trans hm.2.1) ((hW.cell (p := ⟨Bm, 2, none⟩) hBm).trans hm.2.2) (hrv.keep hW (Nat.le_refl _)) h0

set_option maxRecDepth 100000 in
set_option maxHeartbeats 4000000 in
theorem runLength_any (R C gg cap cnt : Nat) (hR : R ≤ 7) (hC : C ≤ 7) (Z : Nat → Int) (hZ : ∀ x, x < R * C → 0 ≤ Z x ∧ Z x ≤ 99) (i : Ix (R * C)) (w : World) (h : Rv w R C cnt gg cap Z) :
    Calls Try.prog 74 #[.agg #[.int .i64 R, .int .i64 C, .slice (some ⟨gg, 0, none⟩) cnt cap], .int .i64 i.1] w (IntPost (runL R C Z i).length w) := by
  have H := Lib.hid h
  have HZ := Lib.hid hZ
  have hlen := runL_len R C Z i
  clear h hZ
  refine (callsIn_wide (n := 5)).1 ?_
  refine callsIn_of_wp_marks Try.func74 rfl trivial ?_ rfl
  simp only [Try.ntmps74, List.size_toArray, List.length_cons, List.length_nil, Nat.reduceAdd, Nat.reduceSub, Array.replicate_succ, Array.replicate_zero, List.push_toArray, List.append_toArray, List.nil_append, List.cons_append]
  gi_wp2_with (refine ⟨trivial, ?_⟩; gi_at_call 77; refine (callsIn_wide.2 (run_any R C gg cnt cap i.1 _)).mono ?_; rintro e w' ⟨rfl, rfl⟩)
  obtain ⟨k1, k2, k3, k4, ksz, kb⟩ := four_allocs w (.cells #[.int .i64 R, .int .i64 C, .slice (some ⟨gg, 0, none⟩) cnt cap] 49) (.cells #[.int .i64 0] 3) (.cells #[.int .i64 R, .int .i64 C, .slice (some ⟨gg, 0, none⟩) cnt cap] 49) (.cells #[.int .i64 i.1] 3)
  generalize hW0 : (((w.alloc (.cells #[.int .i64 R, .int .i64 C, .slice (some ⟨gg, 0, none⟩) cnt cap] 49)).alloc (.cells #[.int .i64 0] 3)).alloc (.cells #[.int .i64 R, .int .i64 C, .slice (some ⟨gg, 0, none⟩) cnt cap] 49)).alloc (.cells #[.int .i64 i.1] 3) = W0 at k1 k2 k3 k4 ksz kb ⊢
  clear hW0
  have hgl : gg < w.heap.size := H.out.lt
  have hMC := three_cells k3
  have hBX : Boxed W0 (w.heap.size + 1) 3 (.int .i64 0) := k2
  refine wpIn_rangeFunc_ownF rfl (by omega) (gf := 100) (lb := #[.pointer (some ⟨w.heap.size + 1 + 1 + 1, 0, none⟩), .pointer (some ⟨w.heap.size + 1 + 1, 0, none⟩)]) rfl trivial (enters_of Try.func100 (by kernel_rfl) rfl)
    (run_stops 4 (by omega) (w.heap.size + 1 + 1 + 1) (w.heap.size + 1 + 1) R C gg cap cnt hR hC Z HZ.out i W0 (by omega) (by omega) (one_cell k4) hMC (H.out.keep kb (Nat.le_refl _))) Kb2.trans (kb2_b (by omega) (by omega)) (Below.refl _ _) (fun _ => rfl)
    (fun pre W => Boxed W (w.heap.size + 1) 3 (.int .i64 pre.length) ∧ Below w.heap.size w W)
    (fun _ _ _ => False)
    (OwnFrom.and (Own.from (boxed_own _ _ _) _) (ownFrom_below (Nat.le_refl _) (by omega))) (fun _ _ _ _ _ hs _ _ => hs) ⟨hBX, kb⟩
    (fun x => { tmps := #[.agg #[.int .i64 R, .int .i64 C, .slice (some ⟨gg, 0, none⟩) cnt cap], .int .i64 i.1, .pointer (some ⟨w.heap.size, 0, none⟩), undef, .int .i64 0, .pointer (some ⟨w.heap.size + 1, 0, none⟩), .agg #[.int .i64 R, .int .i64 C, .slice (some ⟨gg, 0, none⟩) cnt cap], .int .i64 i.1, .func (.func 100) #[] #[.pointer (some ⟨w.heap.size + 1 + 1 + 1, 0, none⟩), .pointer (some ⟨w.heap.size + 1 + 1, 0, none⟩)], .int .i64 x.1, undef, undef, undef], defers := [] }) ?assign ?body ?done ?stop
  case assign =>
    intro l x W K hK
    gi_wp2
    simpa using hK
  case body =>
    rintro l pre x W ⟨hbx, hB⟩ hpl
    have c1 := hbx.cell
    have f1 := hbx.frozen
    have hp : (pre.length : Int) ≤ 100 := by omega
    have HBX := Lib.hid hbx
    have HB := Lib.hid hB
    clear hbx hB k1 k2 k3 k4 hMC hBX
    gi_wp2
    refine ⟨KeepsOthers.setCell _ _ _, ⟨⟨by simp [World.setCell], Below.heap_setCell _ _ _ _ (by simp)⟩, ⟨by simp [World.setCell], Below.heap_setCell _ _ _ _ (by simp; omega)⟩⟩, ?_, HB.out.setCell (p := ⟨w.heap.size + 1, 0, none⟩) (Nat.le_succ _) _⟩
    have e : ((pre ++ [x]).length : Int) = (pre.length : Int) + 1 := by simp
    rw [e]
    exact HBX.out.set _
  case done =>
    rintro D ys W hD rfl ⟨hbx, hB⟩ hK
    have cS := hbx.cell
    gi_wp2
    refine ⟨by simp, .inl ⟨_, _, rfl, run_takeDeferred hK, ?_⟩⟩
    exact ⟨_, results_tmp rfl _ _ _, rfl, hB.trans (belowK_b (w := w) (Nat.le_refl _) W D _ _ (by omega) hK rfl rfl)⟩
  case stop =>
    rintro D c pre W _ _ h _
    exact h.elim

end Go.Proofs.Ytekekbepobafdab
