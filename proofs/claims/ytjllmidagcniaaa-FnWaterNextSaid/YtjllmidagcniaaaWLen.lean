/- The length of a run, in the program. -/
import Derived.Test.YtjllmidagcniaaaWRun
namespace Go.Proofs.Ytjllmidagcniaaa
open Go.RowKit Go.Shelf
set_option linter.unusedVariables false
attribute [local go_sem] Oper.semAt_some

theorem run_stops (n : Nat) (hn : 1 ≤ n) (Bi Bm R C gg cap cnt : Nat) (hR : R ≤ 7) (hC : C ≤ 7) (Z : Nat → Int) (hZ : ∀ x, x < R * C → 0 ≤ Z x ∧ Z x ≤ 99) (i : Ix (R * C)) (w : World) (hBi : Bi < w.heap.size) (hBm : Bm < w.heap.size) (hi : w.cell? ⟨Bi, 0, none⟩ = some (.int .i64 i.1))
    (hm : w.cell? ⟨Bm, 0, none⟩ = some (.int .i64 R) ∧ w.cell? ⟨Bm, 1, none⟩ = some (.int .i64 C) ∧ w.cell? ⟨Bm, 2, none⟩ = some (.slice (some ⟨gg, 0, none⟩) cnt cap)) (hrv : Rv w R C cnt gg cap Z) :
    SeqStopsK Fence.wide n Try.prog 98 #[.pointer (some ⟨Bi, 0, none⟩), .pointer (some ⟨Bm, 0, none⟩)] (fun x : Ix (R * C) => #[Value.int .i64 x.1]) (Kb2 Bm gg) (fun ys => ys = runL R C Z i) (fun pre => pre <+: runL R C Z i) (runL R C Z i).length w := fun l J Jx W hW hJ _ hY h0 =>
  run1_in n hn l Bi Bm R C gg cap cnt hR hC Z hZ i J Jx W hJ hY (Nat.lt_of_lt_of_le hBm hW.size) ((hW.cell (p := ⟨Bi, 0, none⟩) hBi).trans hi)
    ((hW.cell (p := ⟨Bm, 0, none⟩) hBm).trans hm.1) ((hW.cell (p := ⟨Bm, 1, none⟩) hBm).trans hm.2.1) ((hW.cell (p := ⟨Bm, 2, none⟩) hBm).trans hm.2.2) (hrv.keep hW (Nat.le_refl _)) h0

end Go.Proofs.Ytjllmidagcniaaa
