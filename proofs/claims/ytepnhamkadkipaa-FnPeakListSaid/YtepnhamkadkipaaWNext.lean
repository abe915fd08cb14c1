/- The cell to which water flows, in the program, by contract. -/
import Derived.Test.YtepnhamkadkipaaWNb
import Derived.Test.YtepnhamkadkipaaM3
namespace Go.Proofs.Ytepnhamkadkipaa
open Go.RowKit Go.Shelf
set_option linter.unusedVariables false
attribute [local go_sem] Oper.semAt_some

def NbPost (R C gg cnt cap i : Nat) (w : World) (e : Ending) (w' : World) : Prop :=
  e = .returned (.func (.func 97) #[] #[.pointer (some ⟨w.heap.size + 1, 0, none⟩), .pointer (some ⟨w.heap.size, 0, none⟩)]) ∧
    w' = (w.alloc (.cells #[.int .i64 R, .int .i64 C, .slice (some ⟨gg, 0, none⟩) cnt cap] 49)).alloc (.cells #[.int .i64 i] 3)

set_option maxHeartbeats 1000000 in
set_option maxRecDepth 20000 in
theorem nb_any (R C gg cnt cap i : Nat) (w : World) :
    Calls Try.prog 88 #[.agg #[.int .i64 R, .int .i64 C, .slice (some ⟨gg, 0, none⟩) cnt cap], .int .i64 i] w (NbPost R C gg cnt cap i w) := by
  go_enter Try.func88, Try.ntmps88
  go_wp2
  go_ret
  exact ⟨rfl, rfl⟩

theorem three_cells {w : World} {B : Nat} {x y z : Value} {t : TypeId} (h : w.heap[B]? = some (.cells #[x, y, z] t (0, 0))) : w.cell? ⟨B, 0, none⟩ = some x ∧ w.cell? ⟨B, 1, none⟩ = some y ∧ w.cell? ⟨B, 2, none⟩ = some z := ⟨by simp [World.cell?, h], by simp [World.cell?, h], by simp [World.cell?, h]⟩
theorem one_cell {w : World} {B : Nat} {x : Value} {t : TypeId} (h : w.heap[B]? = some (.cells #[x] t (0, 0))) : w.cell? ⟨B, 0, none⟩ = some x := by simp [World.cell?, h]

theorem body_set {W : World} {b : Nat} {v : Value} (nq : Nat) : KeepsOthers W ((W.setCell ⟨b, 0, none⟩ v).drewN nq) := (KeepsOthers.setCell W _ _).trans ⟨Nat.le_refl _, fun _ _ h _ => h⟩

theorem four_allocs (w : World) (o1 o2 o3 o4 : Obj) : let W := (((w.alloc o1).alloc o2).alloc o3).alloc o4
    W.heap[w.heap.size]? = some o1 ∧ W.heap[w.heap.size + 1]? = some o2 ∧ W.heap[w.heap.size + 1 + 1]? = some o3 ∧ W.heap[w.heap.size + 1 + 1 + 1]? = some o4 ∧ W.heap.size = w.heap.size + 4 ∧ Below w.heap.size w W := by
  intro W
  have e1 : (w.alloc o1).heap.size = w.heap.size + 1 := by simp
  have e2 : ((w.alloc o1).alloc o2).heap.size = w.heap.size + 1 + 1 := by simp
  have e3 : (((w.alloc o1).alloc o2).alloc o3).heap.size = w.heap.size + 1 + 1 + 1 := by simp
  have b2 := fun k hk => Below.heap_alloc (w.alloc o1) o2 k hk
  have b3 := fun k hk => Below.heap_alloc ((w.alloc o1).alloc o2) o3 k hk
  have b4 := fun k hk => Below.heap_alloc (((w.alloc o1).alloc o2).alloc o3) o4 k hk
  refine ⟨?_, ?_, ?_, ?_, by simp [W], (((Below.refl _ _).alloc (Nat.le_refl _) _).alloc (by simp) _).alloc (by simp; omega) _ |>.alloc (by simp; omega) _⟩
  · exact ((b4 _ (by omega)).trans ((b3 _ (by omega)).trans (b2 _ (by omega)))).trans (heap_alloc_new w o1)
  · have := heap_alloc_new (w.alloc o1) o2
    rw [e1] at this
    exact ((b4 _ (by omega)).trans (b3 _ (by omega))).trans this
  · have := heap_alloc_new ((w.alloc o1).alloc o2) o3
    rw [e2] at this
    exact (b4 _ (by omega)).trans this
  · have := heap_alloc_new (((w.alloc o1).alloc o2).alloc o3) o4
    rw [e3] at this
    exact this

/-- the iterator over the neighbors, as a loop takes it -/
theorem nb_stops (n : Nat) (hn : 1 ≤ n) (Bi Bm R C gg cap cnt : Nat) (hR : R ≤ 7) (hC : C ≤ 7) (i : Ix (R * C)) (w : World) (hBi : Bi < w.heap.size) (hBm : Bm < w.heap.size) (hi : w.cell? ⟨Bi, 0, none⟩ = some (.int .i64 i.1))
    (hm : w.cell? ⟨Bm, 0, none⟩ = some (.int .i64 R) ∧ w.cell? ⟨Bm, 1, none⟩ = some (.int .i64 C) ∧ w.cell? ⟨Bm, 2, none⟩ = some (.slice (some ⟨gg, 0, none⟩) cnt cap)) :
    SeqStopsK Fence.wide n Try.prog 97 #[.pointer (some ⟨Bi, 0, none⟩), .pointer (some ⟨Bm, 0, none⟩)] (fun x : Ix (R * C) => #[Value.int .i64 x.1]) (Kb Bm) (fun ys => ys = near R C i 4) (fun pre => pre <+: near R C i 4) 4 w := fun l J Jx W hW hJ _ hY h0 =>
  nb1_in n hn l Bi Bm R C gg cap cnt hR hC i J Jx W hJ hY (Nat.lt_of_lt_of_le hBm hW.size) ((hW.cell (p := ⟨Bi, 0, none⟩) hBi).trans hi)
    ((hW.cell (p := ⟨Bm, 0, none⟩) hBm).trans hm.1) ((hW.cell (p := ⟨Bm, 1, none⟩) hBm).trans hm.2.1) ((hW.cell (p := ⟨Bm, 2, none⟩) hBm).trans hm.2.2) h0

end Go.Proofs.Ytepnhamkadkipaa
