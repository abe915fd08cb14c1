/- Runs and WaterLongest of the model. -/
import Derived.Test.YtepnhamkadkipaaLongI
import Derived.Test.YtepnhamkadkipaaWSpec
namespace Go.Proofs.Ytepnhamkadkipaa
open Go.RowKit
set_option linter.unusedVariables false

/-- the value lists the indexes l -/
def Lists (B : Nat) (wr : World) (v : Value) {M : Nat} (l : List (Ix M)) : Prop := wr.ownsRow B 3 1 v l.length (ixV l)

theorem Lists.rdI {B : Nat} {w : World} {v : Value} {M : Nat} {l : List (Ix M)} (h : Lists B w v l) (hM : M ≤ 49) : RdI B w.heap.size w v l.length (ixZ l) := by
  refine Rw.rdI ⟨ixV l, h, fun j hj => ?_⟩ (fun j hj => ?_)
  · rw [ixZ_at _ hj]; simp [ixV, hj]
  · rw [ixZ_at _ hj]; have := l[j].2; omega

theorem lists_one {w : World} {M : Nat} (i : Ix M) : Lists w.heap.size (w.alloc (.cells #[.int .i64 i.1] 3)) (.slice (some ⟨w.heap.size, 0, none⟩) 1 1) [i] :=
  ⟨by simp [ixV], Or.inr ⟨w.heap.size, 1, #[.int .i64 i.1], rfl, Nat.le_refl _, heap_alloc_new w _, Nat.le_refl _, by decide, rfl, by simp [ixV]⟩⟩

/-- what a list of indexes leaves -/
def LiPost {M : Nat} (l : List (Ix M)) (w : World) (e : Ending) (w' : World) : Prop :=
  ∃ v, e = .returned v ∧ (∃ a c, v = .slice a l.length c) ∧ Lists w.heap.size w' v l ∧ Below w.heap.size w w'

theorem Lists.shape {B : Nat} {w : World} {v : Value} {M : Nat} {l : List (Ix M)} (h : Lists B w v l) : ∃ a c, v = .slice a l.length c := own_shape h
theorem Lists.below {B C : Nat} {w w' : World} {v : Value} {M : Nat} {l : List (Ix M)} (h : Lists B w v l) (hb : Below C w w') (hC : w.heap.size ≤ C) : Lists B w' v l := ownsRow_below h hb (fun k hk => by have := (h.lt k hk).2; omega)

set_option maxHeartbeats 4000000 in
set_option maxRecDepth 100000 in
theorem l2Cells_any (v : Value) (lo hi : Nat) (g : G) (w : World) (hv : RdM lo hi w v g) (h : g.Valid) :
    Calls Try.prog 49 #[v] w fun e w' => e = .returned (.int .i64 ((g.n * g.len 0 : Nat) : Int)) ∧ w = w' := by
  obtain ⟨b, off, cap, rfl⟩ := hv.shapeW h.1.1
  obtain ⟨a1, c1, h1⟩ := hv.headW h.1.1 (g.len 0) rfl
  have h2 : (0 : Int) < g.n := by have := h.1.1; omega
  have h3 : (g.n : Int) * (g.len 0 : Int) = ((g.n * g.len 0 : Nat) : Int) := (Int.natCast_mul _ _).symm
  have h4 : 0 ≤ (g.n : Int) * (g.len 0 : Int) ∧ (g.n : Int) * (g.len 0 : Int) ≤ 49 := by rw [h3]; have := mul_le_49 h.1.2 h.2.1.2; omega
  obtain ⟨h5, h6⟩ := h4
  have H3 := Lib.hid h3
  clear h3 h hv
  go_enter Try.func49, Try.ntmps49
  go_wp2
  go_ret
  exact ⟨ret_int H3.out, rfl⟩

end Go.Proofs.Ytepnhamkadkipaa
