/- The model's copy of any lists, and its GridBelow. -/
import Derived.Test.YteoncpifjifjlaaDoorConcat
namespace Go.Proofs.YteoncpifjifjlaaDoor
open Go.RowKit
set_option linter.unusedVariables false

/-- append of nothing -/
theorem run_append_none {P : Program} (w : World) (t ty e : TypeId) (i : TypeInfo) (ht : P.underlying t = some (.slice e)) (hi : P.info? e = some i) (a : Addr) (b : Option Addr) (cb : Nat) :
    (Builtin.append_ #[t, t] ty #[.slice (some a) 0 0, .slice b 0 cb]).run P w = .ok (.slice (some a) 0 0) w := by
  have hf : (Builtin.firstCells i.size 0 (.slice b 0 cb)).run P w = .ok #[] w := by
    cases b with
    | none => exact run_firstCells_none w i.size 0 0 cb
    | some b => exact run_firstCells_some w i.size 0 b 0 cb [] (by simp) (fun j v hj => by simp at hj)
  simp [Builtin.append_, run_underlying ht, sizeOf, typeInfo, hi, Builtin.lenOf, hf, storeCells]

/-- what the copy of any lists leaves -/
def CaPost (g : G) (w : World) (e : Ending) (w' : World) : Prop := ∃ bq cq B RV, e = .returned (.slice (some ⟨bq, 0, none⟩) g.n cq) ∧ Gr w w' (.slice (some ⟨bq, 0, none⟩) g.n cq) g.n B RV g

def belowG (a b : G) : G := { n := a.n + b.n, len := fun r => if r < a.n then a.len r else b.len (r - a.n), z := fun r c => if r < a.n then a.z r c else b.z (r - a.n) c }

theorem Gr.join {w w1 w2 w3 : World} {vA vB v' : Value} {BA BB : Nat} {RVA RVB : Nat → Value} {a b : G} (hA : Gr w w1 vA a.n BA RVA a) (hB : Gr w1 w2 vB b.n BB RVB b)
    (hown : w3.ownsRow w.heap.size 61 1 v' (a.n + b.n) ((List.range a.n).map RVA ++ (List.range b.n).map RVB)) (hg : w2.grownBy w3 vA.ownBlock) :
    Gr w w3 v' (belowG a b).n w3.heap.size (fun r => if r < a.n then RVA r else RVB (r - a.n)) (belowG a b) := by
  have hA' := hA.keep (hB.below.mono hA.hi)
  have s1 : w1.heap.size ≤ w2.heap.size := hB.below.size
  have s0 : w.heap.size ≤ w1.heap.size := hA.below.size
  have s3 : w2.heap.size ≤ w3.heap.size := hg.size
  have hlow : ∀ k, vA.ownBlock = some k → w.heap.size ≤ k := fun k hk => (hA.top.lt k hk).1
  refine ⟨hA'.below.grown hg (by omega) hlow, by omega, Nat.le_refl _, ?_, fun k hk => (hown.lt k hk).2, fun r hr => ?_, fun r s hr hs k e1 e2 => ?_⟩
  · have e : (List.range (belowG a b).n).map (fun r => if r < a.n then RVA r else RVB (r - a.n)) = (List.range a.n).map RVA ++ (List.range b.n).map RVB := by
      show (List.range (a.n + b.n)).map _ = _
      rw [List.range_add, List.map_append, List.map_map]
      congr 1
      · exact List.map_congr_left (fun r hr => by rw [if_pos (List.mem_range.1 hr)])
      · exact List.map_congr_left (fun r hr => by simp only [Function.comp]; rw [if_neg (by omega), Nat.add_sub_cancel_left])
    rw [e]; exact hown
  · have hr' : r < a.n + b.n := hr
    by_cases h1 : r < a.n
    · obtain ⟨ys, c1, c2, c3⟩ := hA'.rows r h1
      have k3 := c1.kept hg (ownsRow_apart c1 hA'.top (by decide))
      simp only [belowG, h1, if_true]
      exact ⟨ys, k3, fun k hk => (k3.lt k hk).2, c3⟩
    · obtain ⟨ys, c1, c2, c3⟩ := hB.rows (r - a.n) (by omega)
      have k3 := c1.kept hg (ownsRow_apart c1 hA'.top (by decide))
      simp only [belowG, h1, if_false]
      exact ⟨ys, ownsRow_low k3 s0, fun k hk => (k3.lt k hk).2, c3⟩
  · have hr' : r < a.n + b.n := hr
    have hs' : s < a.n + b.n := hs
    by_cases h1 : r < a.n
    · by_cases h2 : s < a.n
      · simp only [h1, if_true] at e1
        simp only [h2, if_true] at e2
        exact hA.inj r s h1 h2 k e1 e2
      · simp only [h1, if_true] at e1
        simp only [h2, if_false] at e2
        obtain ⟨ys, c1, c2, c3⟩ := hA.rows r h1
        obtain ⟨zs, d1, d2, d3⟩ := hB.rows (s - a.n) (by omega)
        have := (c1.lt k e1).2
        have := (d1.lt k e2).1
        omega
    · by_cases h2 : s < a.n
      · simp only [h1, if_false] at e1
        simp only [h2, if_true] at e2
        obtain ⟨ys, c1, c2, c3⟩ := hA.rows s h2
        obtain ⟨zs, d1, d2, d3⟩ := hB.rows (r - a.n) (by omega)
        have := (c1.lt k e2).2
        have := (d1.lt k e1).1
        omega
      · simp only [h1, if_false] at e1
        simp only [h2, if_false] at e2
        have := hB.inj (r - a.n) (s - a.n) (by omega) (by omega) k e1 e2
        omega

end Go.Proofs.YteoncpifjifjlaaDoor
