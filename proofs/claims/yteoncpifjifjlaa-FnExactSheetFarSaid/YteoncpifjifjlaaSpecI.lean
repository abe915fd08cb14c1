/- The model's copy of any lists, and its GridBelow. -/
import Derived.Test.YteoncpifjifjlaaConcat
namespace Go.Proofs.Yteoncpifjifjlaa
open Go.RowKit
set_option linter.unusedVariables false

/-- append of nothing -/
theorem run_append_none {P : Program} (w : World) (t ty e : TypeId) (i : TypeInfo) (ht : P.underlying t = some (.slice e)) (hi : P.info? e = some i) (a : Addr) (b : Option Addr) (cb : Nat) :
    (Builtin.append_ #[t, t] ty #[.slice (some a) 0 0, .slice b 0 cb]).run P w = .ok (.slice (some a) 0 0) w := by
  have hf : (Builtin.firstCells i.size 0 (.slice b 0 cb)).run P w = .ok #[] w := by
    cases b with
    | none => exact run_firstCells_none w i.size 0 0 cb
    | some b => exact run_firstCells_some w i.size 0 b 0 cb [] (by simp) (fun j v hj => by simp at hj)
  simp [Builtin.append_, run_underlying ht, sizeOf, typeInfo, hi, Builtin.lenOf, hf, storeCells]

def belowG (a b : G) : G := { n := a.n + b.n, len := fun r => if r < a.n then a.len r else b.len (r - a.n), z := fun r c => if r < a.n then a.z r c else b.z (r - a.n) c }

end Go.Proofs.Yteoncpifjifjlaa
