/- The program's iterator over the run of a cell, by contract. -/
import Derived.Test.YtepnhamkadkipaaWNext
import Derived.Test.YtepnhamkadkipaaM3
namespace Go.Proofs.Ytepnhamkadkipaa
open Go.RowKit Go.Shelf
set_option linter.unusedVariables false
attribute [local go_sem] Oper.semAt_some

/-- blocks Bm and gg lie as they lay -/
def Kb2 (Bm gg : Nat) (W W' : World) : Prop := Kb Bm W W' ∧ Kb gg W W'
theorem Kb2.trans {Bm gg : Nat} {A B C : World} (h : Kb2 Bm gg A B) (k : Kb2 Bm gg B C) : Kb2 Bm gg A C := ⟨h.1.trans k.1, h.2.trans k.2⟩
theorem kb2_b {Bm gg : Nat} {w : World} (h1 : Bm < w.heap.size) (h2 : gg < w.heap.size) (W : World) (l : Nat) (o o' : Obj) (hl : w.heap.size ≤ l) (h : W.heap[l]? = some o) (ha : o.isCells = false) (hb : o.isWalk = false) : Kb2 Bm gg W (W.putObj l o') :=
  ⟨kb_b h1 W l o o' hl h ha hb, kb_b h2 W l o o' hl h ha hb⟩
theorem Kb2.of_below {Bm gg n : Nat} {A B : World} (h : Below n A B) (h1 : Bm < n) (h2 : gg < n) : Kb2 Bm gg A B := ⟨Kb.of_below h h1, Kb.of_below h h2⟩
theorem Rv.kb {w w' : World} {R C n gg cap : Nat} {Z : Nat → Int} (h : Rv w R C n gg cap Z) (k : Kb gg w w') : Rv w' R C n gg cap Z :=
  ⟨h.n_eq, Nat.lt_of_lt_of_le h.lt k.1, h.le, fun i hi => (k.cell i).trans (h.cell i hi)⟩

end Go.Proofs.Ytepnhamkadkipaa
