/- WaterRun of the program and of the model. -/
import Derived.Test.YtepnhamkadkipaaCollect
import Derived.Test.YtepnhamkadkipaaM1
import Derived.Test.YtepnhamkadkipaaNextE
import Derived.Deep.Onto
namespace Go.Proofs.Ytepnhamkadkipaa
open Go.RowKit Go.Shelf
set_option linter.unusedVariables false

theorem Lists.owI {B : Nat} {w : World} {v : Value} {M : Nat} {l : List (Ix M)} (h : Lists B w v l) (hM : M ≤ 49) : OwI B w.heap.size w v l.length (ixZ l) := by
  obtain ⟨hlen, ⟨rfl, h0⟩ | ⟨b, cap, cur, rfl, hB, hb, hc, hcap, hcs, ht⟩⟩ := h
  · exact Or.inl ⟨rfl, h0⟩
  · have hlt : b < w.heap.size := (Array.getElem?_eq_some_iff.1 hb).1
    refine Or.inr ⟨b, cur.size, cap, fun i => (cur[i]?).getD (.int .i64 0), rfl, hB, hlt, ⟨cur, hb, rfl, fun i hi => by simp [hi]⟩, by rw [hcs]; omega, hc, hcap, fun i hi => ?_, fun i hi => ?_⟩
    · have e1 : cur.toList[i]? = (ixV l)[i]? := by rw [← ht, List.getElem?_take_of_lt (by omega)]
      have e2 : cur[i]? = some (.int .i64 (ixZ l i)) := by rw [← Array.getElem?_toList, e1, ixZ_at _ hi]; simp [ixV, hi]
      show (cur[i]?).getD _ = _
      rw [e2]; rfl
    · rw [ixZ_at _ hi]; have := l[i].2; omega

open Classical in
noncomputable def G.runV (g : G) (r c : Int) : List (Ix (g.n * g.len 0)) := if h : g.Cell r c then runL g.n (g.len 0) g.flat ⟨r.toNat * g.len 0 + c.toNat, wn_lt h⟩ else []
theorem G.runV_no {g : G} {r c : Int} (h : ¬ g.Cell r c) : g.runV r c = [] := by unfold G.runV; rw [dif_neg h]
theorem G.runV_yes {g : G} {r c : Nat} (h : g.Cell r c) (i : Ix (g.n * g.len 0)) (hi : i.1 = r * g.len 0 + c) : g.runV r c = runL g.n (g.len 0) g.flat i := by
  unfold G.runV
  rw [dif_pos h]
  have e : (⟨(r : Int).toNat * g.len 0 + (c : Int).toNat, wn_lt h⟩ : Ix (g.n * g.len 0)) = i := Subtype.ext (by rw [hi]; simp)
  rw [e]

/-- a list of indexes and a bool -/
def LbPost {M : Nat} (b : Bool) (l : List (Ix M)) (w : World) (e : Ending) (w' : World) : Prop :=
  ∃ v, e = .returned (.tuple #[v, .bool b]) ∧ Lists w.heap.size w' v l ∧ Below w.heap.size w w'

theorem lists_nil {M : Nat} (B : Nat) (w : World) : Lists B w (.slice none 0 0) ([] : List (Ix M)) := World.ownsRow_nil _ _ _ _

theorem LbPost.mk' {M : Nat} {b : Bool} {L l : List (Ix M)} {w w' : World} {v : Value} (e : L = l) (h : Lists w.heap.size w' v l) (hb : Below w.heap.size w w') : LbPost b L w (.returned (.tuple #[v, .bool b])) w' := ⟨v, rfl, e ▸ h, hb⟩

end Go.Proofs.Ytepnhamkadkipaa
