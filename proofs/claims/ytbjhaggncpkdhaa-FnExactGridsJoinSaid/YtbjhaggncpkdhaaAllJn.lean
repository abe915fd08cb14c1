/- The exact law of GridsJoin, for every pair of grids. -/
import Derived.Test.YtbjhaggncpkdhaaLawGridsJoin
namespace Go.Proofs.Ytbjhaggncpkdhaa
open Go.RowKit
set_option linter.unusedVariables false

theorem specGridsJoin_any (v u : Value) (lo hi : Nat) (a b : G) (w : World) (hv : RdM lo hi w v a) (hu : RdM lo hi w u b) (hh : hi ≤ w.heap.size) :
    Calls Try.prog 18 #[v, u] w (JnPost a b w) := by
  cases h : agB a b
  · exact specGridsJoin_no v u lo hi a b w hv hu hh h
  · exact specGridsJoin_yes v u lo hi a b w hv hu hh h
theorem all_FnExactGridsJoin (v : Value) (g : G) (u : Value) (h : G) (w : World) (hv : RdM 0 w.heap.size w v g) (hu : RdM 0 w.heap.size w u h) :
    Calls Try.prog 6 #[v, u] w (LawPost w) := by
  by_cases hk : JoinOk g h
  · have v1 := (join_valid (agB_ok hk.1)).2 hk.2
    exact law_FnExactGridsJoin v g u h w true (joinG g h) hv hu (fun x y W lo hi hx hy hh => (specGridsJoin_any x y lo hi g h W hx hy hh).mono fun _ _ k => k.1 hk) (fun x y W lo hi hx hy hh => (implGridsJoin_any x y lo hi g h W hx hy hh).mono fun _ _ k => k.1 hk)
      (by have := v1.1.2; omega) (fun r hr => by have := (v1.2.2 r hr).1; have := v1.2.1.2; omega)
  · exact law_FnExactGridsJoin v g u h w false G0 hv hu (fun x y W lo hi hx hy hh => (specGridsJoin_any x y lo hi g h W hx hy hh).mono fun _ _ k => k.2 hk) (fun x y W lo hi hx hy hh => (implGridsJoin_any x y lo hi g h W hx hy hh).mono fun _ _ k => k.2 hk)
      (by simp [G0]) (fun r hr => by simp [G0])

end Go.Proofs.Ytbjhaggncpkdhaa
