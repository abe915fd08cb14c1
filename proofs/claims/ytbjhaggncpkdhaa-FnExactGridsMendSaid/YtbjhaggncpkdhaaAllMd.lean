/- The exact law of GridsMend, for every pair of grids. -/
import Derived.Test.YtbjhaggncpkdhaaLawGridsMend
namespace Go.Proofs.Ytbjhaggncpkdhaa
open Go.RowKit
set_option linter.unusedVariables false

theorem off_small {g : G} (h : g.Valid) : g.off g.n ≤ 1000000 := by
  have h1 : ∀ r, r ≤ g.n → g.off r ≤ r * 7 := by
    intro r
    induction r with
    | zero => intro _; simp [G.off]
    | succ r ih =>
      intro hr
      have := ih (by omega)
      have h2 := (h.2.2 r (by omega)).1
      have h3 := h.2.1.2
      simp only [G.off]; omega
  have := h1 g.n (Nat.le_refl _)
  have := h.1.2
  omega
theorem all_FnExactGridsMend (v : Value) (g : G) (u : Value) (h : G) (w : World) (hv : RdM 0 w.heap.size w v g) (hu : RdM 0 w.heap.size w u h) :
    Calls Try.prog 7 #[v, u] w (LawPost w) := by
  by_cases hk : RwOk g h
  · have v1 := mdA_valid hk g.n
    have v2 := mdB_valid hk g.n
    exact law_FnExactGridsMend v g u h w true (mdA g h g.n) (mdB g h g.n) hv hu (fun x y W lo hi hx hy hh => specGridsMend_yes x y lo hi g h W hx hy hh hk) (fun x y W lo hi hx hy hh => (implGridsMend_any x y lo hi g h W hx hy hh).mono fun _ _ k => k.1 hk)
      (by have := v1.1.2; omega) (fun r hr => by have := (v1.2.2 r hr).1; have := v1.2.1.2; omega) (by have := v2.1.2; omega) (fun r hr => by have := (v2.2.2 r hr).1; have := v2.2.1.2; omega) (off_small v1)
  · exact law_FnExactGridsMend v g u h w false G0 G0 hv hu (fun x y W lo hi hx hy hh => specGridsMend_no x y lo hi g h W hx hy hk) (fun x y W lo hi hx hy hh => (implGridsMend_any x y lo hi g h W hx hy hh).mono fun _ _ k => k.2 hk)
      (by simp [G0]) (fun r hr => by simp [G0]) (by simp [G0]) (fun r hr => by simp [G0]) (by simp [G0, G.off])

end Go.Proofs.Ytbjhaggncpkdhaa
