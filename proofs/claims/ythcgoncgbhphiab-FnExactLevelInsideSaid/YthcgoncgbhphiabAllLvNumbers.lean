/- The exact law of LevelNumbers, for every grid and level. -/
import Derived.Test.YthcgoncgbhphiabLawLevelNumbers
import Derived.Test.YthcgoncgbhphiabRegI
namespace Go.Proofs.Ythcgoncgbhphiab
open Go.RowKit
set_option linter.unusedVariables false

theorem LgPost.rdl {b : Bool} {n : Nat} {Z : Nat → Int} {w w' : World} {e : Ending} (h : LgPost b n Z w e w') : LsPost b n Z w e w' := by
  obtain ⟨v, h1, h2, h3, h4⟩ := h
  exact ⟨v, h1, h2, h3.rd, h4⟩

theorem all_FnExactLevelNumbers (v : Value) (g : G) (lv : Int) (w : World) (hv : RdM 0 w.heap.size w v g) (_ : -9223372036854775808 ≤ lv ∧ lv ≤ 9223372036854775807) :
    Calls Try.prog 4 #[v, .int .i64 lv] w (LawPost w) :=
  law_FnExactLevelNumbers v g lv w (g.lvB lv) (g.nmN lv) (numZ g.n (g.len 0) g.flat lv) hv (fun u W lo hi hu hh => (specLevelNumbers_any u lo hi g lv W hu hh).mono fun _ _ k => k.rdl) (fun u W lo hi hu hh => implLevelNumbers_any u lo hi g lv W hu hh) (by have := G.nmN_le (g := g) (lv := lv); omega)

end Go.Proofs.Ythcgoncgbhphiab
