/- The exact law of GridPart, for every grid and numbers. -/
import Derived.Test.YtalahpohndjgcabLawPart
namespace Go.Proofs.Ytalahpohndjgcab
open Go.RowKit
set_option linter.unusedVariables false

theorem all_FnExactGridPart (v : Value) (g : G) (t b l r : Int) (w : World) (hv : RdM 0 w.heap.size w v g) (_ : -9223372036854775808 ≤ t ∧ t ≤ 9223372036854775807) (_ : -9223372036854775808 ≤ b ∧ b ≤ 9223372036854775807) (_ : -9223372036854775808 ≤ l ∧ l ≤ 9223372036854775807) (_ : -9223372036854775808 ≤ r ∧ r ≤ 9223372036854775807) :
    Calls Try.prog 10 #[v, .int .i64 t, .int .i64 b, .int .i64 l, .int .i64 r] w (LawPost w) := by
  by_cases h : g.PartOk t b l r
  · obtain ⟨t, rfl⟩ := Int.eq_ofNat_of_zero_le h.1.2.1.1
    obtain ⟨l, rfl⟩ := Int.eq_ofNat_of_zero_le h.1.2.2.1
    obtain ⟨b, rfl⟩ := Int.eq_ofNat_of_zero_le h.2.1.2.1.1
    obtain ⟨r, rfl⟩ := Int.eq_ofNat_of_zero_le h.2.1.2.2.1
    have hpv := part_valid h
    exact law_FnExactGridPart v g t b l r w true (partG g t b l r) hv (fun u W lo hi hu hh => specGridPart_yes u lo hi g t b l r W hu hh h) (fun u W lo hi hu hh => implGridPart_yes u lo hi g t b l r W hu hh h)
      (by have := hpv.1; omega) (fun i hi => by have := (hpv.2.2 i hi).1; have := hpv.2.1; omega)
  · exact law_FnExactGridPart v g t b l r w false G0 hv (fun u W lo hi hu hh => specGridPart_no u lo hi g t b l r W hu hh h) (fun u W lo hi hu hh => implGridPart_no u lo hi g t b l r W hu hh h)
      (by simp [G0]) (fun r hr => by simp [G0] at hr)

end Go.Proofs.Ytalahpohndjgcab
