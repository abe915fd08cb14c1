/- The exact law of WaterBasins, for every grid. -/
import Derived.Test.YtdjlobppnhokoabLawBasins
import Derived.Test.YtdjlobppnhokoabBasE
namespace Go.Proofs.Ytdjlobppnhokoab
open Go.RowKit
set_option linter.unusedVariables false

theorem LbPost.nil0 {M : Nat} {L : List (Ix M)} {b : Bool} {w w' : World} {e : Ending} (h : LbPost b L w e w') (e0 : L = []) : LbPost b ([] : List (Ix 0)) w e w' := by
  subst e0
  obtain ⟨v, he, hl, hb⟩ := h
  exact ⟨v, he, hl, hb⟩

theorem all_FnExactWaterBasins (v : Value) (g : G) (w : World) (hv : RdM 0 w.heap.size w v g) :
    Calls Try.prog 3 #[v] w (LawPost w) := by
  by_cases h : g.Valid
  · have hM : g.n * g.len 0 ≤ 49 := mul_le_49 h.1.2 h.2.1.2
    have hlen : g.bsV.length ≤ 49 := by rw [G.bsV_yes h]; have := bsL_len g.n (g.len 0) g.flat (g.n * g.len 0) (Nat.le_refl _); omega
    exact law_FnExactWaterBasins v g w true g.bsV.length (ixZ g.bsV) hv (fun u W lo hi hu hh => (specWaterBasins_any u lo hi g W hu hh true (by simp [h])).mono fun _ _ k => k.ls hM)
      (fun u W lo hi hu hh => (implWaterBasins_any u lo hi g W hu hh true (by simp [h])).mono fun _ _ k => k.lg hM) (by omega)
  · have e := G.bsV_no h
    exact law_FnExactWaterBasins v g w false ([] : List (Ix 0)).length (ixZ ([] : List (Ix 0))) hv (fun u W lo hi hu hh => (specWaterBasins_any u lo hi g W hu hh false (by simp [h])).mono fun _ _ k => (k.nil0 e).ls (by omega))
      (fun u W lo hi hu hh => (implWaterBasins_any u lo hi g W hu hh false (by simp [h])).mono fun _ _ k => (k.nil0 e).lg (by omega)) (by simp)

end Go.Proofs.Ytdjlobppnhokoab
