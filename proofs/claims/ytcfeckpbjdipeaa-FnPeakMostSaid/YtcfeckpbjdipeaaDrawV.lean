/- The draw of FnPeakList; lists of peaks, cleanly. -/
import Derived.Test.YtcfeckpbjdipeaaDrawD
import Derived.Test.YtcfeckpbjdipeaaPqZ
import Derived.Test.YtcfeckpbjdipeaaPkLI
import Derived.Test.YtcfeckpbjdipeaaSkZ
namespace Go.Proofs.Ytcfeckpbjdipeaa
open Go.RowKit
set_option linter.unusedVariables false

theorem RdM.shapeV {lo hi : Nat} {w : World} {v : Value} {g : G} (h : RdM lo hi w v g) : ∃ a c, v = .slice a g.n c := by
  obtain ⟨ao, cap, _, _, _, _, h, _⟩ := h
  exact ⟨ao, cap, h⟩
theorem RdI.shapeN {lo hi : Nat} {w : World} {v : Value} {n : Nat} {Z : Nat → Int} (h : RdI lo hi w v n Z) : ∃ a c, v = .slice a n c := by
  obtain ⟨ao, cap, _, _, h, _⟩ := h
  exact ⟨ao, cap, h⟩
theorem RdI.openN {lo hi : Nat} {w : World} {v : Value} {n : Nat} {Z : Nat → Int} (h : RdI lo hi w v n Z) (h0 : 0 < n) :
    ∃ b off cap, v = .slice (some ⟨b, off, none⟩) n cap ∧ n ≤ cap ∧ lo ≤ b ∧ b < hi ∧ ∀ i, i < n → w.cell? ⟨b, off + i, none⟩ = some (.int .i64 (Z i)) := by
  obtain ⟨ao, cap, b, off, rfl, h2, h3, h4, h5, h6⟩ := h
  obtain ⟨rfl, a, b⟩ := h5 h0
  exact ⟨_, _, _, rfl, h2, a, b, h6⟩
theorem implPkL_yes (v : Value) (lo hi : Nat) (g : G) (w : World) (hv : RdM lo hi w v g) (hh : hi ≤ w.heap.size) (h : g.Valid) : Calls Try.prog 20 #[v] w (LgPost1 (rkL g.n (g.len 0) g.flat (g.n * g.len 0)).length (ixZ (rkL g.n (g.len 0) g.flat (g.n * g.len 0))) w) := by
  have h1 := implPeakList_any v lo hi g w hv hh
  rw [G.rkV_yes h] at h1
  exact h1.mono fun _ _ k => k.lg (mul_le_49 h.1.2 h.2.1.2)
theorem specPkL_yes (v : Value) (lo hi : Nat) (g : G) (w : World) (hv : RdM lo hi w v g) (hh : hi ≤ w.heap.size) (h : g.Valid) : Calls Try.prog 75 #[v] w (LsPost1 (rkL g.n (g.len 0) g.flat (g.n * g.len 0)).length (ixZ (rkL g.n (g.len 0) g.flat (g.n * g.len 0))) w) := by
  have h1 := specPeakList_any v lo hi g w hv hh
  rw [G.rkV_yes h] at h1
  exact h1.mono fun _ _ k => k.ls (mul_le_49 h.1.2 h.2.1.2)
theorem implPkL_no (v : Value) (lo hi : Nat) (g : G) (w : World) (hv : RdM lo hi w v g) (hh : hi ≤ w.heap.size) (h : ¬ g.Valid) : Calls Try.prog 20 #[v] w (LgPost1 0 (ixZ ([] : List (Ix 0))) w) := by
  have e := G.rkV_no h
  exact (implPeakList_any v lo hi g w hv hh).mono fun _ _ k => (k.nil0 e).lg (by omega)
theorem specPkL_no (v : Value) (lo hi : Nat) (g : G) (w : World) (hv : RdM lo hi w v g) (hh : hi ≤ w.heap.size) (h : ¬ g.Valid) : Calls Try.prog 75 #[v] w (LsPost1 0 (ixZ ([] : List (Ix 0))) w) := by
  have e := G.rkV_no h
  exact (specPeakList_any v lo hi g w hv hh).mono fun _ _ k => (k.nil0 e).ls (by omega)
theorem implPkIs_at (v : Value) (lo hi : Nat) (g : G) (i : Ix (g.n * g.len 0)) (w : World) (hv : RdM lo hi w v g) (hh : hi ≤ w.heap.size) (h : g.Valid) : Calls Try.prog 13 #[v, .int .i64 i.1] w (BlPost (pkQ g.n (g.len 0) g.flat i) w) := by
  rw [← G.pkB_yes h]
  exact implPeakIs_any v lo hi g i.1 w hv hh

end Go.Proofs.Ytcfeckpbjdipeaa
