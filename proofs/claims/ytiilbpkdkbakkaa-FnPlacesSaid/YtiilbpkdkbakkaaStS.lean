/- The model's maps: l8Map, l8Set. -/
import Derived.Test.YtiilbpkdkbakkaaStM
import Derived.BigQuiet
import Derived.RegionTactic
namespace Go.Proofs.Ytiilbpkdkbakkaa
open Go.RowKit
set_option linter.unusedVariables false

theorem sz_news {W : World} {b off n : Nat} {F : Nat → Int} (hc : ∀ j, j < n → W.cell? ⟨b, off + j, none⟩ = some (.int .i64 (F j))) : ∀ j u, (nsV (fnL F n))[j]? = some u → W.cell? ((⟨b, off, none⟩ : Addr).add j) = some u := fun j u hu => by
  have hj : j < n := by
    have := (List.getElem?_eq_some_iff.1 hu).1
    simpa [nsV, fnL_len] using this
  have e2 : (nsV (fnL F n))[j]? = some (.int .i64 (F j)) := by rw [nsV_at _ _ (by rw [fnL_len]; exact hj), fnL_z F n j hj]
  rw [e2] at hu
  obtain rfl := Option.some.inj hu
  rw [add_none]
  exact hc j hj

theorem lsPost1_mk {n : Nat} {Z : Nat → Int} {w w' : World} {b : Nat} {cap : Nat} {N : Nat} {F : Nat → Value} (hb : w.heap.size ≤ b) (h : w'.rowIs b 3 N F) (hn : n ≤ N) (hc : n ≤ cap) (hcap : cap ≤ 9223372036854775807) (hF : ∀ i, i < n → F i = .int .i64 (Z i)) (hZ : ∀ i, i < n → -9223372036854775808 ≤ Z i ∧ Z i ≤ 9223372036854775807) (hbel : Below w.heap.size w w') :
    LsPost1 n Z w (.returned (.slice (some ⟨b, 0, none⟩) n cap)) w' :=
  ⟨_, rfl, ⟨_, _, _, rfl⟩, OwI.rd (Or.inr ⟨b, N, cap, F, rfl, hb, h.lt, h, hn, hc, hcap, hF, hZ⟩), hbel⟩

theorem sz_len (n : Nat) (F : Nat → Int) : (nsV (fnL F n)).length = n := by simp [nsV, fnL_len]
/-- a map to read, and whether -/
def NoPost (w : World) (e : Ending) (w' : World) : Prop := ∃ v, e = .returned (.tuple #[v, .bool false]) ∧ (∃ a l c, v = .slice a l c) ∧ Below w.heap.size w w'
def SePost (Z M : Nat → Int) (k : Nat) (s : Int) (w : World) (e : Ending) (w' : World) : Prop :=
  (Fit Z M k s → LsPost true 100 (stp Z M k s) w e w') ∧ (¬ Fit Z M k s → NoPost w e w')

end Go.Proofs.Ytiilbpkdkbakkaa
