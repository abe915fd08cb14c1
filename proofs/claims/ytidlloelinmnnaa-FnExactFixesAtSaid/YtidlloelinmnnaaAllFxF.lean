/- FixesAt: the walk with both contracts. -/
import Derived.Test.YtidlloelinmnnaaLawFixesAt
namespace Go.Proofs.Ytidlloelinmnnaa
open Go.RowKit
set_option linter.unusedVariables false

theorem ahL_ok (g : G) (n : Nat) (Z : Nat → Int) (r c : Int) : NsOk (ahL g n Z r c) := by
  by_cases h : AhOk g n Z r c
  · rw [ahL_yes h]
    intro x hx
    rcases List.mem_cons.1 hx with rfl | hx
    · obtain ⟨r', e1⟩ := Int.eq_ofNat_of_zero_le h.2.2.1.1
      obtain ⟨c', e2⟩ := Int.eq_ofNat_of_zero_le h.2.2.2.1
      have hr := h.2.2.1.2
      have hc := h.2.2.2.2
      have h1 := h.1.1.2.2 r.toNat (by omega)
      have h2 := h1.2 c.toNat (by omega)
      omega
    · obtain ⟨f, hf, rfl⟩ := List.mem_map.1 hx
      have h2 := fxOk_in h.1 f (List.mem_filter.1 hf).1
      obtain ⟨_, h3, h4⟩ := h2
      omega
  · rw [ahL_no h]
    intro x hx
    cases hx
theorem ahL_len (g : G) (n : Nat) (Z : Nat → Int) (r c : Int) : (ahL g n Z r c).length ≤ 61 := by
  by_cases h : AhOk g n Z r c
  · rw [ahL_yes h, List.length_cons]
    have := ahP_len r c (fxF Z 0 n)
    rw [fxF_len] at this
    have := h.1.2.1
    omega
  · rw [ahL_no h]; simp
theorem all_FnExactFixesAt (v0 : Value) (g0 : G) (v1 : Value) (n1 : Nat) (z1 : Nat → Int) (a2 a3 : Int) (w : World) (hv0 : RdM 0 w.heap.size w v0 g0) (hv1 : RdT 0 w.heap.size w v1 n1 z1) (ha2 : -9223372036854775808 ≤ a2 ∧ a2 ≤ 9223372036854775807) (ha3 : -9223372036854775808 ≤ a3 ∧ a3 ≤ 9223372036854775807) : Calls Try.prog 3 #[v0, v1, .int .i64 a2, .int .i64 a3] w (LawPost w) :=
  law_FnExactFixesAt v0 g0 v1 n1 z1 a2 a3 w (ahB g0 n1 z1 a2 a3) (ahL g0 n1 z1 a2 a3).length (nsZ (ahL g0 n1 z1 a2 a3)) hv0 hv1 ha2 ha3
    (fun hb u0 u1 W h0 h1 => (specFixesAt_any u0 u1 0 W.heap.size n1 g0 z1 a2 a3 W h0 h1 (Nat.le_refl _) hb).mono fun _ _ h => NbPost.ls h (ahL_ok g0 n1 z1 a2 a3))
    (fun hb u0 u1 W h0 h1 => (implFixesAt_any u0 u1 0 W.heap.size n1 g0 z1 a2 a3 W h0 h1 (Nat.le_refl _) hb).mono fun _ _ h => NbPost.lg h (ahL_ok g0 n1 z1 a2 a3))
    (fun _ => by have := ahL_len g0 n1 z1 a2 a3; omega)

end Go.Proofs.Ytidlloelinmnnaa
