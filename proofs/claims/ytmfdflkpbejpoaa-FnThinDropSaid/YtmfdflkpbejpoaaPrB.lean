/- Profiles turned over and tilted, in the model and in the program. -/
import Derived.Test.YtmfdflkpbejpoaaPrR
import Derived.Test.YtmfdflkpbejpoaaPrV
namespace Go.Proofs.Ytmfdflkpbejpoaa
open Go.RowKit
set_option linter.unusedVariables false

open Classical in
noncomputable def bkN (n : Nat) (z : Nat → Int) : Nat := if PrOk n z then n else 0
theorem bkN_yes {n : Nat} {z : Nat → Int} (h : PrOk n z) : bkN n z = n := by unfold bkN; rw [if_pos h]
theorem bkN_no {n : Nat} {z : Nat → Int} (h : ¬ PrOk n z) : bkN n z = 0 := by unfold bkN; rw [if_neg h]
theorem bkN_le (n : Nat) (z : Nat → Int) : bkN n z ≤ n := by
  by_cases h : PrOk n z
  · rw [bkN_yes h]; exact Nat.le_refl _
  · rw [bkN_no h]; omega
theorem rev_ok {n : Nat} {z : Nat → Int} (h : PrOk n z) : PrOk n (revZ (n - 1) z) := ⟨h.1, fun i hi => h.2 _ (by omega)⟩

theorem LsPost.mk' {b b' : Bool} {n : Nat} {Z : Nat → Int} {w w' : World} {v : Value} {l : List Int} (eb : b = b') (hl : l.length = n) (hz : ∀ i, i < n → nsZ l i = Z i) (hok : NsOk l) (h : Nums w.heap.size w' v l) (hb : Below w.heap.size w w') : LsPost b n Z w (.returned (.tuple #[v, .bool b'])) w' := by
  obtain ⟨a, c, rfl⟩ := h.shape
  have hr := h.rdI hok
  rw [hl] at hr
  exact ⟨_, by rw [eb, hl], ⟨_, _, _, rfl⟩, hr.congr hz, hb⟩

set_option maxHeartbeats 4000000 in
set_option maxRecDepth 20000 in
theorem implProfileBack_any (v : Value) (lo hi n : Nat) (Z : Nat → Int) (w : World) (hv : RdI lo hi w v n Z) (hh : hi ≤ w.heap.size) :
    Calls Try.prog 21 #[v] w (LgPost (prB n Z) (bkN n Z) (revZ (n - 1) Z) w) := by
  by_cases hok : PrOk n Z
  · have HP := Lib.hid (prB_yes hok)
    have HA := Lib.hid (bkN_yes hok)
    have HC := Lib.hid (profileOf_yes v lo hi n Z w hv hok)
    have HCL := Lib.hid (clone_any v lo hi n Z w hv hok hh)
    have HR := Lib.hid (rev_ok hok).2
    have hn20 := hok.1.2
    have hn1 := hok.1.1
    obtain ⟨va, vc, rfl⟩ := hv.shape
    clear hv hok
    go_enter Try.func21, Try.ntmps21
    go_wp2_with fail
    refine HC.out.mono ?_
    rintro e w1 ⟨rfl, rfl⟩
    go_wp2_with fail
    refine HCL.out.mono ?_
    rintro e w2 ⟨u, rfl, _, how, hb2⟩
    have HB2 := Lib.hid hb2
    rcases how with ⟨rfl, h0⟩ | ⟨b, N, cap, F, rfl, k1, k2, k3, k4, k5, k6, k7, k8⟩
    · omega
    have HRV := Lib.hid (reverse_any b N n cap F Z w2 k3 k7 k4 (by omega) k5)
    clear hb2 k3 k7 k8
    go_wp2_with fail
    refine HRV.out.mono ?_
    rintro e w3 ⟨⟨v3, rfl⟩, hrow, hchg, hsz⟩
    have HB3 := Lib.hid (HB2.out.trans (hchg.below (by omega) (by omega)))
    have HOW := Lib.hid (show OwI w.heap.size w3.heap.size w3 (.slice (some ⟨b, 0, none⟩) n cap) n (revZ (n - 1) Z) from
      Or.inr ⟨b, N, cap, _, rfl, k1, by rw [hsz]; exact k2, hrow, k4, k5, k6, fun i hi => by simp only [hi, if_true]; rfl, fun i hi => by have := HR.out i hi; omega⟩)
    clear hrow hchg hsz
    go_wp2
    go_ret2
    exact ⟨_, by rw [HP.out]; rfl, ⟨_, _, _, rfl⟩, by rw [HA.out]; exact HOW.out, HB3.out⟩
  · have HP := Lib.hid (prB_no hok)
    have HA := Lib.hid (bkN_no hok)
    have HC := Lib.hid (profileOf_no v lo hi n Z w hv hok)
    obtain ⟨va, vc, rfl⟩ := hv.shape
    clear hv hok
    go_enter Try.func21, Try.ntmps21
    go_wp2_with fail
    refine HC.out.mono ?_
    rintro e w1 ⟨rfl, rfl⟩
    go_wp2
    go_ret2
    exact ⟨_, by rw [HP.out]; rfl, ⟨_, _, _, rfl⟩, by rw [HA.out]; exact OwI.none _ _ _ _, Below.refl _ _⟩

end Go.Proofs.Ytmfdflkpbejpoaa
