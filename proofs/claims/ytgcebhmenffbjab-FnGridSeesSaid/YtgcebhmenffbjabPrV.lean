/- Profiles of the program: the functions that ask who sees whom. -/
import Derived.Test.YtgcebhmenffbjabPrL
import Derived.Test.YtgcebhmenffbjabPrT
namespace Go.Proofs.Ytgcebhmenffbjab
open Go.RowKit
set_option linter.unusedVariables false

def I64 (i : Int) : Prop := -9223372036854775808 ≤ i ∧ i ≤ 9223372036854775807

theorem rd_two (w : World) (i k : Int) (hi : I64 i) (hk : I64 k) : RdI w.heap.size (w.heap.size + 1) (w.alloc (.cells #[.int .i64 i, .int .i64 k] 3)) (.slice (some ⟨w.heap.size, 0, none⟩) 2 2) 2 (fun j => if j = 0 then i else k) := by
  have h := heap_alloc_new w (.cells #[.int .i64 i, .int .i64 k] 3)
  refine ⟨_, 2, w.heap.size, 0, rfl, by omega, by omega, fun j hj => ?_, fun _ => ⟨rfl, Nat.le_refl _, Nat.lt_succ_self _⟩, fun j hj => ?_⟩
  · by_cases e : j = 0
    · simp only [e, if_true]; exact hi
    · simp only [e, if_false]; exact hk
  · rcases (by omega : j = 0 ∨ j = 1) with rfl | rfl
    · simp
    · simp
theorem rd_one (w : World) (i : Int) (hi : I64 i) : RdI w.heap.size (w.heap.size + 1) (w.alloc (.cells #[.int .i64 i] 3)) (.slice (some ⟨w.heap.size, 0, none⟩) 1 1) 1 (fun _ => i) := by
  have h := heap_alloc_new w (.cells #[.int .i64 i] 3)
  refine ⟨_, 1, w.heap.size, 0, rfl, by omega, by omega, fun j hj => hi, fun _ => ⟨rfl, Nat.le_refl _, Nat.lt_succ_self _⟩, fun j hj => ?_⟩
  obtain rfl : j = 0 := by omega
  simp

set_option maxHeartbeats 2000000 in
set_option maxRecDepth 20000 in
theorem implProfileValid_any (v : Value) (lo hi n : Nat) (Z : Nat → Int) (w : World) (hv : RdI lo hi w v n Z) :
    Calls Try.prog 30 #[v] w (SmPost (prB n Z) w) := by
  by_cases h : PrOk n Z
  · have HC := Lib.hid (profileOf_yes v lo hi n Z w hv h)
    have HB := Lib.hid (prB_yes h)
    obtain ⟨va, vc, rfl⟩ := hv.shape
    clear hv h
    go_enter Try.func30, Try.ntmps30
    go_wp2_with fail
    refine HC.out.mono ?_
    rintro e w1 ⟨rfl, rfl⟩
    go_wp2
    go_ret
    exact sm_post HB.out _
  · have HC := Lib.hid (profileOf_no v lo hi n Z w hv h)
    have HB := Lib.hid (prB_no h)
    obtain ⟨va, vc, rfl⟩ := hv.shape
    clear hv h
    go_enter Try.func30, Try.ntmps30
    go_wp2_with fail
    refine HC.out.mono ?_
    rintro e w1 ⟨rfl, rfl⟩
    go_wp2
    go_ret
    exact sm_post HB.out _

set_option maxHeartbeats 2000000 in
set_option maxRecDepth 20000 in
theorem implProfileSees_any (v : Value) (lo hi n : Nat) (Z : Nat → Int) (i k : Int) (w : World) (hv : RdI lo hi w v n Z) (hh : hi ≤ w.heap.size) (hi64 : I64 i) (hk64 : I64 k) :
    Calls Try.prog 16 #[v, .int .i64 i, .int .i64 k] w (BlPost (ssB n Z i k) w) := by
  have hb0 := (Below.refl w.heap.size w).alloc (Nat.le_refl _) (.cells #[.int .i64 i, .int .i64 k] 3)
  have hv1 := hv.same (SameIn.below hb0 hh)
  have HB0 := Lib.hid hb0
  by_cases h : PrAt n Z i ∧ PrAt n Z k
  · have HC := Lib.hid (profileWith_yes v (.slice (some ⟨w.heap.size, 0, none⟩) 2 2) lo hi w.heap.size (w.heap.size + 1) n 2 Z _ _ hv1 (rd_two w i k hi64 hk64) (by omega) h.1.1 (fun j hj => by
      by_cases e : j = 0
      · simp only [e, if_true]; exact h.1.2
      · simp only [e, if_false]; exact h.2.2))
    obtain ⟨x, rfl, hx⟩ := h.1.nat
    obtain ⟨y, rfl, hy⟩ := h.2.nat
    have HS := Lib.hid (sees_any v lo hi n Z x y _ hv1 h.1.1 (Nat.le_trans hh hb0.size) hx hy)
    have HA := Lib.hid (ssB_at x y h.1.1 hx hy)
    obtain ⟨va, vc, rfl⟩ := hv.shape
    clear hv h hv1 hb0
    go_enter Try.func16, Try.ntmps16
    go_wp2_with fail
    refine HC.out.mono ?_
    rintro e w1 ⟨rfl, rfl⟩
    go_wp2_with fail
    refine HS.out.mono ?_
    rintro e w2 ⟨rfl, hb2⟩
    have HB2 := Lib.hid (HB0.out.trans (hb2.mono HB0.out.size))
    clear hb2
    go_wp2
    go_ret
    exact bl_post HA.out HB2.out
  · have HC := Lib.hid (profileWith_no v (.slice (some ⟨w.heap.size, 0, none⟩) 2 2) lo hi w.heap.size (w.heap.size + 1) n 2 Z _ _ hv1 (rd_two w i k hi64 hk64) (by omega) (fun g => h (by
      have g0 := g.2 0 (by omega)
      have g1 := g.2 1 (by omega)
      simp at g0 g1
      exact ⟨⟨g.1, g0⟩, ⟨g.1, g1⟩⟩)))
    have HA := Lib.hid (ssB_no (n := n) (z := Z) (i := i) (k := k) (fun g => h g.1))
    obtain ⟨va, vc, rfl⟩ := hv.shape
    clear hv h hv1 hb0
    go_enter Try.func16, Try.ntmps16
    go_wp2_with fail
    refine HC.out.mono ?_
    rintro e w1 ⟨rfl, rfl⟩
    go_wp2
    go_ret
    exact bl_post HA.out HB0.out

set_option maxHeartbeats 2000000 in
set_option maxRecDepth 20000 in
theorem implProfileSeen_any (v : Value) (lo hi n : Nat) (Z : Nat → Int) (i : Int) (w : World) (hv : RdI lo hi w v n Z) (hh : hi ≤ w.heap.size) (hi64 : I64 i) :
    Calls Try.prog 20 #[v, .int .i64 i] w (NsPost (snV n Z i) w) := by
  have hb0 := (Below.refl w.heap.size w).alloc (Nat.le_refl _) (.cells #[.int .i64 i] 3)
  have hv1 := hv.same (SameIn.below hb0 hh)
  have HB0 := Lib.hid hb0
  by_cases h : PrAt n Z i
  · have HC := Lib.hid (profileWith_yes v (.slice (some ⟨w.heap.size, 0, none⟩) 1 1) lo hi w.heap.size (w.heap.size + 1) n 1 Z _ _ hv1 (rd_one w i hi64) (by omega) h.1 (fun j hj => h.2))
    obtain ⟨x, rfl, hx⟩ := h.nat
    have HS := Lib.hid (seen_any v lo hi n Z x _ hv1 h.1 (Nat.le_trans hh hb0.size) hx)
    have HA := Lib.hid (snV_yes h)
    obtain ⟨L, eL⟩ : ∃ L, snL Z x n = L := ⟨_, rfl⟩
    rw [eL] at HS HA
    obtain ⟨va, vc, rfl⟩ := hv.shape
    clear hv h hv1 hb0 eL
    go_enter Try.func20, Try.ntmps20
    go_wp2_with fail
    refine HC.out.mono ?_
    rintro e w1 ⟨rfl, rfl⟩
    go_wp2_with fail
    refine HS.out.mono ?_
    rintro e w2 ⟨u, rfl, hu, hb2⟩
    have HB2 := Lib.hid (HB0.out.trans (hb2.mono HB0.out.size))
    have HU := Lib.hid (ownsRow_low hu HB0.out.size)
    clear hb2 hu
    go_wp2
    go_ret
    exact NsPost.mk' HA.out HU.out HB2.out
  · have HC := Lib.hid (profileWith_no v (.slice (some ⟨w.heap.size, 0, none⟩) 1 1) lo hi w.heap.size (w.heap.size + 1) n 1 Z _ _ hv1 (rd_one w i hi64) (by omega) (fun g => h ⟨g.1, g.2 0 (by omega)⟩))
    have HA := Lib.hid (snV_no h)
    obtain ⟨va, vc, rfl⟩ := hv.shape
    clear hv h hv1 hb0
    go_enter Try.func20, Try.ntmps20
    go_wp2_with fail
    refine HC.out.mono ?_
    rintro e w1 ⟨rfl, rfl⟩
    go_wp2
    go_ret
    exact NsPost.mk' HA.out (nums_none _ _) HB0.out

set_option maxHeartbeats 2000000 in
set_option maxRecDepth 20000 in
theorem implProfilePairs_any (v : Value) (lo hi n : Nat) (Z : Nat → Int) (w : World) (hv : RdI lo hi w v n Z) (hh : hi ≤ w.heap.size) :
    Calls Try.prog 25 #[v] w (IntPost (ppV n Z) w) := by
  by_cases h : PrOk n Z
  · have HC := Lib.hid (profileOf_yes v lo hi n Z w hv h)
    have HS := Lib.hid (pairs_any v lo hi n Z w hv h hh)
    have HA := Lib.hid (ppV_yes h)
    obtain ⟨P, eP⟩ : ∃ P, prN Z n = P := ⟨_, rfl⟩
    rw [eP] at HS HA
    obtain ⟨va, vc, rfl⟩ := hv.shape
    clear hv h eP
    go_enter Try.func25, Try.ntmps25
    go_wp2_with fail
    refine HC.out.mono ?_
    rintro e w1 ⟨rfl, rfl⟩
    go_wp2_with fail
    refine HS.out.mono ?_
    rintro e w2 ⟨rfl, hb2⟩
    have HB2 := Lib.hid hb2
    clear hb2
    go_wp2
    go_ret
    exact ⟨by rw [HA.out]; rfl, HB2.out⟩
  · have HC := Lib.hid (profileOf_no v lo hi n Z w hv h)
    have HA := Lib.hid (ppV_no h)
    obtain ⟨va, vc, rfl⟩ := hv.shape
    clear hv h
    go_enter Try.func25, Try.ntmps25
    go_wp2_with fail
    refine HC.out.mono ?_
    rintro e w1 ⟨rfl, rfl⟩
    go_wp2
    go_ret
    exact ⟨by rw [HA.out]; rfl, Below.refl _ _⟩

end Go.Proofs.Ytgcebhmenffbjab
